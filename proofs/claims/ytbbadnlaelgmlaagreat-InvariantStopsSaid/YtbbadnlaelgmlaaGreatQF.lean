/-
  The law InvariantStops (written by gen/inv_QF.py; stage 17).
-/
import Derived.Test.YtbbadnlaelgmlaaGreatQD
import Derived.Test.YtbbadnlaelgmlaaGreatPZB4
import Derived.Test.YtbbadnlaelgmlaaGreatPZA3
set_option linter.unusedVariables false
set_option linter.unusedSimpArgs false
namespace Go.Proofs.YtbbadnlaelgmlaaGreat
open Go.RowKit
set_option maxRecDepth 100000
set_option linter.unusedVariables false
set_option linter.unusedSimpArgs false

theorem c_stopT (z : Sn) (x : Rep) (d' : WorldD) (er : Int) (hq : stopP z.d x = (d', er)) (hm : z.d.reps.length ≤ 1000) (hm2 : z.d.hosts.length ≤ 1000) (w : World) (h : SnAt w z) :
    Calls Tryz.prog 22 #[.agg #[.slice z.q.a1 z.d.hosts.length z.q.c1, .slice z.q.a2 z.d.reps.length z.q.c2], .agg #[.int .i64 x.svc, .int .i64 x.host]] w fun e w' => ∃ p, e = .returned (.tuple #[.agg #[.slice p.a1 d'.hosts.length p.c1, .slice p.a2 d'.reps.length p.c2], .int .i64 er]) ∧ OwnW w.heap.size w' p d' ∧ Below w.heap.size w w' := by
  refine (c_wrStop z.q z.d x hm hm2 w h.wo).mono fun e w' q => ?_
  obtain ⟨p, e1, e2, e3⟩ := q
  rw [hq] at e1 e2
  exact ⟨p, e1, e2, e3⟩
theorem stop_is {z : Sn} (ok : z.Ok) {x : Rep} (hx : x ∈ z.d.reps) : stopP z.d x = (⟨z.d.hosts, stopL z.d.reps x⟩, 0) := by
  unfold stopP
  rw [if_pos ok.2.2.2.2.2.2, if_pos (by unfold hasB; exact decide_eq_true hx)]
/-- Where a world's lists lie: not in the block g. -/
def Far (p : WP) (g : Nat) : Prop := (∀ b o, p.a1 = some ⟨b, o, none⟩ → b ≠ g) ∧ ∀ b o, p.a2 = some ⟨b, o, none⟩ → b ≠ g
theorem own_in {w : World} {base : Nat} {e : TypeId} {size n c b o : Nat} {A : Option Addr} {xs : List Value} (h : w.ownsRow base e size (.slice A n c) n xs) (hA : A = some ⟨b, o, none⟩) : base ≤ b ∧ b < w.heap.size :=
  ownsRow_lt h (g := b) (by rw [hA]; rfl)
theorem own_far {base g : Nat} {w : World} {p : WP} {d : WorldD} (h : OwnW base w p d) (hg : g < base ∨ w.heap.size ≤ g) : Far p g :=
  ⟨fun b o e => by have := own_in h.1 e; omega, fun b o e => by have := own_in h.2 e; omega⟩
theorem rv_off {α : Type} {k : Nat} {F : α → Nat → Value} {w : World} {A : Option Addr} {c g i : Nat} {l : List α} {v : Value} (h : Rv k F w A c l) (hne : ∀ b o, A = some ⟨b, o, none⟩ → b ≠ g) : Rv k F (w.setCell ⟨g, i, none⟩ v) A c l := by
  obtain ⟨h1, h2, h3, h4⟩ := h
  refine ⟨h1, h2, h3, fun h0 => ?_⟩
  obtain ⟨b, o, e, hlt, hc⟩ := h4 h0
  refine ⟨b, o, e, by simpa [World.setCell] using hlt, fun q x hq i hi => ?_⟩
  have hb := hne b o e
  have e2 := hc q x hq i hi
  unfold World.cell? at e2 ⊢
  simp only at e2 ⊢
  rw [Below.heap_setCell _ ⟨g, _, none⟩ v b hb]
  exact e2
theorem wo_off {w : World} {p : WP} {d : WorldD} {g i : Nat} {v : Value} (h : WoAt w p d) (hf : Far p g) : WoAt (w.setCell ⟨g, i, none⟩ v) p d := ⟨rv_off h.hosts hf.1, rv_off h.reps hf.2, h.phase⟩
set_option maxHeartbeats 64000000 in
theorem w_InvariantStops (z : Sn) (w : World) (hz : SnAt w z) (at_ : Int) :
    Calls Tryz.prog 6 #[.agg #[.slice z.p.a1 z.s.feeds.length z.p.c1, .slice z.p.a2 z.s.brks.length z.p.c2, .slice z.p.a3 z.s.loops.length z.p.c3, .slice z.p.a4 z.s.racks.length z.p.c4, .int .i64 z.s.sw, .slice z.p.a5 z.s.links.length z.p.c5, .slice z.p.a6 z.s.hosts.length z.p.c6], .agg #[.slice z.A z.xs.length z.c], .agg #[.slice z.q.a1 z.d.hosts.length z.q.c1, .slice z.q.a2 z.d.reps.length z.q.c2], .int .i64 at_] w fun e w' => e = .returned (.bool true) ∧ Below w.heap.size w w' := by
  have HPH := Lib.hid hz.wo.phase
  obtain ⟨W1, h1⟩ : ∃ W, W = w.alloc (.cells #[.slice z.p.a1 z.s.feeds.length z.p.c1, .slice z.p.a2 z.s.brks.length z.p.c2, .slice z.p.a3 z.s.loops.length z.p.c3, .slice z.p.a4 z.s.racks.length z.p.c4, .int .i64 z.s.sw, .slice z.p.a5 z.s.links.length z.p.c5, .slice z.p.a6 z.s.hosts.length z.p.c6] 29) := ⟨_, rfl⟩
  obtain ⟨W2, h2⟩ : ∃ W, W = W1.alloc (.cells #[.slice z.A z.xs.length z.c] 32) := ⟨_, rfl⟩
  obtain ⟨W, h3⟩ : ∃ W, W = W2.alloc (.cells #[.slice z.q.a1 z.d.hosts.length z.q.c1, .slice z.q.a2 z.d.reps.length z.q.c2] 36) := ⟨_, rfl⟩
  obtain ⟨B0, X1⟩ := sn_boxes h1 h2 h3
  have z3 : W.heap.size = w.heap.size + 1 + 1 + 1 := sn_size h1 h2 h3
  have HB := Lib.hid B0
  have Z0 := hz.on B0 (Nat.le_refl _)
  have HZ := Lib.hid (fun (X : World) (hX : Below W.heap.size W X) => Z0.on hX (Nat.le_refl _))
  have HF := Lib.hid (fun (X : World) (hX : Below W.heap.size W X) => ((X1.on hX (Nat.le_refl _)).cells : X.cell? ⟨w.heap.size, 0, none⟩ = some (.slice z.p.a1 z.s.feeds.length z.p.c1) ∧ X.cell? ⟨w.heap.size, 1, none⟩ = some (.slice z.p.a2 z.s.brks.length z.p.c2) ∧ X.cell? ⟨w.heap.size, 2, none⟩ = some (.slice z.p.a3 z.s.loops.length z.p.c3) ∧ X.cell? ⟨w.heap.size, 3, none⟩ = some (.slice z.p.a4 z.s.racks.length z.p.c4) ∧ X.cell? ⟨w.heap.size, 4, none⟩ = some (.int .i64 z.s.sw) ∧ X.cell? ⟨w.heap.size, 5, none⟩ = some (.slice z.p.a5 z.s.links.length z.p.c5) ∧ X.cell? ⟨w.heap.size, 6, none⟩ = some (.slice z.p.a6 z.s.hosts.length z.p.c6) ∧ X.cell? ⟨w.heap.size + 1, 0, none⟩ = some (.slice z.A z.xs.length z.c) ∧ X.cell? ⟨w.heap.size + 1 + 1, 0, none⟩ = some (.slice z.q.a1 z.d.hosts.length z.q.c1) ∧ X.cell? ⟨w.heap.size + 1 + 1, 1, none⟩ = some (.slice z.q.a2 z.d.reps.length z.q.c2)))
  have HX := Lib.hid (fun (X : World) (hX : Below W.heap.size W X) => X1.on hX (Nat.le_refl _))
  have HKW := Lib.hid (Below.refl W.heap.size W)
  have hle := HB.out.size
  obtain ⟨n1, n2, n3, n4, n5, n6, n7, n8⟩ := hz.bounds
  clear hz B0 X1 z3 Z0
  obtain ⟨f0, f1, f2, f3, f4, f5, f6, g0, g1, g2⟩ := HF.out W HKW.out
  rw [h3, h2, h1] at f0 f1 f2 f3 f4 f5 f6 g0 g1 g2
  generalize hBB : w.heap.size = B at *
  go_enter Tryz.func6, Tryz.ntmps6
  go_wp2_with (fail)
  rw [← h1, ← h2, ← h3]
  clear h1 h2 h3 f0 f1 f2 f3 f4 f5 f6 g0 g1 g2
  obtain ⟨r, hr⟩ := bool_of (FewI z)
  have HR := Lib.hid hr
  obtain ⟨r0, hr0⟩ := bool_of z.Ok
  have HR0 := Lib.hid hr0
  clear hr hr0
  go_at_call 10
  refine (c_few z r HR.out W (HZ.out _ HKW.out)).mono ?_
  rintro e v1 ⟨rfl, bb⟩
  have HKv1 := Lib.hid (below_join HKW.out bb HKW.out.size)
  clear bb
  rcases r with _ | _
  · go_wp2_with (fail)
    go_at_call 11
    refine (c_live v1).mono ?_
    rintro e v2 ⟨rfl, bb⟩
    have HKv2 := Lib.hid (below_join HKv1.out bb HKv1.out.size)
    clear bb
    go_wp2_with (fail)
    go_ret
    exact ⟨rfl, below_join HB.out HKv2.out hle⟩
  have hfew := HR.out.1 (by trivial)
  unfold FewI at hfew
  have hfr : z.d.reps.length ≤ 60 := hfew.2.2.2.2.2.2.2.2
  have hfh : z.d.hosts.length ≤ 60 := hfew.2.2.2.2.2.2.2.1
  clear hfew
  obtain ⟨f0, f1, f2, f3, f4, f5, f6, g0, g1, g2⟩ := HF.out v1 HKv1.out
  go_wp2_with (fail)
  clear f0 f1 f2 f3 f4 f5 f6 g0 g1 g2
  go_at_call 21
  refine (c_wvTo z r0 HR0.out v1 (HZ.out _ HKv1.out)).mono ?_
  rintro e v3 ⟨rfl, bb⟩
  have HKv3 := Lib.hid (below_join HKv1.out bb HKv1.out.size)
  clear bb
  rcases r0 with _ | _
  · go_wp2_with (fail)
    go_at_call 11
    refine (c_live v3).mono ?_
    rintro e v4 ⟨rfl, bb⟩
    have HKv4 := Lib.hid (below_join HKv3.out bb HKv3.out.size)
    clear bb
    go_wp2_with (fail)
    go_ret
    exact ⟨rfl, below_join HB.out HKv4.out hle⟩
  have HOK := Lib.hid (HR0.out.1 (by trivial))
  obtain ⟨f0, f1, f2, f3, f4, f5, f6, g0, g1, g2⟩ := HF.out v3 HKv3.out
  rcases hn0 : ((z.d.reps.length : Int) == 0) with _ | _
  rotate_left
  · go_wp2_with (fail)
    go_at_call 11
    refine (c_live v3).mono ?_
    rintro e v5 ⟨rfl, bb⟩
    have HKv5 := Lib.hid (below_join HKv3.out bb HKv3.out.size)
    clear bb
    go_wp2_with (fail)
    go_ret
    exact ⟨rfl, below_join HB.out HKv5.out hle⟩
  have hn1 : 0 < z.d.reps.length := by rw [beq_eq_false_iff_ne] at hn0; omega
  go_wp2_with (fail)
  clear f0 f1 f2 f3 f4 f5 f6 g0 g1 g2
  obtain ⟨u, hu⟩ : ∃ u, IntKind.u64.wrap at_ = u := ⟨_, rfl⟩
  have hk0 : 0 ≤ u % (z.d.reps.length : Int) := Int.emod_nonneg _ (by omega)
  have hk1 : u % (z.d.reps.length : Int) < z.d.reps.length := Int.emod_lt_of_pos _ (by omega)
  have hu0 : 0 ≤ u := by rw [← hu, IntKind.wrap_u64]; omega
  obtain ⟨k, hk⟩ : ∃ k : Nat, u % (z.d.reps.length : Int) = (k : Int) := ⟨(u % (z.d.reps.length : Int)).toNat, by omega⟩
  have ht : u.tmod (z.d.reps.length : Int) = (k : Int) := by rw [Int.tmod_eq_emod_of_nonneg hu0, hk]
  have hkl : k < z.d.reps.length := by omega
  have hw1 : IntKind.u64.wrap (z.d.reps.length : Int) = (z.d.reps.length : Int) := IntWalk.u64_in _ (by omega)
  have hw2 : IntKind.u64.wrap (k : Int) = (k : Int) := IntWalk.u64_in _ (by omega)
  have hw3 : IntKind.i64.wrap (k : Int) = (k : Int) := wrap_in (by omega) (by omega)
  have hki : ((k : Nat) : Int).toNat = k := by omega
  have hki2 : (k : Int) < (z.d.reps.length : Int) := by omega
  have hne0 : ¬ ((z.d.reps.length : Int) = 0) := by omega
  have hne1 : ¬ (z.d.reps = []) := fun e => by rw [e] at hn1; exact absurd hn1 (by simp)
  obtain ⟨x, hx⟩ : ∃ x, z.d.reps[k]? = some x := ⟨_, List.getElem?_eq_getElem hkl⟩
  have HXM := Lib.hid (List.mem_of_getElem? hx)
  have HST := Lib.hid (stop_is HOK.out HXM.out)
  obtain ⟨d', hd'⟩ : ∃ d', (⟨z.d.hosts, stopL z.d.reps x⟩ : WorldD) = d' := ⟨_, rfl⟩
  rw [hd'] at HST
  have HDH := Lib.hid (show d'.hosts = z.d.hosts by rw [← hd'])
  have HDR := Lib.hid (show d'.reps.Sublist z.d.reps by rw [← hd']; exact stopL_sub _ _)
  have hrow := (HZ.out W HKW.out).wo.reps
  obtain ⟨pb, po, pe, -, -⟩ := hrow.at_ hx
  have HCT := Lib.hid (fun (X : World) (hX : Below W.heap.size W X) => c_stopT z x d' 0 HST.out (by omega) (by omega) X (HZ.out X hX))
  rw [pe] at HCT
  have HS := Lib.hid (fun (X : World) (hX : Below W.heap.size W X) => (by
    obtain ⟨f0, f1, f2, f3, f4, f5, f6, g0, g1, g2⟩ := HF.out X hX
    have r := (HZ.out X hX).wo.reps
    rw [pe] at r g2
    exact ⟨f0, f1, f2, f3, f4, f5, f6, g0, g1, g2, rep_at r hx⟩ : X.cell? ⟨B, 0, none⟩ = some (.slice z.p.a1 z.s.feeds.length z.p.c1) ∧ X.cell? ⟨B, 1, none⟩ = some (.slice z.p.a2 z.s.brks.length z.p.c2) ∧ X.cell? ⟨B, 2, none⟩ = some (.slice z.p.a3 z.s.loops.length z.p.c3) ∧ X.cell? ⟨B, 3, none⟩ = some (.slice z.p.a4 z.s.racks.length z.p.c4) ∧ X.cell? ⟨B, 4, none⟩ = some (.int .i64 z.s.sw) ∧ X.cell? ⟨B, 5, none⟩ = some (.slice z.p.a5 z.s.links.length z.p.c5) ∧ X.cell? ⟨B, 6, none⟩ = some (.slice z.p.a6 z.s.hosts.length z.p.c6) ∧ X.cell? ⟨B + 1, 0, none⟩ = some (.slice z.A z.xs.length z.c) ∧ X.cell? ⟨B + 1 + 1, 0, none⟩ = some (.slice z.q.a1 z.d.hosts.length z.q.c1) ∧ X.cell? ⟨B + 1 + 1, 1, none⟩ = some (.slice (some ⟨pb, po, none⟩) z.d.reps.length z.q.c2) ∧ X.cell? ⟨pb, po + k * 2, none⟩ = some (.int .i64 x.svc) ∧ X.cell? ⟨pb, po + k * 2 + 1, none⟩ = some (.int .i64 x.host)))
  clear hrow hx hd' hk hk0 hk1 hu0 pe
  refine wp_region_held_drew (S := fun X => X.cell? ⟨B, 0, none⟩ = some (.slice z.p.a1 z.s.feeds.length z.p.c1) ∧ X.cell? ⟨B, 1, none⟩ = some (.slice z.p.a2 z.s.brks.length z.p.c2) ∧ X.cell? ⟨B, 2, none⟩ = some (.slice z.p.a3 z.s.loops.length z.p.c3) ∧ X.cell? ⟨B, 3, none⟩ = some (.slice z.p.a4 z.s.racks.length z.p.c4) ∧ X.cell? ⟨B, 4, none⟩ = some (.int .i64 z.s.sw) ∧ X.cell? ⟨B, 5, none⟩ = some (.slice z.p.a5 z.s.links.length z.p.c5) ∧ X.cell? ⟨B, 6, none⟩ = some (.slice z.p.a6 z.s.hosts.length z.p.c6) ∧ X.cell? ⟨B + 1, 0, none⟩ = some (.slice z.A z.xs.length z.c) ∧ X.cell? ⟨B + 1 + 1, 0, none⟩ = some (.slice z.q.a1 z.d.hosts.length z.q.c1) ∧ X.cell? ⟨B + 1 + 1, 1, none⟩ = some (.slice (some ⟨pb, po, none⟩) z.d.reps.length z.q.c2) ∧ X.cell? ⟨pb, po + k * 2, none⟩ = some (.int .i64 x.svc) ∧ X.cell? ⟨pb, po + k * 2 + 1, none⟩ = some (.int .i64 x.host)) (by kernel_rfl) (HS.out _ HKv3.out.drew) (fun hHeld => ?_)
  have HKX0 := Lib.hid (show Below W.heap.size W v3.drew from HKv3.out.drew)
  generalize hX0 : v3.drew = X0 at *
  clear hX0
  refine takeH (i := 0) 36 (v := ?_) rfl rfl (by kernel_rfl) (by kernel_rfl) (by kernel_rfl) (fun _ _ _ h => h) (by rfl) ?_ hHeld ?_
  rotate_left
  · intro X hX; obtain ⟨hq0, hq1, hq2, hq3, hq4, hq5, hq6, hq7, hq8, hq9, hq10, hq11⟩ := hX; first | (go_simp; done) | (go_simp; with_reducible rfl)
  try simp only [Act.put, List.setIfInBounds_toArray, List.set_cons_zero, List.set_cons_succ]
  refine takeH (i := 1) 37 (v := ?_) rfl rfl (by kernel_rfl) (by kernel_rfl) (by kernel_rfl) (fun _ _ _ h => h) (by rfl) ?_ hHeld ?_
  rotate_left
  · intro X hX; obtain ⟨hq0, hq1, hq2, hq3, hq4, hq5, hq6, hq7, hq8, hq9, hq10, hq11⟩ := hX; first | (go_simp; done) | (go_simp; with_reducible rfl)
  try simp only [Act.put, List.setIfInBounds_toArray, List.set_cons_zero, List.set_cons_succ]
  refine takeH (i := 2) 38 (v := ?_) rfl rfl (by kernel_rfl) (by kernel_rfl) (by kernel_rfl) (fun _ _ _ h => h) (by rfl) ?_ hHeld ?_
  rotate_left
  · intro X hX; obtain ⟨hq0, hq1, hq2, hq3, hq4, hq5, hq6, hq7, hq8, hq9, hq10, hq11⟩ := hX; first | (go_simp; done) | (go_simp; with_reducible rfl)
  try simp only [Act.put, List.setIfInBounds_toArray, List.set_cons_zero, List.set_cons_succ]
  refine takeH (i := 3) 39 (v := ?_) rfl rfl (by kernel_rfl) (by kernel_rfl) (by kernel_rfl) (fun _ _ _ h => h) (by rfl) ?_ hHeld ?_
  rotate_left
  · intro X hX; obtain ⟨hq0, hq1, hq2, hq3, hq4, hq5, hq6, hq7, hq8, hq9, hq10, hq11⟩ := hX; first | (go_simp; done) | (go_simp; with_reducible rfl)
  try simp only [Act.put, List.setIfInBounds_toArray, List.set_cons_zero, List.set_cons_succ]
  refine takeH (i := 4) 40 (v := ?_) rfl rfl (by kernel_rfl) (by kernel_rfl) (by kernel_rfl) (fun _ _ _ h => h) (by rfl) ?_ hHeld ?_
  rotate_left
  · intro X hX; obtain ⟨hq0, hq1, hq2, hq3, hq4, hq5, hq6, hq7, hq8, hq9, hq10, hq11⟩ := hX; first | (go_simp; done) | (go_simp; with_reducible rfl)
  try simp only [Act.put, List.setIfInBounds_toArray, List.set_cons_zero, List.set_cons_succ]
  refine takeH (i := 5) 41 (v := ?_) rfl rfl (by kernel_rfl) (by kernel_rfl) (by kernel_rfl) (fun _ _ _ h => h) (by rfl) ?_ hHeld ?_
  rotate_left
  · intro X hX; obtain ⟨hq0, hq1, hq2, hq3, hq4, hq5, hq6, hq7, hq8, hq9, hq10, hq11⟩ := hX; first | (go_simp; done) | (go_simp; with_reducible rfl)
  try simp only [Act.put, List.setIfInBounds_toArray, List.set_cons_zero, List.set_cons_succ]
  refine takeH (i := 6) 42 (v := ?_) rfl rfl (by kernel_rfl) (by kernel_rfl) (by kernel_rfl) (fun _ _ _ h => h) (by rfl) ?_ hHeld ?_
  rotate_left
  · intro X hX; obtain ⟨hq0, hq1, hq2, hq3, hq4, hq5, hq6, hq7, hq8, hq9, hq10, hq11⟩ := hX; first | (go_simp; done) | (go_simp; with_reducible rfl)
  try simp only [Act.put, List.setIfInBounds_toArray, List.set_cons_zero, List.set_cons_succ]
  refine takeH (i := 7) 43 (v := ?_) rfl rfl (by kernel_rfl) (by kernel_rfl) (by kernel_rfl) (fun _ _ _ h => h) (by rfl) ?_ hHeld ?_
  rotate_left
  · intro X hX; obtain ⟨hq0, hq1, hq2, hq3, hq4, hq5, hq6, hq7, hq8, hq9, hq10, hq11⟩ := hX; first | (go_simp; done) | (go_simp; with_reducible rfl)
  try simp only [Act.put, List.setIfInBounds_toArray, List.set_cons_zero, List.set_cons_succ]
  refine takeH (i := 8) 44 (v := ?_) rfl rfl (by kernel_rfl) (by kernel_rfl) (by kernel_rfl) (fun _ _ _ h => h) (by rfl) ?_ hHeld ?_
  rotate_left
  · intro X hX; obtain ⟨hq0, hq1, hq2, hq3, hq4, hq5, hq6, hq7, hq8, hq9, hq10, hq11⟩ := hX; first | (go_simp; done) | (go_simp; with_reducible rfl)
  try simp only [Act.put, List.setIfInBounds_toArray, List.set_cons_zero, List.set_cons_succ]
  refine takeH (i := 9) 45 (v := ?_) rfl rfl (by kernel_rfl) (by kernel_rfl) (by kernel_rfl) (fun _ _ _ h => h) (by rfl) ?_ hHeld ?_
  rotate_left
  · intro X hX; obtain ⟨hq0, hq1, hq2, hq3, hq4, hq5, hq6, hq7, hq8, hq9, hq10, hq11⟩ := hX; first | (go_simp; done) | (go_simp; with_reducible rfl)
  try simp only [Act.put, List.setIfInBounds_toArray, List.set_cons_zero, List.set_cons_succ]
  refine takeH (i := 10) 46 (v := ?_) rfl rfl (by kernel_rfl) (by kernel_rfl) (by kernel_rfl) (fun _ _ _ h => h) (by rfl) ?_ hHeld ?_
  rotate_left
  · intro X hX; obtain ⟨hq0, hq1, hq2, hq3, hq4, hq5, hq6, hq7, hq8, hq9, hq10, hq11⟩ := hX; first | (go_simp; done) | (go_simp; with_reducible rfl)
  try simp only [Act.put, List.setIfInBounds_toArray, List.set_cons_zero, List.set_cons_succ]
  refine takeH (i := 11) 47 (v := ?_) rfl rfl (by kernel_rfl) (by kernel_rfl) (by kernel_rfl) (fun _ _ _ h => h) (by rfl) ?_ hHeld ?_
  rotate_left
  · intro X hX; obtain ⟨hq0, hq1, hq2, hq3, hq4, hq5, hq6, hq7, hq8, hq9, hq10, hq11⟩ := hX; first | (go_simp; done) | (go_simp; with_reducible rfl)
  try simp only [Act.put, List.setIfInBounds_toArray, List.set_cons_zero, List.set_cons_succ]
  refine takeH (i := 12) 48 (v := ?_) rfl rfl (by kernel_rfl) (by kernel_rfl) (by kernel_rfl) (fun _ _ _ h => h) (by rfl) ?_ hHeld ?_
  rotate_left
  · intro X hX; obtain ⟨hq0, hq1, hq2, hq3, hq4, hq5, hq6, hq7, hq8, hq9, hq10, hq11⟩ := hX; first | (go_simp; done) | (go_simp; with_reducible rfl)
  try simp only [Act.put, List.setIfInBounds_toArray, List.set_cons_zero, List.set_cons_succ]
  refine wpAnyH_ready (rs := [13, 17]) (by kernel_rfl) (by simp) ?_
  refine AllReadyH.cons rfl (fun K hK => ?_) (AllReadyH.cons rfl (fun K hK => ?_) (AllReadyH.nil))
  · go_simp
    go_at_call 22
    refine (HCT.out X0 HKX0.out).mono ?_
    rintro e X201 ⟨p', rfl, ow, bb⟩
    have HKX201 := Lib.hid (below_join HKX0.out bb HKX0.out.size)
    have OWX201 := Lib.hid (ow.wo (by rw [HDH.out]; exact HPH.out))
    have OWN := Lib.hid (show ∀ g, X201.heap.size ≤ g → Far p' g from fun g hg => own_far ow (.inr hg))
    clear ow bb
    try dsimp only
    clear hHeld
    refine hK.out _ _ (HS.out _ HKX201.out) (fun hHeld => ?_)
    clear hK K
    try simp only [Act.put, List.setIfInBounds_toArray, List.set_cons_zero, List.set_cons_succ]
    refine takeH (i := 14) 35 (v := ?_) rfl rfl (by kernel_rfl) (by kernel_rfl) (by kernel_rfl) (fun _ _ _ h => h) (by rfl) ?_ hHeld ?_
    rotate_left
    · intro X hX; obtain ⟨hq0, hq1, hq2, hq3, hq4, hq5, hq6, hq7, hq8, hq9, hq10, hq11⟩ := hX; first | (go_simp; done) | (go_simp; with_reducible rfl)
    try simp only [Act.put, List.setIfInBounds_toArray, List.set_cons_zero, List.set_cons_succ]
    refine takeH (i := 15) 50 (v := ?_) rfl rfl (by kernel_rfl) (by kernel_rfl) (by kernel_rfl) (fun _ _ _ h => h) (by rfl) ?_ hHeld ?_
    rotate_left
    · intro X hX; obtain ⟨hq0, hq1, hq2, hq3, hq4, hq5, hq6, hq7, hq8, hq9, hq10, hq11⟩ := hX; first | (go_simp; done) | (go_simp; with_reducible rfl)
    try simp only [Act.put, List.setIfInBounds_toArray, List.set_cons_zero, List.set_cons_succ]
    refine takeH (i := 16) 51 (v := ?_) rfl rfl (by kernel_rfl) (by kernel_rfl) (by kernel_rfl) (fun _ _ _ h => h) (by rfl) ?_ hHeld ?_
    rotate_left
    · intro X hX; obtain ⟨hq0, hq1, hq2, hq3, hq4, hq5, hq6, hq7, hq8, hq9, hq10, hq11⟩ := hX; first | (go_simp; done) | (go_simp; with_reducible rfl)
    try simp only [Act.put, List.setIfInBounds_toArray, List.set_cons_zero, List.set_cons_succ]
    refine wpAnyH_ready (rs := [17]) (by kernel_rfl) (by simp) ?_
    refine AllReadyH.cons rfl (fun K hK => ?_) (AllReadyH.nil)
    go_simp
    obtain ⟨X202, hX202⟩ : ∃ Y, Y = X201.alloc (.cells #[.slice none 0 0, .slice none 0 0] 36) := ⟨_, rfl⟩
    have bb : Below X201.heap.size X201 X202 := by rw [hX202]; exact (Below.refl _ _).alloc (Nat.le_refl _) _
    have HKX202 := Lib.hid (below_join HKX201.out bb HKX201.out.size)
    have OWX202 := Lib.hid (OWX201.out.on bb (Nat.le_refl _))
    have hg0 : W.heap.size ≤ X201.heap.size := HKX201.out.size
    obtain ⟨gv, hgv⟩ : ∃ g, X201.heap.size = g := ⟨_, rfl⟩
    have GVX202 := Lib.hid (show X202.heap[gv]? = some (.cells #[.slice none 0 0, .slice none 0 0] 36 (0, 0)) by rw [← hgv, hX202]; exact box_new _ _ _)
    have GOFF := Lib.hid (OWN.out gv (by omega))
    rw [hgv] at hg0
    rw [← hX202]
    rw [hgv]
    clear bb hX202 hgv
    try dsimp only
    clear hHeld
    refine hK.out _ _ (HS.out _ HKX202.out) (fun hHeld => ?_)
    clear hK K
    try simp only [Act.put, List.setIfInBounds_toArray, List.set_cons_zero, List.set_cons_succ]
    refine wpAnyH_ready (rs := [18]) (by kernel_rfl) (by simp) ?_
    refine AllReadyH.cons rfl (fun K hK => ?_) (AllReadyH.nil)
    have hgg := GVX202.out
    have hv0 : X202.cell? ⟨gv, 0, none⟩ = some (.slice none 0 0) := cell_of hgg rfl
    have hv1 : X202.cell? ⟨gv, 1, none⟩ = some (.slice none 0 0) := cell_of hgg rfl
    have hf0 := frz0 hgg 0
    have hf1 := frz0 hgg 1
    go_simp
    obtain ⟨X203, hX203⟩ : ∃ Y, Y = ((X202.setCell ⟨gv, 0, none⟩ (.slice p'.a1 d'.hosts.length p'.c1)).setCell ⟨gv, 1, none⟩ (.slice p'.a2 d'.reps.length p'.c2)) := ⟨_, rfl⟩
    have HKX203 := Lib.hid (show Below W.heap.size W X203 by rw [hX203]; exact ends2 HKX202.out hg0 _ _)
    have GVX203 := Lib.hid (show X203.heap[gv]? = some (.cells #[.slice p'.a1 d'.hosts.length p'.c1, .slice p'.a2 d'.reps.length p'.c2] 36 (0, 0)) by rw [hX203]; exact row_store2 hgg _ _)
    have OWX203 := Lib.hid (show WoAt X203 p' d' by rw [hX203]; exact wo_off (wo_off OWX202.out GOFF.out) GOFF.out)
    rw [← hX203]
    clear hgg hv0 hv1 hf0 hf1 hX203
    try dsimp only
    clear hHeld
    refine hK.out _ _ (HS.out _ HKX203.out) (fun hHeld => ?_)
    clear hK K
    try simp only [Act.put, List.setIfInBounds_toArray, List.set_cons_zero, List.set_cons_succ]
    refine takeH (i := 19) 10 (v := ?_) rfl rfl (by kernel_rfl) (by kernel_rfl) (by kernel_rfl) (fun _ _ _ h => h) (by rfl) ?_ hHeld ?_
    rotate_left
    · intro X hX; obtain ⟨hq0, hq1, hq2, hq3, hq4, hq5, hq6, hq7, hq8, hq9, hq10, hq11⟩ := hX; first | (go_simp; done) | (go_simp; with_reducible rfl)
    try simp only [Act.put, List.setIfInBounds_toArray, List.set_cons_zero, List.set_cons_succ]
    refine wpAnyH_done (by kernel_rfl) ?_ _
    have HVB := Lib.hid (fun (Y : World) (hY : Below X203.heap.size X203 Y) => (⟨cell_of (box_on GVX203.out hY (Nat.le_refl _)) rfl, cell_of (box_on GVX203.out hY (Nat.le_refl _)) rfl⟩ : Y.cell? ⟨gv, 0, none⟩ = some (.slice p'.a1 d'.hosts.length p'.c1) ∧ Y.cell? ⟨gv, 1, none⟩ = some (.slice p'.a2 d'.reps.length p'.c2)))
    have HZ2 := Lib.hid (fun (Y : World) (hY : Below X203.heap.size X203 Y) => reW_at (HZ.out Y (below_join HKX203.out hY HKX203.out.size)) (OWX203.out.on hY (Nat.le_refl _)))
    have HJX203 := Lib.hid (Below.refl X203.heap.size X203)
    obtain ⟨r1, hr1⟩ := bool_of (reW z p' d').Ok
    have HR1 := Lib.hid hr1
    obtain ⟨L, hL⟩ : ∃ L, bnV z.s z.ss z.d true = L := ⟨_, rfl⟩
    obtain ⟨M, hM⟩ : ∃ M, bnV z.s z.ss d' r1 = M := ⟨_, rfl⟩
    have hLn : L.length ≤ 4000 := by rw [← hL]; exact bnV_len fun _ => HOK.out
    have hMn : M.length ≤ 4000 := by rw [← hM]; exact bnV_len (z := (reW z p' d')) hr1.1
    have HK3 := Lib.hid (show ∀ j, j ≠ 3 → j ≠ 6 → keptB L (ofL M j) = true from fun j h3 h6 => by rw [← hL, ← hM]; exact kept_of rfl fun hq y hy => fewer_ok HOK.out (show WorldOk z.s z.ss d' from hr1.1 hq) HDR.out HDH.out h3 h6 hy)
    have HLL := Lib.hid hL
    have HMM := Lib.hid hM
    clear hr1 hL hM
    obtain ⟨f0, f1, f2, f3, f4, f5, f6, g0, g1, g2⟩ := HF.out X203 HKX203.out
    obtain ⟨v0, v1⟩ := HVB.out X203 HJX203.out
    go_wp2_with (fail)
    clear f0 f1 f2 f3 f4 f5 f6 g0 g1 g2 v0 v1
    have HS2 := Lib.hid (fun (X : World) (hX : Below W.heap.size W X) (hY : Below X203.heap.size X203 X) => (by obtain ⟨f0, f1, f2, f3, f4, f5, f6, g0, g1, g2⟩ := HF.out X hX; exact ⟨f0, f1, f2, f3, f4, f5, f6, g0, g1, g2, HVB.out X hY⟩ : X.cell? ⟨B, 0, none⟩ = some (.slice z.p.a1 z.s.feeds.length z.p.c1) ∧ X.cell? ⟨B, 1, none⟩ = some (.slice z.p.a2 z.s.brks.length z.p.c2) ∧ X.cell? ⟨B, 2, none⟩ = some (.slice z.p.a3 z.s.loops.length z.p.c3) ∧ X.cell? ⟨B, 3, none⟩ = some (.slice z.p.a4 z.s.racks.length z.p.c4) ∧ X.cell? ⟨B, 4, none⟩ = some (.int .i64 z.s.sw) ∧ X.cell? ⟨B, 5, none⟩ = some (.slice z.p.a5 z.s.links.length z.p.c5) ∧ X.cell? ⟨B, 6, none⟩ = some (.slice z.p.a6 z.s.hosts.length z.p.c6) ∧ X.cell? ⟨B + 1, 0, none⟩ = some (.slice z.A z.xs.length z.c) ∧ X.cell? ⟨B + 1 + 1, 0, none⟩ = some (.slice z.q.a1 z.d.hosts.length z.q.c1) ∧ X.cell? ⟨B + 1 + 1, 1, none⟩ = some (.slice z.q.a2 z.d.reps.length z.q.c2) ∧ X.cell? ⟨gv, 0, none⟩ = some (.slice p'.a1 d'.hosts.length p'.c1) ∧ X.cell? ⟨gv, 1, none⟩ = some (.slice p'.a2 d'.reps.length p'.c2)))
    have HCB := Lib.hid (fun (Y : World) (hY : Below X203.heap.size X203 Y) => (c_Broken (reW z p' d') r1 HR1.out M HMM.out Y (HZ2.out Y hY) : Calls Tryz.prog 13 #[.agg #[.slice z.p.a1 z.s.feeds.length z.p.c1, .slice z.p.a2 z.s.brks.length z.p.c2, .slice z.p.a3 z.s.loops.length z.p.c3, .slice z.p.a4 z.s.racks.length z.p.c4, .int .i64 z.s.sw, .slice z.p.a5 z.s.links.length z.p.c5, .slice z.p.a6 z.s.hosts.length z.p.c6], .agg #[.slice z.A z.xs.length z.c], .agg #[.slice p'.a1 d'.hosts.length p'.c1, .slice p'.a2 d'.reps.length p'.c2]] Y fun e w' => ∃ A c, e = .returned (.slice A M.length c) ∧ Rv 3 bnF w' A c M ∧ Below Y.heap.size Y w'))
    go_region_held3 (fun X => X.cell? ⟨B, 0, none⟩ = some (.slice z.p.a1 z.s.feeds.length z.p.c1) ∧ X.cell? ⟨B, 1, none⟩ = some (.slice z.p.a2 z.s.brks.length z.p.c2) ∧ X.cell? ⟨B, 2, none⟩ = some (.slice z.p.a3 z.s.loops.length z.p.c3) ∧ X.cell? ⟨B, 3, none⟩ = some (.slice z.p.a4 z.s.racks.length z.p.c4) ∧ X.cell? ⟨B, 4, none⟩ = some (.int .i64 z.s.sw) ∧ X.cell? ⟨B, 5, none⟩ = some (.slice z.p.a5 z.s.links.length z.p.c5) ∧ X.cell? ⟨B, 6, none⟩ = some (.slice z.p.a6 z.s.hosts.length z.p.c6) ∧ X.cell? ⟨B + 1, 0, none⟩ = some (.slice z.A z.xs.length z.c) ∧ X.cell? ⟨B + 1 + 1, 0, none⟩ = some (.slice z.q.a1 z.d.hosts.length z.q.c1) ∧ X.cell? ⟨B + 1 + 1, 1, none⟩ = some (.slice z.q.a2 z.d.reps.length z.q.c2) ∧ X.cell? ⟨gv, 0, none⟩ = some (.slice p'.a1 d'.hosts.length p'.c1) ∧ X.cell? ⟨gv, 1, none⟩ = some (.slice p'.a2 d'.reps.length p'.c2))
      (first | exact HS2.out v502 HKv502.out HJv502.out | exact HS2.out v501 HKv501.out HJv501.out | exact HS2.out X203 HKX203.out HJX203.out | fail)
      (first
        | (go_at_call 13; (with_reducible refine (c_Broken z true ⟨fun _ => HOK.out, fun _ => rfl⟩ L HLL.out X203.drew (HZ.out _ HKX203.out.drew)).mono ?_); rintro e v501 ⟨A1, q1, rfl, rv1, bb0⟩; have bb := below_join (Below.refl X203.heap.size X203).drew bb0 (Nat.le_refl _); have HKv501 := Lib.hid (below_join HKX203.out bb HKX203.out.size); have HJv501 := Lib.hid (below_join HJX203.out bb HJX203.out.size); have RAv501 := Lib.hid rv1; clear rv1; clear bb bb0)
        | (go_at_call 13; (with_reducible refine (HCB.out v501 HJv501.out).mono ?_); rintro e v502 ⟨A2, q2, rfl, rv2, bb0⟩; have bb := below_join (Below.refl v501.heap.size v501) bb0 (Nat.le_refl _); have HKv502 := Lib.hid (below_join HKv501.out bb HKv501.out.size); have HJv502 := Lib.hid (below_join HJv501.out bb HJv501.out.size); have RAv502 := Lib.hid (RAv501.out.on bb (Nat.le_refl _)); have RBv502 := Lib.hid rv2; clear rv2; clear bb bb0)
        | fail)
    have HVV := Lib.hid (Below.refl v502.heap.size v502)
    go_wp2_with (fail)
    go_loopw [13] (fun i wr => ∃ j : Nat, 1 ≤ j ∧ j ≤ 11 ∧ i = .int .u8 (j : Int) ∧ Hid (Below v502.heap.size v502 wr)) (fun i _ => 11 - (intOf i).toNat)
    case atStart => exact ⟨1, Nat.le_refl _, by omega, rfl, HVV⟩
    case round =>
      obtain ⟨j, hj1, hj11, rfl, HKwr⟩ := hrel
      have hji : ((j : Nat) : Int).toNat = j := by omega
      have hjw : IntKind.u8.wrap ((j : Int) + 1) = (j : Int) + 1 := by rw [IntKind.wrap_u8]; omega
      by_cases hlt : j ≤ 10
      · have hle10 : (j : Int) ≤ 10 := by omega
        obtain ⟨x9, hx9⟩ : ∃ x, keptX L (ofL M j) = x := ⟨_, rfl⟩
        obtain ⟨b9, hb9⟩ : ∃ x, keptB L (ofL M j) = x := ⟨_, rfl⟩
        have HX9 := Lib.hid hx9
        have HB9 := Lib.hid hb9
        clear hx9 hb9
        go_wp2_with (fail)
        go_at_call 19
        refine (c_ofT A2 q2 M j (j : Int) rfl (by omega) (by omega) wr (RBv502.out.on HKwr.out (Nat.le_refl _))).mono ?_
        rintro e y1 ⟨A9, c9, rfl, r9, bb⟩
        have HKy1 := Lib.hid (below_join HKwr.out bb HKwr.out.size)
        have R9 := Lib.hid r9
        clear bb r9
        go_wp2_with (fail)
        go_at_call 17
        refine (c_kT A1 q1 L A9 c9 (ofL M j) x9 b9 HX9.out HB9.out y1 (RAv502.out.on HKy1.out (Nat.le_refl _)) R9.out).mono ?_
        rintro e y2 ⟨rfl, bb⟩
        have HKy2 := Lib.hid (below_join HKy1.out bb HKy1.out.size)
        clear bb
        obtain ⟨Y, hY⟩ : ∃ Y, Y = y2.alloc (.cells #[.int .u8 (x9.kind : Int), .int .i64 x9.a, .int .i64 x9.b] 44) := ⟨_, rfl⟩
        have HKY := Lib.hid (show Below v502.heap.size v502 Y by rw [hY]; exact HKy2.out.alloc HKy2.out.size _)
        rcases b9 with _ | _
        · have hor : j = 3 ∨ j = 6 := by
            by_cases h3 : j = 3
            · exact .inl h3
            · by_cases h6 : j = 6
              · exact .inr h6
              · have := HK3.out j h3 h6
                rw [HB9.out] at this; cases this
          rcases hor with rfl | rfl
          · go_wp2_with (fail)
            rw [← hY]
            go_roundw
            case rel => exact ⟨3 + 1, by omega, by omega, by go_num, HKY⟩
            case measure => simp only [intOf]; omega
          · go_wp2_with (fail)
            rw [← hY]
            go_roundw
            case rel => exact ⟨6 + 1, by omega, by omega, by go_num, HKY⟩
            case measure => simp only [intOf]; omega
        · go_wp2_with (fail)
          rw [← hY]
          go_roundw
          case rel => exact ⟨j + 1, by omega, by omega, by go_num, HKY⟩
          case measure => simp only [intOf]; omega
      · obtain rfl : j = 11 := by omega
        go_wp2_with (fail)
        go_at_call 11
        refine (c_live wr).mono ?_
        rintro e y1 ⟨rfl, bb⟩
        have HKy1 := Lib.hid (below_join (below_join HKv502.out HKwr.out HKv502.out.size) bb (Nat.le_trans HKv502.out.size HKwr.out.size))
        clear bb
        go_wp2_with (fail)
        go_ret
        exact ⟨rfl, below_join HB.out HKy1.out hle⟩
  · go_simp
    obtain ⟨X204, hX204⟩ : ∃ Y, Y = X0.alloc (.cells #[.slice none 0 0, .slice none 0 0] 36) := ⟨_, rfl⟩
    have bb : Below X0.heap.size X0 X204 := by rw [hX204]; exact (Below.refl _ _).alloc (Nat.le_refl _) _
    have HKX204 := Lib.hid (below_join HKX0.out bb HKX0.out.size)
    have hg0 : W.heap.size ≤ X0.heap.size := HKX0.out.size
    obtain ⟨gv, hgv⟩ : ∃ g, X0.heap.size = g := ⟨_, rfl⟩
    have GVX204 := Lib.hid (show X204.heap[gv]? = some (.cells #[.slice none 0 0, .slice none 0 0] 36 (0, 0)) by rw [← hgv, hX204]; exact box_new _ _ _)
    rw [hgv] at hg0
    rw [← hX204]
    rw [hgv]
    clear bb hX204 hgv
    try dsimp only
    clear hHeld
    refine hK.out _ _ (HS.out _ HKX204.out) (fun hHeld => ?_)
    clear hK K
    try simp only [Act.put, List.setIfInBounds_toArray, List.set_cons_zero, List.set_cons_succ]
    refine wpAnyH_ready (rs := [13]) (by kernel_rfl) (by simp) ?_
    refine AllReadyH.cons rfl (fun K hK => ?_) (AllReadyH.nil)
    go_simp
    go_at_call 22
    refine (HCT.out X204 HKX204.out).mono ?_
    rintro e X205 ⟨p', rfl, ow, bb⟩
    have HKX205 := Lib.hid (below_join HKX204.out bb HKX204.out.size)
    have OWX205 := Lib.hid (ow.wo (by rw [HDH.out]; exact HPH.out))
    have GOFF := Lib.hid (own_far ow (g := gv) (.inl (at_lt GVX204.out)))
    have GVX205 := Lib.hid (box_on GVX204.out bb (Nat.le_refl _))
    clear ow bb
    try dsimp only
    clear hHeld
    refine hK.out _ _ (HS.out _ HKX205.out) (fun hHeld => ?_)
    clear hK K
    try simp only [Act.put, List.setIfInBounds_toArray, List.set_cons_zero, List.set_cons_succ]
    refine takeH (i := 14) 35 (v := ?_) rfl rfl (by kernel_rfl) (by kernel_rfl) (by kernel_rfl) (fun _ _ _ h => h) (by rfl) ?_ hHeld ?_
    rotate_left
    · intro X hX; obtain ⟨hq0, hq1, hq2, hq3, hq4, hq5, hq6, hq7, hq8, hq9, hq10, hq11⟩ := hX; first | (go_simp; done) | (go_simp; with_reducible rfl)
    try simp only [Act.put, List.setIfInBounds_toArray, List.set_cons_zero, List.set_cons_succ]
    refine takeH (i := 15) 50 (v := ?_) rfl rfl (by kernel_rfl) (by kernel_rfl) (by kernel_rfl) (fun _ _ _ h => h) (by rfl) ?_ hHeld ?_
    rotate_left
    · intro X hX; obtain ⟨hq0, hq1, hq2, hq3, hq4, hq5, hq6, hq7, hq8, hq9, hq10, hq11⟩ := hX; first | (go_simp; done) | (go_simp; with_reducible rfl)
    try simp only [Act.put, List.setIfInBounds_toArray, List.set_cons_zero, List.set_cons_succ]
    refine takeH (i := 16) 51 (v := ?_) rfl rfl (by kernel_rfl) (by kernel_rfl) (by kernel_rfl) (fun _ _ _ h => h) (by rfl) ?_ hHeld ?_
    rotate_left
    · intro X hX; obtain ⟨hq0, hq1, hq2, hq3, hq4, hq5, hq6, hq7, hq8, hq9, hq10, hq11⟩ := hX; first | (go_simp; done) | (go_simp; with_reducible rfl)
    try simp only [Act.put, List.setIfInBounds_toArray, List.set_cons_zero, List.set_cons_succ]
    refine wpAnyH_ready (rs := [18]) (by kernel_rfl) (by simp) ?_
    refine AllReadyH.cons rfl (fun K hK => ?_) (AllReadyH.nil)
    have hgg := GVX205.out
    have hv0 : X205.cell? ⟨gv, 0, none⟩ = some (.slice none 0 0) := cell_of hgg rfl
    have hv1 : X205.cell? ⟨gv, 1, none⟩ = some (.slice none 0 0) := cell_of hgg rfl
    have hf0 := frz0 hgg 0
    have hf1 := frz0 hgg 1
    go_simp
    obtain ⟨X206, hX206⟩ : ∃ Y, Y = ((X205.setCell ⟨gv, 0, none⟩ (.slice p'.a1 d'.hosts.length p'.c1)).setCell ⟨gv, 1, none⟩ (.slice p'.a2 d'.reps.length p'.c2)) := ⟨_, rfl⟩
    have HKX206 := Lib.hid (show Below W.heap.size W X206 by rw [hX206]; exact ends2 HKX205.out hg0 _ _)
    have GVX206 := Lib.hid (show X206.heap[gv]? = some (.cells #[.slice p'.a1 d'.hosts.length p'.c1, .slice p'.a2 d'.reps.length p'.c2] 36 (0, 0)) by rw [hX206]; exact row_store2 hgg _ _)
    have OWX206 := Lib.hid (show WoAt X206 p' d' by rw [hX206]; exact wo_off (wo_off OWX205.out GOFF.out) GOFF.out)
    rw [← hX206]
    clear hgg hv0 hv1 hf0 hf1 hX206
    try dsimp only
    clear hHeld
    refine hK.out _ _ (HS.out _ HKX206.out) (fun hHeld => ?_)
    clear hK K
    try simp only [Act.put, List.setIfInBounds_toArray, List.set_cons_zero, List.set_cons_succ]
    refine takeH (i := 19) 10 (v := ?_) rfl rfl (by kernel_rfl) (by kernel_rfl) (by kernel_rfl) (fun _ _ _ h => h) (by rfl) ?_ hHeld ?_
    rotate_left
    · intro X hX; obtain ⟨hq0, hq1, hq2, hq3, hq4, hq5, hq6, hq7, hq8, hq9, hq10, hq11⟩ := hX; first | (go_simp; done) | (go_simp; with_reducible rfl)
    try simp only [Act.put, List.setIfInBounds_toArray, List.set_cons_zero, List.set_cons_succ]
    refine wpAnyH_done (by kernel_rfl) ?_ _
    have HVB := Lib.hid (fun (Y : World) (hY : Below X206.heap.size X206 Y) => (⟨cell_of (box_on GVX206.out hY (Nat.le_refl _)) rfl, cell_of (box_on GVX206.out hY (Nat.le_refl _)) rfl⟩ : Y.cell? ⟨gv, 0, none⟩ = some (.slice p'.a1 d'.hosts.length p'.c1) ∧ Y.cell? ⟨gv, 1, none⟩ = some (.slice p'.a2 d'.reps.length p'.c2)))
    have HZ2 := Lib.hid (fun (Y : World) (hY : Below X206.heap.size X206 Y) => reW_at (HZ.out Y (below_join HKX206.out hY HKX206.out.size)) (OWX206.out.on hY (Nat.le_refl _)))
    have HJX206 := Lib.hid (Below.refl X206.heap.size X206)
    obtain ⟨r1, hr1⟩ := bool_of (reW z p' d').Ok
    have HR1 := Lib.hid hr1
    obtain ⟨L, hL⟩ : ∃ L, bnV z.s z.ss z.d true = L := ⟨_, rfl⟩
    obtain ⟨M, hM⟩ : ∃ M, bnV z.s z.ss d' r1 = M := ⟨_, rfl⟩
    have hLn : L.length ≤ 4000 := by rw [← hL]; exact bnV_len fun _ => HOK.out
    have hMn : M.length ≤ 4000 := by rw [← hM]; exact bnV_len (z := (reW z p' d')) hr1.1
    have HK3 := Lib.hid (show ∀ j, j ≠ 3 → j ≠ 6 → keptB L (ofL M j) = true from fun j h3 h6 => by rw [← hL, ← hM]; exact kept_of rfl fun hq y hy => fewer_ok HOK.out (show WorldOk z.s z.ss d' from hr1.1 hq) HDR.out HDH.out h3 h6 hy)
    have HLL := Lib.hid hL
    have HMM := Lib.hid hM
    clear hr1 hL hM
    obtain ⟨f0, f1, f2, f3, f4, f5, f6, g0, g1, g2⟩ := HF.out X206 HKX206.out
    obtain ⟨v0, v1⟩ := HVB.out X206 HJX206.out
    go_wp2_with (fail)
    clear f0 f1 f2 f3 f4 f5 f6 g0 g1 g2 v0 v1
    have HS2 := Lib.hid (fun (X : World) (hX : Below W.heap.size W X) (hY : Below X206.heap.size X206 X) => (by obtain ⟨f0, f1, f2, f3, f4, f5, f6, g0, g1, g2⟩ := HF.out X hX; exact ⟨f0, f1, f2, f3, f4, f5, f6, g0, g1, g2, HVB.out X hY⟩ : X.cell? ⟨B, 0, none⟩ = some (.slice z.p.a1 z.s.feeds.length z.p.c1) ∧ X.cell? ⟨B, 1, none⟩ = some (.slice z.p.a2 z.s.brks.length z.p.c2) ∧ X.cell? ⟨B, 2, none⟩ = some (.slice z.p.a3 z.s.loops.length z.p.c3) ∧ X.cell? ⟨B, 3, none⟩ = some (.slice z.p.a4 z.s.racks.length z.p.c4) ∧ X.cell? ⟨B, 4, none⟩ = some (.int .i64 z.s.sw) ∧ X.cell? ⟨B, 5, none⟩ = some (.slice z.p.a5 z.s.links.length z.p.c5) ∧ X.cell? ⟨B, 6, none⟩ = some (.slice z.p.a6 z.s.hosts.length z.p.c6) ∧ X.cell? ⟨B + 1, 0, none⟩ = some (.slice z.A z.xs.length z.c) ∧ X.cell? ⟨B + 1 + 1, 0, none⟩ = some (.slice z.q.a1 z.d.hosts.length z.q.c1) ∧ X.cell? ⟨B + 1 + 1, 1, none⟩ = some (.slice z.q.a2 z.d.reps.length z.q.c2) ∧ X.cell? ⟨gv, 0, none⟩ = some (.slice p'.a1 d'.hosts.length p'.c1) ∧ X.cell? ⟨gv, 1, none⟩ = some (.slice p'.a2 d'.reps.length p'.c2)))
    have HCB := Lib.hid (fun (Y : World) (hY : Below X206.heap.size X206 Y) => (c_Broken (reW z p' d') r1 HR1.out M HMM.out Y (HZ2.out Y hY) : Calls Tryz.prog 13 #[.agg #[.slice z.p.a1 z.s.feeds.length z.p.c1, .slice z.p.a2 z.s.brks.length z.p.c2, .slice z.p.a3 z.s.loops.length z.p.c3, .slice z.p.a4 z.s.racks.length z.p.c4, .int .i64 z.s.sw, .slice z.p.a5 z.s.links.length z.p.c5, .slice z.p.a6 z.s.hosts.length z.p.c6], .agg #[.slice z.A z.xs.length z.c], .agg #[.slice p'.a1 d'.hosts.length p'.c1, .slice p'.a2 d'.reps.length p'.c2]] Y fun e w' => ∃ A c, e = .returned (.slice A M.length c) ∧ Rv 3 bnF w' A c M ∧ Below Y.heap.size Y w'))
    go_region_held3 (fun X => X.cell? ⟨B, 0, none⟩ = some (.slice z.p.a1 z.s.feeds.length z.p.c1) ∧ X.cell? ⟨B, 1, none⟩ = some (.slice z.p.a2 z.s.brks.length z.p.c2) ∧ X.cell? ⟨B, 2, none⟩ = some (.slice z.p.a3 z.s.loops.length z.p.c3) ∧ X.cell? ⟨B, 3, none⟩ = some (.slice z.p.a4 z.s.racks.length z.p.c4) ∧ X.cell? ⟨B, 4, none⟩ = some (.int .i64 z.s.sw) ∧ X.cell? ⟨B, 5, none⟩ = some (.slice z.p.a5 z.s.links.length z.p.c5) ∧ X.cell? ⟨B, 6, none⟩ = some (.slice z.p.a6 z.s.hosts.length z.p.c6) ∧ X.cell? ⟨B + 1, 0, none⟩ = some (.slice z.A z.xs.length z.c) ∧ X.cell? ⟨B + 1 + 1, 0, none⟩ = some (.slice z.q.a1 z.d.hosts.length z.q.c1) ∧ X.cell? ⟨B + 1 + 1, 1, none⟩ = some (.slice z.q.a2 z.d.reps.length z.q.c2) ∧ X.cell? ⟨gv, 0, none⟩ = some (.slice p'.a1 d'.hosts.length p'.c1) ∧ X.cell? ⟨gv, 1, none⟩ = some (.slice p'.a2 d'.reps.length p'.c2))
      (first | exact HS2.out v502 HKv502.out HJv502.out | exact HS2.out v501 HKv501.out HJv501.out | exact HS2.out X206 HKX206.out HJX206.out | fail)
      (first
        | (go_at_call 13; (with_reducible refine (c_Broken z true ⟨fun _ => HOK.out, fun _ => rfl⟩ L HLL.out X206.drew (HZ.out _ HKX206.out.drew)).mono ?_); rintro e v501 ⟨A1, q1, rfl, rv1, bb0⟩; have bb := below_join (Below.refl X206.heap.size X206).drew bb0 (Nat.le_refl _); have HKv501 := Lib.hid (below_join HKX206.out bb HKX206.out.size); have HJv501 := Lib.hid (below_join HJX206.out bb HJX206.out.size); have RAv501 := Lib.hid rv1; clear rv1; clear bb bb0)
        | (go_at_call 13; (with_reducible refine (HCB.out v501 HJv501.out).mono ?_); rintro e v502 ⟨A2, q2, rfl, rv2, bb0⟩; have bb := below_join (Below.refl v501.heap.size v501) bb0 (Nat.le_refl _); have HKv502 := Lib.hid (below_join HKv501.out bb HKv501.out.size); have HJv502 := Lib.hid (below_join HJv501.out bb HJv501.out.size); have RAv502 := Lib.hid (RAv501.out.on bb (Nat.le_refl _)); have RBv502 := Lib.hid rv2; clear rv2; clear bb bb0)
        | fail)
    have HVV := Lib.hid (Below.refl v502.heap.size v502)
    go_wp2_with (fail)
    go_loopw [13] (fun i wr => ∃ j : Nat, 1 ≤ j ∧ j ≤ 11 ∧ i = .int .u8 (j : Int) ∧ Hid (Below v502.heap.size v502 wr)) (fun i _ => 11 - (intOf i).toNat)
    case atStart => exact ⟨1, Nat.le_refl _, by omega, rfl, HVV⟩
    case round =>
      obtain ⟨j, hj1, hj11, rfl, HKwr⟩ := hrel
      have hji : ((j : Nat) : Int).toNat = j := by omega
      have hjw : IntKind.u8.wrap ((j : Int) + 1) = (j : Int) + 1 := by rw [IntKind.wrap_u8]; omega
      by_cases hlt : j ≤ 10
      · have hle10 : (j : Int) ≤ 10 := by omega
        obtain ⟨x9, hx9⟩ : ∃ x, keptX L (ofL M j) = x := ⟨_, rfl⟩
        obtain ⟨b9, hb9⟩ : ∃ x, keptB L (ofL M j) = x := ⟨_, rfl⟩
        have HX9 := Lib.hid hx9
        have HB9 := Lib.hid hb9
        clear hx9 hb9
        go_wp2_with (fail)
        go_at_call 19
        refine (c_ofT A2 q2 M j (j : Int) rfl (by omega) (by omega) wr (RBv502.out.on HKwr.out (Nat.le_refl _))).mono ?_
        rintro e y1 ⟨A9, c9, rfl, r9, bb⟩
        have HKy1 := Lib.hid (below_join HKwr.out bb HKwr.out.size)
        have R9 := Lib.hid r9
        clear bb r9
        go_wp2_with (fail)
        go_at_call 17
        refine (c_kT A1 q1 L A9 c9 (ofL M j) x9 b9 HX9.out HB9.out y1 (RAv502.out.on HKy1.out (Nat.le_refl _)) R9.out).mono ?_
        rintro e y2 ⟨rfl, bb⟩
        have HKy2 := Lib.hid (below_join HKy1.out bb HKy1.out.size)
        clear bb
        obtain ⟨Y, hY⟩ : ∃ Y, Y = y2.alloc (.cells #[.int .u8 (x9.kind : Int), .int .i64 x9.a, .int .i64 x9.b] 44) := ⟨_, rfl⟩
        have HKY := Lib.hid (show Below v502.heap.size v502 Y by rw [hY]; exact HKy2.out.alloc HKy2.out.size _)
        rcases b9 with _ | _
        · have hor : j = 3 ∨ j = 6 := by
            by_cases h3 : j = 3
            · exact .inl h3
            · by_cases h6 : j = 6
              · exact .inr h6
              · have := HK3.out j h3 h6
                rw [HB9.out] at this; cases this
          rcases hor with rfl | rfl
          · go_wp2_with (fail)
            rw [← hY]
            go_roundw
            case rel => exact ⟨3 + 1, by omega, by omega, by go_num, HKY⟩
            case measure => simp only [intOf]; omega
          · go_wp2_with (fail)
            rw [← hY]
            go_roundw
            case rel => exact ⟨6 + 1, by omega, by omega, by go_num, HKY⟩
            case measure => simp only [intOf]; omega
        · go_wp2_with (fail)
          rw [← hY]
          go_roundw
          case rel => exact ⟨j + 1, by omega, by omega, by go_num, HKY⟩
          case measure => simp only [intOf]; omega
      · obtain rfl : j = 11 := by omega
        go_wp2_with (fail)
        go_at_call 11
        refine (c_live wr).mono ?_
        rintro e y1 ⟨rfl, bb⟩
        have HKy1 := Lib.hid (below_join (below_join HKv502.out HKwr.out HKv502.out.size) bb (Nat.le_trans HKv502.out.size HKwr.out.size))
        clear bb
        go_wp2_with (fail)
        go_ret
        exact ⟨rfl, below_join HB.out HKy1.out hle⟩
theorem row_InvariantStops (w : World) (p : SP) (s : SiteD) (hs : SiAt w p s) (A : Option Addr) (c : Nat) (xs : List (Svc × SvA)) (hx : WiAt w A c xs) (q : WP) (d : WorldD) (hd : WoAt w q d) (at_ : Int) :
    Calls Tryz.prog 6 #[siV p s, .agg #[.slice A xs.length c], .agg #[.slice q.a1 d.hosts.length q.c1, .slice q.a2 d.reps.length q.c2], .int .i64 at_] w fun e w' => e = .returned (.bool true) ∧ Below w.heap.size w w' := w_InvariantStops ⟨p, s, A, c, xs, q, d⟩ w ⟨hs, hx, hd⟩ at_
end Go.Proofs.YtbbadnlaelgmlaaGreat
