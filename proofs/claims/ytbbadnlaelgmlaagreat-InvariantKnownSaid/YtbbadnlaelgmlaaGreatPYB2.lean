/-
  DERIVED. Several texts in one.
-/
import Derived.Test.YtbbadnlaelgmlaaGreatPYB1
import Derived.BigQuiet
import Derived.RegionTactic
import Derived.Deep.RegionHeld3
import Derived.Test.YtbbadnlaelgmlaaGreatPYV61
set_option linter.unusedVariables false
set_option linter.unusedSimpArgs false

namespace Go.Proofs.YtbbadnlaelgmlaaGreat
open Go.RowKit
set_option maxRecDepth 100000
set_option linter.unusedVariables false
set_option linter.unusedSimpArgs false

structure Sn where
  p : SP
  s : SiteD
  A : Option Addr
  c : Nat
  xs : List (Svc × SvA)
  q : WP
  d : WorldD
def Sn.ss (z : Sn) : List Svc := svs z.xs
structure SnAt (w : World) (z : Sn) : Prop where
  si : SiAt w z.p z.s
  wi : WiAt w z.A z.c z.xs
  wo : WoAt w z.q z.d
theorem SnAt.on {w w' : World} {z : Sn} {B : Nat} (h : SnAt w z) (hb : Below B w w') (hB : w.heap.size ≤ B) : SnAt w' z := ⟨h.si.on hb hB, h.wi.on hb hB, h.wo.on hb hB⟩
theorem SnAt.drew {w : World} {z : Sn} (h : SnAt w z) : SnAt w.drew z := h.on (Below.refl _ _).drew (Nat.le_refl _)
def Sn.Ok (z : Sn) : Prop := WorldOk z.s z.ss z.d
theorem SnAt.bounds {w : World} {z : Sn} (h : SnAt w z) : z.s.hosts.length ≤ 9223372036854775807 ∧ z.s.racks.length ≤ 9223372036854775807 ∧ z.s.brks.length ≤ 9223372036854775807 ∧ z.s.feeds.length ≤ 9223372036854775807 ∧ z.d.hosts.length ≤ 9223372036854775807 ∧ z.d.reps.length ≤ 9223372036854775807 ∧ z.xs.length ≤ 9223372036854775807 ∧ z.s.loops.length ≤ 9223372036854775807 := by
  have a1 := h.si.hosts.1; have b1 := h.si.hosts.2.1; have a2 := h.si.racks.1; have b2 := h.si.racks.2.1; have a3 := h.si.brks.1; have b3 := h.si.brks.2.1; have a4 := h.si.feeds.1; have b4 := h.si.feeds.2.1
  have a5 := h.wo.hosts.1; have b5 := h.wo.hosts.2.1; have a6 := h.wo.reps.1; have b6 := h.wo.reps.2.1; have a7 := h.wi.row.1; have b7 := h.wi.row.2.1; have a8 := h.si.loops.1; have b8 := h.si.loops.2.1
  unfold maxLen at *
  omega
def Bx (w : World) (b : Nat) (cs : Array Value) (T : TypeId) : Prop := w.heap[b]? = some (.cells cs T (0, 0))
theorem Bx.on {w w' : World} {b : Nat} {cs : Array Value} {T : TypeId} {B : Nat} (h : Bx w b cs T) (hb : Below B w w') (hB : w.heap.size ≤ B) : Bx w' b cs T := box_on h hb hB
/-- The boxes of a scene's parameters. -/
structure SnBx (X : World) (b : Nat) (z : Sn) : Prop where
  b1 : X.heap[b]? = some (.cells #[.slice z.p.a1 z.s.feeds.length z.p.c1, .slice z.p.a2 z.s.brks.length z.p.c2, .slice z.p.a3 z.s.loops.length z.p.c3, .slice z.p.a4 z.s.racks.length z.p.c4, .int .i64 z.s.sw, .slice z.p.a5 z.s.links.length z.p.c5, .slice z.p.a6 z.s.hosts.length z.p.c6] 29 (0, 0))
  b2 : X.heap[b + 1]? = some (.cells #[.slice z.A z.xs.length z.c] 32 (0, 0))
  b3 : X.heap[b + 1 + 1]? = some (.cells #[.slice z.q.a1 z.d.hosts.length z.q.c1, .slice z.q.a2 z.d.reps.length z.q.c2] 36 (0, 0))
section
variable {w w' X : World} {z : Sn} {b B : Nat}
theorem SnBx.on (h : SnBx w b z) (hb : Below B w w') (hB : w.heap.size ≤ B) : SnBx w' b z := ⟨box_on h.b1 hb hB, box_on h.b2 hb hB, box_on h.b3 hb hB⟩
theorem SnBx.alloc (h : SnBx w b z) (o : Obj) : SnBx (w.alloc o) b z := ⟨old_heap _ h.b1, old_heap _ h.b2, old_heap _ h.b3⟩
theorem SnBx.cells (h : SnBx X b z) : X.cell? ⟨b, 0, none⟩ = some (.slice z.p.a1 z.s.feeds.length z.p.c1) ∧ X.cell? ⟨b, 1, none⟩ = some (.slice z.p.a2 z.s.brks.length z.p.c2) ∧ X.cell? ⟨b, 2, none⟩ = some (.slice z.p.a3 z.s.loops.length z.p.c3) ∧ X.cell? ⟨b, 3, none⟩ = some (.slice z.p.a4 z.s.racks.length z.p.c4) ∧ X.cell? ⟨b, 4, none⟩ = some (.int .i64 z.s.sw) ∧ X.cell? ⟨b, 5, none⟩ = some (.slice z.p.a5 z.s.links.length z.p.c5) ∧ X.cell? ⟨b, 6, none⟩ = some (.slice z.p.a6 z.s.hosts.length z.p.c6) ∧ X.cell? ⟨b + 1, 0, none⟩ = some (.slice z.A z.xs.length z.c) ∧ X.cell? ⟨b + 1 + 1, 0, none⟩ = some (.slice z.q.a1 z.d.hosts.length z.q.c1) ∧ X.cell? ⟨b + 1 + 1, 1, none⟩ = some (.slice z.q.a2 z.d.reps.length z.q.c2) :=
  ⟨cell_of h.b1 rfl, cell_of h.b1 rfl, cell_of h.b1 rfl, cell_of h.b1 rfl, cell_of h.b1 rfl, cell_of h.b1 rfl, cell_of h.b1 rfl, cell_of h.b2 rfl, cell_of h.b3 rfl, cell_of h.b3 rfl⟩
end
section
variable {w W1 W2 W : World} {z : Sn}
theorem sn_boxes (h1 : W1 = w.alloc (.cells #[.slice z.p.a1 z.s.feeds.length z.p.c1, .slice z.p.a2 z.s.brks.length z.p.c2, .slice z.p.a3 z.s.loops.length z.p.c3, .slice z.p.a4 z.s.racks.length z.p.c4, .int .i64 z.s.sw, .slice z.p.a5 z.s.links.length z.p.c5, .slice z.p.a6 z.s.hosts.length z.p.c6] 29))
    (h2 : W2 = W1.alloc (.cells #[.slice z.A z.xs.length z.c] 32)) (h3 : W = W2.alloc (.cells #[.slice z.q.a1 z.d.hosts.length z.q.c1, .slice z.q.a2 z.d.reps.length z.q.c2] 36)) : Below w.heap.size w W ∧ SnBx W w.heap.size z := by
  obtain ⟨B0, b1, b2, b3⟩ := three_boxes h1 h2 h3
  exact ⟨B0, b1, b2, b3⟩
theorem sn_size {c1 c2 c3 : Array Value} {T1 T2 T3 : TypeId} (h1 : W1 = w.alloc (.cells c1 T1)) (h2 : W2 = W1.alloc (.cells c2 T2)) (h3 : W = W2.alloc (.cells c3 T3)) : W.heap.size = w.heap.size + 1 + 1 + 1 := by
  rw [h3, World.size_alloc, h2, World.size_alloc, h1, World.size_alloc]
end
section
variable (z : Sn) (r : Bool) (hr : r = true ↔ z.Ok) (w : World) (h : SnAt w z)
include hr h
theorem c_vTo : Calls Tryz.prog 27 #[.agg #[.slice z.p.a1 z.s.feeds.length z.p.c1, .slice z.p.a2 z.s.brks.length z.p.c2, .slice z.p.a3 z.s.loops.length z.p.c3, .slice z.p.a4 z.s.racks.length z.p.c4, .int .i64 z.s.sw, .slice z.p.a5 z.s.links.length z.p.c5, .slice z.p.a6 z.s.hosts.length z.p.c6], .agg #[.slice z.A z.xs.length z.c], .agg #[.slice z.q.a1 z.d.hosts.length z.q.c1, .slice z.q.a2 z.d.reps.length z.q.c2]] w fun e w' => e = .returned (.bool r) ∧ Below w.heap.size w w' := c_woValid z.p z.s z.A z.c z.xs z.q z.d r hr w h.si h.wi h.wo
end
theorem c_usedTo (z : Sn) (host u : Int) (hu : usedD z.ss z.d.reps host = u) (w : World) (h : SnAt w z) :
    Calls Tryz.prog 93 #[.agg #[.slice z.A z.xs.length z.c], .agg #[.slice z.q.a1 z.d.hosts.length z.q.c1, .slice z.q.a2 z.d.reps.length z.q.c2], .int .i64 host] w fun e w' => e = .returned (.int .i64 u) ∧ Below w.heap.size w w' := by subst hu; exact c_woUsed z.A z.c z.xs z.q z.d host w h.wi h.wo
end Go.Proofs.YtbbadnlaelgmlaaGreat

namespace Go.Proofs.YtbbadnlaelgmlaaGreat
open Go.RowKit
set_option maxRecDepth 100000
set_option linter.unusedVariables false
set_option linter.unusedSimpArgs false

theorem hs_at {z : Sn} {w : World} (h : SnAt w z) {i : Nat} {x : Hs} (hx : z.s.hosts[i]? = some x) : ∃ b o, z.p.a6 = some ⟨b, o, none⟩ ∧ b < w.heap.size ∧ w.cell? ⟨b, o + i * 4, none⟩ = some (.int .i64 x.rack) ∧ w.cell? ⟨b, o + i * 4 + 1, none⟩ = some (.int .i64 x.cores) ∧ w.cell? ⟨b, o + i * 4 + 2, none⟩ = some (.int .i64 x.idle) ∧ w.cell? ⟨b, o + i * 4 + 3, none⟩ = some (.int .i64 x.per) := by
  obtain ⟨b, o, e, hb, hc⟩ := h.si.hosts.at_ hx
  exact ⟨b, o, e, hb, by simpa [hsF] using hc 0 (by omega), hc 1 (by omega), hc 2 (by omega), hc 3 (by omega)⟩
theorem rk_at {z : Sn} {w : World} (h : SnAt w z) {i : Nat} {x : Rk} (hx : z.s.racks[i]? = some x) : ∃ b o, z.p.a4 = some ⟨b, o, none⟩ ∧ b < w.heap.size ∧ w.cell? ⟨b, o + i * 4 + 1, none⟩ = some (.int .i64 x.brk) := by
  obtain ⟨b, o, e, hb, hc⟩ := h.si.racks.at_ hx
  exact ⟨b, o, e, hb, hc 1 (by omega)⟩
theorem bk_at {z : Sn} {w : World} (h : SnAt w z) {i : Nat} {x : Brk} (hx : z.s.brks[i]? = some x) : ∃ b o, z.p.a2 = some ⟨b, o, none⟩ ∧ b < w.heap.size ∧ w.cell? ⟨b, o + i * 4, none⟩ = some (.int .i64 x.feed) ∧ w.cell? ⟨b, o + i * 4 + 1, none⟩ = some (.int .i64 x.limit) ∧ w.cell? ⟨b, o + i * 4 + 2, none⟩ = some (.int .i64 x.slow) ∧ w.cell? ⟨b, o + i * 4 + 3, none⟩ = some (.int .i64 x.fast) := by
  obtain ⟨b, o, e, hb, hc⟩ := h.si.brks.at_ hx
  exact ⟨b, o, e, hb, by simpa [brkF] using hc 0 (by omega), hc 1 (by omega), hc 2 (by omega), hc 3 (by omega)⟩
theorem fd_at {z : Sn} {w : World} (h : SnAt w z) {i : Nat} {x : Int} (hx : z.s.feeds[i]? = some x) : ∃ b o, z.p.a1 = some ⟨b, o, none⟩ ∧ b < w.heap.size ∧ w.cell? ⟨b, o + i, none⟩ = some (.int .i64 x) := by
  obtain ⟨b, o, e, hb, hc⟩ := h.si.feeds.at_ hx
  exact ⟨b, o, e, hb, by simpa [inF] using hc 0 (by omega)⟩
theorem ho_at {z : Sn} {w : World} (h : SnAt w z) {i : Nat} {x : Hst} (hx : z.d.hosts[i]? = some x) : ∃ b o, z.q.a1 = some ⟨b, o, none⟩ ∧ b < w.heap.size ∧ w.cell? ⟨b, o + i * 2, none⟩ = some (.int .u8 (x.phase : Int)) := by
  obtain ⟨b, o, e, hb, hc⟩ := h.wo.hosts.at_ hx
  exact ⟨b, o, e, hb, by simpa [hstV] using hc 0 (by omega)⟩
set_option maxHeartbeats 8000000 in
theorem c_breakerOf (z : Sn) (ok : z.Ok) (w : World) (hz : SnAt w z) (i : Nat) (hi : i < z.s.hosts.length) :
    Calls Tryz.prog 137 #[.agg #[.slice z.p.a1 z.s.feeds.length z.p.c1, .slice z.p.a2 z.s.brks.length z.p.c2, .slice z.p.a3 z.s.loops.length z.p.c3, .slice z.p.a4 z.s.racks.length z.p.c4, .int .i64 z.s.sw, .slice z.p.a5 z.s.links.length z.p.c5, .slice z.p.a6 z.s.hosts.length z.p.c6], .int .i64 (i : Int)] w fun e w' => e = .returned (.int .i64 (brkAt z.s i)) ∧ Below w.heap.size w w' := by
  obtain ⟨x, y, hx, hy, hr, -, -⟩ := host_ok ok hi
  have hra : rackAt z.s i = x.rack := by unfold rackAt; rw [hx]; rfl
  have hk := rk_in ok hi
  rw [hra] at hk
  obtain ⟨m, hm⟩ : ∃ m : Nat, x.rack = m := ⟨x.rack.toNat, by omega⟩
  rw [hm, Int.toNat_natCast] at hk
  have hml : m < z.s.racks.length := (List.getElem?_eq_some_iff.1 hk).1
  obtain ⟨W, hW⟩ : ∃ W, W = w.alloc (.cells #[.slice z.p.a1 z.s.feeds.length z.p.c1, .slice z.p.a2 z.s.brks.length z.p.c2, .slice z.p.a3 z.s.loops.length z.p.c3, .slice z.p.a4 z.s.racks.length z.p.c4, .int .i64 z.s.sw, .slice z.p.a5 z.s.links.length z.p.c5, .slice z.p.a6 z.s.hosts.length z.p.c6] 29) := ⟨_, rfl⟩
  have B0 : Below w.heap.size w W := by rw [hW]; exact (Below.refl _ _).alloc (Nat.le_refl _) _
  have b1 : W.heap[w.heap.size]? = some (.cells #[.slice z.p.a1 z.s.feeds.length z.p.c1, .slice z.p.a2 z.s.brks.length z.p.c2, .slice z.p.a3 z.s.loops.length z.p.c3, .slice z.p.a4 z.s.racks.length z.p.c4, .int .i64 z.s.sw, .slice z.p.a5 z.s.links.length z.p.c5, .slice z.p.a6 z.s.hosts.length z.p.c6] 29 (0, 0)) := by rw [hW]; exact box_new _ _ _
  have Z0 := hz.on B0 (Nat.le_refl _)
  obtain ⟨pb, po, e6, hpb, y0, -, -, -⟩ := hs_at Z0 hx
  obtain ⟨kb, ko, e4, hkb, y1⟩ := rk_at Z0 hk
  have f3 : W.cell? ⟨w.heap.size, 3, none⟩ = some (.slice z.p.a4 z.s.racks.length z.p.c4) := cell_of b1 rfl
  have f6 : W.cell? ⟨w.heap.size, 6, none⟩ = some (.slice z.p.a6 z.s.hosts.length z.p.c6) := cell_of b1 rfl
  rw [hm] at y0
  rw [e4] at f3
  rw [e6] at f6
  have HB := Lib.hid B0
  obtain ⟨n1, n2, n3, n4, n5, n6, n7, n8⟩ := hz.bounds
  obtain ⟨v, hv⟩ : ∃ v, brkAt z.s i = v := ⟨_, rfl⟩
  rw [show (rkAt z.s i).brk = brkAt z.s i from rfl, hv] at y1
  rw [hv]
  rw [e4, e6] at hW ⊢
  have hlt : (i : Int) < (z.s.hosts.length : Int) := by omega
  have hmlt : (m : Int) < (z.s.racks.length : Int) := by omega
  clear hz Z0 B0 b1 hx hy hr hra hk hm hv e4 e6 ok
  go_enter Tryz.func137, Tryz.ntmps137
  go_wp2_with (fail)
  rw [← hW]
  clear hW
  go_quiet (fail)
  go_wp2_with (fail)
  go_ret
  exact ⟨rfl, below_drewN HB.out⟩
set_option maxHeartbeats 4000000 in
theorem c_isHost (g : Nat) (k : Int) (i : Nat) (w : World) (hg : w.cell? ⟨g, 0, none⟩ = some (.int .i64 k)) (r : Bool) (hr : isHost k i = r) :
    Calls Tryz.prog 160 #[.int .i64 (i : Int), .pointer (some ⟨g, 0, none⟩)] w fun e w' => e = .returned (.bool r) ∧ Below w.heap.size w w' := by
  unfold isHost at hr
  go_enter Tryz.func160, Tryz.ntmps160
  go_wp2_with (fail)
  go_ret
  exact ⟨rfl, Below.refl _ _⟩
set_option maxHeartbeats 4000000 in
theorem c_isBrk (z : Sn) (ok : z.Ok) (b g : Nat) (k : Int) (i : Nat) (w : World) (hz : SnAt w z) (hb : w.heap[b]? = some (.cells #[.slice z.p.a1 z.s.feeds.length z.p.c1, .slice z.p.a2 z.s.brks.length z.p.c2, .slice z.p.a3 z.s.loops.length z.p.c3, .slice z.p.a4 z.s.racks.length z.p.c4, .int .i64 z.s.sw, .slice z.p.a5 z.s.links.length z.p.c5, .slice z.p.a6 z.s.hosts.length z.p.c6] 29 (0, 0))) (hg : w.cell? ⟨g, 0, none⟩ = some (.int .i64 k)) (hgb : g < w.heap.size) (hi : i < z.s.hosts.length) (r : Bool) (hr : isBrk z.s k i = r) :
    Calls Tryz.prog 136 #[.int .i64 (i : Int), .pointer (some ⟨b, 0, none⟩), .pointer (some ⟨g, 0, none⟩)] w fun e w' => e = .returned (.bool r) ∧ Below w.heap.size w w' := by
  unfold isBrk at hr
  have HF := Lib.hid (fun (X : World) (hX : Below w.heap.size w X) => (⟨cell_of (box_on hb hX (Nat.le_refl _)) rfl, cell_of (box_on hb hX (Nat.le_refl _)) rfl, cell_of (box_on hb hX (Nat.le_refl _)) rfl, cell_of (box_on hb hX (Nat.le_refl _)) rfl, cell_of (box_on hb hX (Nat.le_refl _)) rfl, cell_of (box_on hb hX (Nat.le_refl _)) rfl, cell_of (box_on hb hX (Nat.le_refl _)) rfl, (hX.cell (p := ⟨g, 0, none⟩) hgb).trans hg⟩ : X.cell? ⟨b, 0, none⟩ = some (.slice z.p.a1 z.s.feeds.length z.p.c1) ∧ X.cell? ⟨b, 1, none⟩ = some (.slice z.p.a2 z.s.brks.length z.p.c2) ∧ X.cell? ⟨b, 2, none⟩ = some (.slice z.p.a3 z.s.loops.length z.p.c3) ∧ X.cell? ⟨b, 3, none⟩ = some (.slice z.p.a4 z.s.racks.length z.p.c4) ∧ X.cell? ⟨b, 4, none⟩ = some (.int .i64 z.s.sw) ∧ X.cell? ⟨b, 5, none⟩ = some (.slice z.p.a5 z.s.links.length z.p.c5) ∧ X.cell? ⟨b, 6, none⟩ = some (.slice z.p.a6 z.s.hosts.length z.p.c6) ∧ X.cell? ⟨g, 0, none⟩ = some (.int .i64 k)))
  have HC := Lib.hid (fun (X : World) (hX : Below w.heap.size w X) => c_breakerOf z ok X (hz.on hX (Nat.le_refl _)) i hi)
  obtain ⟨v, hv⟩ : ∃ v, brkAt z.s i = v := ⟨_, rfl⟩
  rw [hv] at HC hr
  have HKw := Lib.hid (Below.refl w.heap.size w)
  obtain ⟨f0, f1, f2, f3, f4, f5, f6, g0⟩ := HF.out w HKw.out
  clear hz hb hv hg ok
  go_enter Tryz.func136, Tryz.ntmps136
  go_wp2_with (fail)
  go_region_held3 (fun X => X.cell? ⟨b, 0, none⟩ = some (.slice z.p.a1 z.s.feeds.length z.p.c1) ∧ X.cell? ⟨b, 1, none⟩ = some (.slice z.p.a2 z.s.brks.length z.p.c2) ∧ X.cell? ⟨b, 2, none⟩ = some (.slice z.p.a3 z.s.loops.length z.p.c3) ∧ X.cell? ⟨b, 3, none⟩ = some (.slice z.p.a4 z.s.racks.length z.p.c4) ∧ X.cell? ⟨b, 4, none⟩ = some (.int .i64 z.s.sw) ∧ X.cell? ⟨b, 5, none⟩ = some (.slice z.p.a5 z.s.links.length z.p.c5) ∧ X.cell? ⟨b, 6, none⟩ = some (.slice z.p.a6 z.s.hosts.length z.p.c6) ∧ X.cell? ⟨g, 0, none⟩ = some (.int .i64 k))
    (first | exact HF.out w1 HK1.out | exact HF.out w HKw.out | fail)
    (first
      | (go_at_call 137; (with_reducible refine (HC.out w.drew HKw.out.drew).mono ?_); rintro e w1 ⟨rfl, bb0⟩; have HK1 := Lib.hid (below_join (Below.refl w.heap.size w).drew bb0 (Nat.le_refl _)); clear bb0)
      | fail)
  go_wp2_with (fail)
  go_ret
  exact ⟨rfl, HK1.out⟩
set_option maxHeartbeats 4000000 in
theorem c_isFeed (z : Sn) (ok : z.Ok) (b g : Nat) (k : Int) (i : Nat) (w : World) (hz : SnAt w z) (hb : w.heap[b]? = some (.cells #[.slice z.p.a1 z.s.feeds.length z.p.c1, .slice z.p.a2 z.s.brks.length z.p.c2, .slice z.p.a3 z.s.loops.length z.p.c3, .slice z.p.a4 z.s.racks.length z.p.c4, .int .i64 z.s.sw, .slice z.p.a5 z.s.links.length z.p.c5, .slice z.p.a6 z.s.hosts.length z.p.c6] 29 (0, 0))) (hg : w.cell? ⟨g, 0, none⟩ = some (.int .i64 k)) (hgb : g < w.heap.size) (hi : i < z.s.hosts.length) (r : Bool) (hr : isFeed z.s k i = r) :
    Calls Tryz.prog 138 #[.int .i64 (i : Int), .pointer (some ⟨b, 0, none⟩), .pointer (some ⟨g, 0, none⟩)] w fun e w' => e = .returned (.bool r) ∧ Below w.heap.size w w' := by
  obtain ⟨m, hm⟩ : ∃ m : Nat, brkAt z.s i = m := ⟨(brkAt z.s i).toNat, by have := brk_in ok hi; omega⟩
  have hml : m < z.s.brks.length := by have := brk_in ok hi; omega
  obtain ⟨x, hx⟩ : ∃ x, z.s.brks[m]? = some x := ⟨_, List.getElem?_eq_getElem hml⟩
  have hr2 : (x.feed == k) = r := by
    rw [← hr]
    unfold isFeed feedAt
    rw [show (rkAt z.s i).brk = brkAt z.s i from rfl, hm, Int.toNat_natCast, hx]
    rfl
  have HF0 := fun (X : World) (hX : Below w.heap.size w X) => (⟨cell_of (box_on hb hX (Nat.le_refl _)) rfl, cell_of (box_on hb hX (Nat.le_refl _)) rfl, cell_of (box_on hb hX (Nat.le_refl _)) rfl, cell_of (box_on hb hX (Nat.le_refl _)) rfl, cell_of (box_on hb hX (Nat.le_refl _)) rfl, cell_of (box_on hb hX (Nat.le_refl _)) rfl, cell_of (box_on hb hX (Nat.le_refl _)) rfl, (hX.cell (p := ⟨g, 0, none⟩) hgb).trans hg⟩ : X.cell? ⟨b, 0, none⟩ = some (.slice z.p.a1 z.s.feeds.length z.p.c1) ∧ X.cell? ⟨b, 1, none⟩ = some (.slice z.p.a2 z.s.brks.length z.p.c2) ∧ X.cell? ⟨b, 2, none⟩ = some (.slice z.p.a3 z.s.loops.length z.p.c3) ∧ X.cell? ⟨b, 3, none⟩ = some (.slice z.p.a4 z.s.racks.length z.p.c4) ∧ X.cell? ⟨b, 4, none⟩ = some (.int .i64 z.s.sw) ∧ X.cell? ⟨b, 5, none⟩ = some (.slice z.p.a5 z.s.links.length z.p.c5) ∧ X.cell? ⟨b, 6, none⟩ = some (.slice z.p.a6 z.s.hosts.length z.p.c6) ∧ X.cell? ⟨g, 0, none⟩ = some (.int .i64 k))
  obtain ⟨pb, po, e2, hpb, y0, -, -, -⟩ := bk_at hz hx
  have HF := Lib.hid (fun (X : World) (hX : Below w.heap.size w X) => (⟨HF0 X hX, (hX.cell (p := ⟨pb, po + m * 4, none⟩) hpb).trans y0⟩ : (X.cell? ⟨b, 0, none⟩ = some (.slice z.p.a1 z.s.feeds.length z.p.c1) ∧ X.cell? ⟨b, 1, none⟩ = some (.slice z.p.a2 z.s.brks.length z.p.c2) ∧ X.cell? ⟨b, 2, none⟩ = some (.slice z.p.a3 z.s.loops.length z.p.c3) ∧ X.cell? ⟨b, 3, none⟩ = some (.slice z.p.a4 z.s.racks.length z.p.c4) ∧ X.cell? ⟨b, 4, none⟩ = some (.int .i64 z.s.sw) ∧ X.cell? ⟨b, 5, none⟩ = some (.slice z.p.a5 z.s.links.length z.p.c5) ∧ X.cell? ⟨b, 6, none⟩ = some (.slice z.p.a6 z.s.hosts.length z.p.c6) ∧ X.cell? ⟨g, 0, none⟩ = some (.int .i64 k)) ∧ X.cell? ⟨pb, po + m * 4, none⟩ = some (.int .i64 x.feed)))
  have HC := Lib.hid (fun (X : World) (hX : Below w.heap.size w X) => c_breakerOf z ok X (hz.on hX (Nat.le_refl _)) i hi)
  rw [hm] at HC
  have HKw := Lib.hid (Below.refl w.heap.size w)
  obtain ⟨n1, n2, n3, -⟩ := hz.bounds
  have hlt : (m : Int) < (z.s.brks.length : Int) := by omega
  rw [e2] at HF HC
  clear hz hb hx hg ok HF0 y0 hr e2 hm
  obtain ⟨⟨f0, f1, f2, f3, f4, f5, f6, g0⟩, y0⟩ := HF.out w HKw.out
  go_enter Tryz.func138, Tryz.ntmps138
  go_wp2_with (fail)
  go_region_held3 (fun X => (X.cell? ⟨b, 0, none⟩ = some (.slice z.p.a1 z.s.feeds.length z.p.c1) ∧ X.cell? ⟨b, 1, none⟩ = some (.slice (some ⟨pb, po, none⟩) z.s.brks.length z.p.c2) ∧ X.cell? ⟨b, 2, none⟩ = some (.slice z.p.a3 z.s.loops.length z.p.c3) ∧ X.cell? ⟨b, 3, none⟩ = some (.slice z.p.a4 z.s.racks.length z.p.c4) ∧ X.cell? ⟨b, 4, none⟩ = some (.int .i64 z.s.sw) ∧ X.cell? ⟨b, 5, none⟩ = some (.slice z.p.a5 z.s.links.length z.p.c5) ∧ X.cell? ⟨b, 6, none⟩ = some (.slice z.p.a6 z.s.hosts.length z.p.c6) ∧ X.cell? ⟨g, 0, none⟩ = some (.int .i64 k)) ∧ X.cell? ⟨pb, po + m * 4, none⟩ = some (.int .i64 x.feed))
    (first | exact HF.out w1 HK1.out | exact HF.out w HKw.out | fail)
    (first
      | (go_at_call 137; (with_reducible refine (HC.out w.drew HKw.out.drew).mono ?_); rintro e w1 ⟨rfl, bb0⟩; have HK1 := Lib.hid (below_join (Below.refl w.heap.size w).drew bb0 (Nat.le_refl _)); clear bb0)
      | fail)
  go_wp2_with (fail)
  go_ret
  exact ⟨rfl, HK1.out⟩
end Go.Proofs.YtbbadnlaelgmlaaGreat

namespace Go.Proofs.YtbbadnlaelgmlaaGreat
open Go.RowKit
set_option maxRecDepth 100000
set_option linter.unusedVariables false
set_option linter.unusedSimpArgs false

/-- A load: 0 if the world is not valid. -/
def pwV (z : Sn) (r : Bool) (b : Nat → Bool) : Int := if r = true then loadN z.s z.ss z.d b else 0
/-- The sum so far. -/
def soFar (z : Sn) (b : Nat → Bool) (k : Nat) : Int := sumN (fun h => if b h = true then watN z.s z.ss z.d h else 0) k
theorem soFar_bd {z : Sn} (ok : z.Ok) (b : Nat → Bool) {k : Nat} (hk : k ≤ z.s.hosts.length) : 0 ≤ soFar z b k ∧ soFar z b k ≤ 400000000 := part_bd ok b hk
theorem soFar_no {z : Sn} {b : Nat → Bool} {k : Nat} (h : b k = false) : soFar z b (k + 1) = soFar z b k := by
  unfold soFar; rw [sumN, h]; simp
theorem soFar_off {z : Sn} {b : Nat → Bool} {k : Nat} {y : Hst} (hy : z.d.hosts[k]? = some y) (h : y.phase = 4) : soFar z b (k + 1) = soFar z b k := by
  unfold soFar; rw [sumN]
  have : watN z.s z.ss z.d k = 0 := by unfold watN; rw [phAt_eq hy, if_pos h]
  rw [this]; simp
theorem soFar_yes {z : Sn} {b : Nat → Bool} {k : Nat} {x : Hs} {y : Hst} (hx : z.s.hosts[k]? = some x) (hy : z.d.hosts[k]? = some y) (h : b k = true) (h4 : y.phase ≠ 4) : soFar z b (k + 1) = soFar z b k + (x.idle + x.per * usedD z.ss z.d.reps (k : Int)) := by
  unfold soFar; rw [sumN, if_pos h]
  congr 1
  unfold watN; rw [phAt_eq hy, if_neg h4, hsAt_eq hx]
set_option maxHeartbeats 16000000 in
theorem c_loadHost (z : Sn) (r0 : Bool) (hr0 : r0 = true ↔ z.Ok) (g : Nat) (k : Int) (w : World) (hz : SnAt w z) (hg : w.cell? ⟨g, 0, none⟩ = some (.int .i64 k)) (hgb : g < w.heap.size) (v : Int) (hv : pwV z r0 (isHost k) = v) :
    Calls Tryz.prog 135 #[.agg #[.slice z.p.a1 z.s.feeds.length z.p.c1, .slice z.p.a2 z.s.brks.length z.p.c2, .slice z.p.a3 z.s.loops.length z.p.c3, .slice z.p.a4 z.s.racks.length z.p.c4, .int .i64 z.s.sw, .slice z.p.a5 z.s.links.length z.p.c5, .slice z.p.a6 z.s.hosts.length z.p.c6], .agg #[.slice z.A z.xs.length z.c], .agg #[.slice z.q.a1 z.d.hosts.length z.q.c1, .slice z.q.a2 z.d.reps.length z.q.c2], .func (.func 160) #[] #[.pointer (some ⟨g, 0, none⟩)]] w fun e w' => e = .returned (.int .i64 v) ∧ Below w.heap.size w w' := by
  have HCL := Lib.hid (fun (X : World) (hX : Below w.heap.size w X) (ok : z.Ok) (i : Nat) (hi : i < z.s.hosts.length) (r : Bool) (hr : (isHost k) i = r) => (c_isHost g k i X ((hX.cell (p := ⟨g, 0, none⟩) hgb).trans hg) r hr : Calls Tryz.prog 160 #[.int .i64 (i : Int), .pointer (some ⟨g, 0, none⟩)] X fun e w' => e = .returned (.bool r) ∧ Below X.heap.size X w'))
  have HV := Lib.hid hv
  have HR0 := Lib.hid hr0
  obtain ⟨pd, hpd⟩ : ∃ f, f = isHost k := ⟨_, rfl⟩
  rw [← hpd] at HCL HV
  clear hr0 hv hg hgb hpd
  obtain ⟨W1, h1⟩ : ∃ W, W = w.alloc (.cells #[.slice z.p.a1 z.s.feeds.length z.p.c1, .slice z.p.a2 z.s.brks.length z.p.c2, .slice z.p.a3 z.s.loops.length z.p.c3, .slice z.p.a4 z.s.racks.length z.p.c4, .int .i64 z.s.sw, .slice z.p.a5 z.s.links.length z.p.c5, .slice z.p.a6 z.s.hosts.length z.p.c6] 29) := ⟨_, rfl⟩
  obtain ⟨W2, h2⟩ : ∃ W, W = W1.alloc (.cells #[.slice z.A z.xs.length z.c] 32) := ⟨_, rfl⟩
  obtain ⟨W, h3⟩ : ∃ W, W = W2.alloc (.cells #[.slice z.q.a1 z.d.hosts.length z.q.c1, .slice z.q.a2 z.d.reps.length z.q.c2] 36) := ⟨_, rfl⟩
  obtain ⟨B0, X1⟩ := sn_boxes h1 h2 h3
  have z3 : W.heap.size = w.heap.size + 1 + 1 + 1 := sn_size h1 h2 h3
  have HB := Lib.hid B0
  have Z0 := hz.on B0 (Nat.le_refl _)
  have HZ := Lib.hid (fun (X : World) (hX : Below W.heap.size W X) => Z0.on hX (Nat.le_refl _))
  have HF := Lib.hid (fun (X : World) (hX : Below W.heap.size W X) => ((X1.on hX (Nat.le_refl _)).cells : X.cell? ⟨w.heap.size, 0, none⟩ = some (.slice z.p.a1 z.s.feeds.length z.p.c1) ∧ X.cell? ⟨w.heap.size, 1, none⟩ = some (.slice z.p.a2 z.s.brks.length z.p.c2) ∧ X.cell? ⟨w.heap.size, 2, none⟩ = some (.slice z.p.a3 z.s.loops.length z.p.c3) ∧ X.cell? ⟨w.heap.size, 3, none⟩ = some (.slice z.p.a4 z.s.racks.length z.p.c4) ∧ X.cell? ⟨w.heap.size, 4, none⟩ = some (.int .i64 z.s.sw) ∧ X.cell? ⟨w.heap.size, 5, none⟩ = some (.slice z.p.a5 z.s.links.length z.p.c5) ∧ X.cell? ⟨w.heap.size, 6, none⟩ = some (.slice z.p.a6 z.s.hosts.length z.p.c6) ∧ X.cell? ⟨w.heap.size + 1, 0, none⟩ = some (.slice z.A z.xs.length z.c) ∧ X.cell? ⟨w.heap.size + 1 + 1, 0, none⟩ = some (.slice z.q.a1 z.d.hosts.length z.q.c1) ∧ X.cell? ⟨w.heap.size + 1 + 1, 1, none⟩ = some (.slice z.q.a2 z.d.reps.length z.q.c2)))
  have HX := Lib.hid (fun (X : World) (hX : Below W.heap.size W X) => X1.on hX (Nat.le_refl _))
  have HKW := Lib.hid (Below.refl W.heap.size W)
  have hle := HB.out.size
  obtain ⟨n1, n2, n3, n4, n5, n6, n7, n8⟩ := hz.bounds
  have HVV := Lib.hid (fun (X : World) (hX : SnAt X z) => c_vTo z r0 HR0.out X hX)
  clear hz B0 X1 z3 Z0
  generalize hA6 : z.p.a6 = A6 at *
  have HA6 := Lib.hid hA6
  clear hA6
  obtain ⟨f0, f1, f2, f3, f4, f5, f6, g0, g1, g2⟩ := HF.out W HKW.out
  rw [h3, h2, h1] at f0 f1 f2 f3 f4 f5 f6 g0 g1 g2
  generalize hBB : w.heap.size = B at *
  go_enter Tryz.func135, Tryz.ntmps135
  go_wp2_with (fail)
  rw [← h1, ← h2, ← h3]
  clear h1 h2 h3 f0 f1 f2 f3 f4 f5 f6 g0 g1 g2
  go_at_call 27
  refine (HVV.out W (HZ.out W HKW.out)).mono ?_
  rintro e v1 ⟨rfl, bb⟩
  have HKv1 := Lib.hid (below_join HKW.out bb HKW.out.size)
  clear bb
  cases r0
  · have HVE := Lib.hid (show (0 : Int) = v from HV.out)
    go_wp2_with (fail)
    go_ret
    exact ⟨(show Ending.returned (.int .i64 0) = .returned (.int .i64 v) by rw [HVE.out]), below_join HB.out HKv1.out hle⟩
  have ok := HR0.out.1 rfl
  have HOK := Lib.hid ok
  have HVE := Lib.hid (show soFar z pd z.s.hosts.length = v from HV.out)
  have HDL := Lib.hid (show z.d.hosts.length = z.s.hosts.length from ok.2.2.1)
  have hd16 := (siteOk_iff.1 ok.1).nhosts.2
  clear ok
  obtain ⟨f0, f1, f2, f3, f4, f5, f6, g0, g1, g2⟩ := HF.out v1 HKv1.out
  go_wp2_with (fail)
  clear f0 f1 f2 f3 f4 f5 f6 g0 g1 g2
  go_loopw [9, 20] (fun sm i wr => ∃ k : Nat, k ≤ z.s.hosts.length ∧ sm = .int .i64 (soFar z pd k) ∧ i = .int .i64 (k : Int) ∧ Hid (Below W.heap.size W wr)) (fun _ i _ => z.s.hosts.length - (intOf i).toNat)
  case atStart => exact ⟨0, Nat.zero_le _, rfl, rfl, HKv1⟩
  case round =>
    obtain ⟨k, hk, rfl, rfl, hK⟩ := hrel
    have hki : ((k : Nat) : Int).toNat = k := by omega
    obtain ⟨S, hS⟩ : ∃ S, soFar z pd k = S := ⟨_, rfl⟩
    have HS := Lib.hid hS
    have bS := soFar_bd HOK.out pd hk
    rw [hS] at bS
    rw [hS]
    clear hS
    by_cases hlt : k < z.s.hosts.length
    · obtain ⟨x, y, hx, hy, -, bi, bp⟩ := host_ok HOK.out hlt
      have HXX := Lib.hid hx
      have HYY := Lib.hid hy
      obtain ⟨pb, po, e6, hpb, x0, x1, x2, x3⟩ := hs_at (HZ.out wr hK.out) hx
      rw [HA6.out] at e6
      subst e6
      obtain ⟨f0, f1, f2, f3, f4, f5, f6, g0, g1, g2⟩ := HF.out wr hK.out
      have hki2 : (k : Int) < (z.s.hosts.length : Int) := by omega
      have hki3 : (k : Int) < (z.d.hosts.length : Int) := by have := HDL.out; omega
      obtain ⟨V, hV⟩ : ∃ X, X = wr.alloc (.cells #[.int .i64 x.rack, .int .i64 x.cores, .int .i64 x.idle, .int .i64 x.per] 89) := ⟨_, rfl⟩
      have bV : Below wr.heap.size wr V := by rw [hV]; exact (Below.refl _ _).alloc (Nat.le_refl _) _
      have BV : V.heap[wr.heap.size]? = some (.cells #[.int .i64 x.rack, .int .i64 x.cores, .int .i64 x.idle, .int .i64 x.per] 89 (0, 0)) := by rw [hV]; exact box_new _ _ _
      have HKV := Lib.hid (below_join hK.out bV hK.out.size)
      have HBV := Lib.hid (fun (X : World) (hX : Below V.heap.size V X) => (⟨cell_of (box_on BV hX (Nat.le_refl _)) rfl, cell_of (box_on BV hX (Nat.le_refl _)) rfl, cell_of (box_on BV hX (Nat.le_refl _)) rfl, cell_of (box_on BV hX (Nat.le_refl _)) rfl⟩ : X.cell? ⟨wr.heap.size, 0, none⟩ = some (.int .i64 x.rack) ∧ X.cell? ⟨wr.heap.size, 1, none⟩ = some (.int .i64 x.cores) ∧ X.cell? ⟨wr.heap.size, 2, none⟩ = some (.int .i64 x.idle) ∧ X.cell? ⟨wr.heap.size, 3, none⟩ = some (.int .i64 x.per)))
      have HKVV := Lib.hid (Below.refl V.heap.size V)
      clear hx hy bV BV
      rcases hp : pd k with _ | _
      · have HP := Lib.hid hp
        have HSN := Lib.hid (soFar_no hp (z := z))
        clear hp
        go_wp2_with (fail)
        rw [← hV]
        clear hV x0 x1 x2 x3 f0 f1 f2 f3 f4 f5 f6 g0 g1 g2
        go_at_call 160
        refine (HCL.out V (below_join HB.out HKV.out hle) HOK.out k hlt false HP.out).mono ?_
        rintro e v2 ⟨rfl, bb⟩
        have HK2 := Lib.hid (below_join HKV.out bb HKV.out.size)
        clear bb
        go_wp2_with (fail)
        go_roundw
        case rel => exact ⟨k + 1, by omega, by rw [HSN.out, HS.out], by go_num, HK2⟩
        case measure => simp only [intOf]; omega
      · have HP := Lib.hid hp
        clear hp
        rcases h4 : ((y.phase : Int) == 4) with _ | _
        · obtain ⟨u, hu⟩ : ∃ u, usedD z.ss z.d.reps (k : Int) = u := ⟨_, rfl⟩
          have HU := Lib.hid hu
          have bu := used_bd HOK.out (k : Int)
          rw [show usedD (Sn.ss z) z.d.reps (k : Int) = u from hu] at bu
          obtain ⟨pr, hpr⟩ : ∃ t, x.per * u = t := ⟨_, rfl⟩
          have HPR := Lib.hid hpr
          have bpr : 0 ≤ pr ∧ pr ≤ 24000000 := by
            rw [← hpr]
            have p1 := Int.mul_nonneg bp.1 bu.1
            have p2 : x.per * u ≤ 1000 * u := Int.mul_le_mul_of_nonneg_right bp.2 bu.1
            omega
          have HSY := Lib.hid (show soFar z pd (k + 1) = S + (x.idle + pr) by
            rw [soFar_yes HXX.out HYY.out HP.out (by intro h; rw [h] at h4; simp at h4), HS.out, HU.out, HPR.out])
          have hne : ((y.phase : Int) != 4) = true := by unfold bne; rw [h4]; rfl
          clear hu hpr
          go_wp2_with (fail)
          rw [← hV]
          clear hV x0 x1 x2 x3 f0 f1 f2 f3 f4 f5 f6 g0 g1 g2
          go_at_call 160
          refine (HCL.out V (below_join HB.out HKV.out hle) HOK.out k hlt true HP.out).mono ?_
          rintro e v2 ⟨rfl, bb⟩
          have HKK2 := Lib.hid (below_join HKVV.out bb (Nat.le_refl _))
          have HK2 := Lib.hid (below_join HKV.out bb HKV.out.size)
          obtain ⟨f0, f1, f2, f3, f4, f5, f6, g0, g1, g2⟩ := HF.out v2 HK2.out
          obtain ⟨qb, qo, e1, hqb, y0⟩ := ho_at (HZ.out v2 HK2.out) HYY.out
          rw [e1] at g1
          clear bb e1
          go_wp2_with (fail)
          obtain ⟨j0, j1, j2, j3⟩ := HBV.out v2 HKK2.out
          obtain ⟨f0, f1, f2, f3, f4, f5, f6, g0, g1, g2⟩ := HF.out v2 HK2.out
          go_region_held3 (fun X => (X.cell? ⟨B, 0, none⟩ = some (.slice z.p.a1 z.s.feeds.length z.p.c1) ∧ X.cell? ⟨B, 1, none⟩ = some (.slice z.p.a2 z.s.brks.length z.p.c2) ∧ X.cell? ⟨B, 2, none⟩ = some (.slice z.p.a3 z.s.loops.length z.p.c3) ∧ X.cell? ⟨B, 3, none⟩ = some (.slice z.p.a4 z.s.racks.length z.p.c4) ∧ X.cell? ⟨B, 4, none⟩ = some (.int .i64 z.s.sw) ∧ X.cell? ⟨B, 5, none⟩ = some (.slice z.p.a5 z.s.links.length z.p.c5) ∧ X.cell? ⟨B, 6, none⟩ = some (.slice (some ⟨pb, po, none⟩) z.s.hosts.length z.p.c6) ∧ X.cell? ⟨B + 1, 0, none⟩ = some (.slice z.A z.xs.length z.c) ∧ X.cell? ⟨B + 1 + 1, 0, none⟩ = some (.slice z.q.a1 z.d.hosts.length z.q.c1) ∧ X.cell? ⟨B + 1 + 1, 1, none⟩ = some (.slice z.q.a2 z.d.reps.length z.q.c2)) ∧ X.cell? ⟨wr.heap.size, 2, none⟩ = some (.int .i64 x.idle) ∧ X.cell? ⟨wr.heap.size, 3, none⟩ = some (.int .i64 x.per))
            (first | exact ⟨HF.out v3 HK3.out, (HBV.out v3 HKK3.out).2.2⟩ | exact ⟨HF.out v2 HK2.out, (HBV.out v2 HKK2.out).2.2⟩ | fail)
            (first
              | (go_at_call 93; (with_reducible refine (c_usedTo z (k : Int) u HU.out v2.drew (HZ.out v2.drew HK2.out.drew)).mono ?_); rintro e v3 ⟨rfl, bb0⟩; have bb := below_join (Below.refl v2.heap.size v2).drew bb0 (Nat.le_refl _); have HK3 := Lib.hid (below_join HK2.out bb HK2.out.size); have HKK3 := Lib.hid (below_join HKK2.out bb HKK2.out.size); clear bb bb0)
              | fail)
          go_wp2_with (fail)
          go_roundw
          case rel => exact ⟨k + 1, by omega, by rw [HSY.out, HPR.out, wrap_in (x := pr) (by omega) (by omega), wrap_in (x := x.idle + pr) (by omega) (by omega), wrap_in (by omega) (by omega)], by go_num, HK3⟩
          case measure => simp only [intOf]; omega
        · have HSN := Lib.hid (soFar_off (z := z) (b := pd) HYY.out (by have := eq_of_beq h4; omega))
          have hne : ((y.phase : Int) != 4) = false := by unfold bne; rw [h4]; rfl
          go_wp2_with (fail)
          rw [← hV]
          clear hV x0 x1 x2 x3 f0 f1 f2 f3 f4 f5 f6 g0 g1 g2
          go_at_call 160
          refine (HCL.out V (below_join HB.out HKV.out hle) HOK.out k hlt true HP.out).mono ?_
          rintro e v2 ⟨rfl, bb⟩
          have HK2 := Lib.hid (below_join HKV.out bb HKV.out.size)
          obtain ⟨f0, f1, f2, f3, f4, f5, f6, g0, g1, g2⟩ := HF.out v2 HK2.out
          obtain ⟨qb, qo, e1, hqb, y0⟩ := ho_at (HZ.out v2 HK2.out) HYY.out
          rw [e1] at g1
          clear bb e1
          go_wp2_with (fail)
          go_roundw
          case rel => exact ⟨k + 1, by omega, by rw [HSN.out, HS.out], by go_num, HK2⟩
          case measure => simp only [intOf]; omega
    · obtain rfl : k = z.s.hosts.length := by omega
      have HVS := Lib.hid (show S = v by rw [← HVE.out, HS.out])
      go_wp2_with (fail)
      go_ret
      exact ⟨(show Ending.returned (.int .i64 S) = .returned (.int .i64 v) by rw [HVS.out]), below_join HB.out hK.out hle⟩
set_option maxHeartbeats 16000000 in
theorem c_loadBrk (z : Sn) (r0 : Bool) (hr0 : r0 = true ↔ z.Ok) (b g : Nat) (k : Int) (w : World) (hz : SnAt w z) (hb : w.heap[b]? = some (.cells #[.slice z.p.a1 z.s.feeds.length z.p.c1, .slice z.p.a2 z.s.brks.length z.p.c2, .slice z.p.a3 z.s.loops.length z.p.c3, .slice z.p.a4 z.s.racks.length z.p.c4, .int .i64 z.s.sw, .slice z.p.a5 z.s.links.length z.p.c5, .slice z.p.a6 z.s.hosts.length z.p.c6] 29 (0, 0))) (hg : w.cell? ⟨g, 0, none⟩ = some (.int .i64 k)) (hgb : g < w.heap.size) (v : Int) (hv : pwV z r0 (isBrk z.s k) = v) :
    Calls Tryz.prog 135 #[.agg #[.slice z.p.a1 z.s.feeds.length z.p.c1, .slice z.p.a2 z.s.brks.length z.p.c2, .slice z.p.a3 z.s.loops.length z.p.c3, .slice z.p.a4 z.s.racks.length z.p.c4, .int .i64 z.s.sw, .slice z.p.a5 z.s.links.length z.p.c5, .slice z.p.a6 z.s.hosts.length z.p.c6], .agg #[.slice z.A z.xs.length z.c], .agg #[.slice z.q.a1 z.d.hosts.length z.q.c1, .slice z.q.a2 z.d.reps.length z.q.c2], .func (.func 136) #[] #[.pointer (some ⟨b, 0, none⟩), .pointer (some ⟨g, 0, none⟩)]] w fun e w' => e = .returned (.int .i64 v) ∧ Below w.heap.size w w' := by
  have HCL := Lib.hid (fun (X : World) (hX : Below w.heap.size w X) (ok : z.Ok) (i : Nat) (hi : i < z.s.hosts.length) (r : Bool) (hr : (isBrk z.s k) i = r) => (c_isBrk z ok b g k i X (hz.on hX (Nat.le_refl _)) (box_on hb hX (Nat.le_refl _)) ((hX.cell (p := ⟨g, 0, none⟩) hgb).trans hg) (Nat.lt_of_lt_of_le hgb hX.size) hi r hr : Calls Tryz.prog 136 #[.int .i64 (i : Int), .pointer (some ⟨b, 0, none⟩), .pointer (some ⟨g, 0, none⟩)] X fun e w' => e = .returned (.bool r) ∧ Below X.heap.size X w'))
  have HV := Lib.hid hv
  have HR0 := Lib.hid hr0
  obtain ⟨pd, hpd⟩ : ∃ f, f = isBrk z.s k := ⟨_, rfl⟩
  rw [← hpd] at HCL HV
  clear hr0 hv hb hg hgb hpd
  obtain ⟨W1, h1⟩ : ∃ W, W = w.alloc (.cells #[.slice z.p.a1 z.s.feeds.length z.p.c1, .slice z.p.a2 z.s.brks.length z.p.c2, .slice z.p.a3 z.s.loops.length z.p.c3, .slice z.p.a4 z.s.racks.length z.p.c4, .int .i64 z.s.sw, .slice z.p.a5 z.s.links.length z.p.c5, .slice z.p.a6 z.s.hosts.length z.p.c6] 29) := ⟨_, rfl⟩
  obtain ⟨W2, h2⟩ : ∃ W, W = W1.alloc (.cells #[.slice z.A z.xs.length z.c] 32) := ⟨_, rfl⟩
  obtain ⟨W, h3⟩ : ∃ W, W = W2.alloc (.cells #[.slice z.q.a1 z.d.hosts.length z.q.c1, .slice z.q.a2 z.d.reps.length z.q.c2] 36) := ⟨_, rfl⟩
  obtain ⟨B0, X1⟩ := sn_boxes h1 h2 h3
  have z3 : W.heap.size = w.heap.size + 1 + 1 + 1 := sn_size h1 h2 h3
  have HB := Lib.hid B0
  have Z0 := hz.on B0 (Nat.le_refl _)
  have HZ := Lib.hid (fun (X : World) (hX : Below W.heap.size W X) => Z0.on hX (Nat.le_refl _))
  have HF := Lib.hid (fun (X : World) (hX : Below W.heap.size W X) => ((X1.on hX (Nat.le_refl _)).cells : X.cell? ⟨w.heap.size, 0, none⟩ = some (.slice z.p.a1 z.s.feeds.length z.p.c1) ∧ X.cell? ⟨w.heap.size, 1, none⟩ = some (.slice z.p.a2 z.s.brks.length z.p.c2) ∧ X.cell? ⟨w.heap.size, 2, none⟩ = some (.slice z.p.a3 z.s.loops.length z.p.c3) ∧ X.cell? ⟨w.heap.size, 3, none⟩ = some (.slice z.p.a4 z.s.racks.length z.p.c4) ∧ X.cell? ⟨w.heap.size, 4, none⟩ = some (.int .i64 z.s.sw) ∧ X.cell? ⟨w.heap.size, 5, none⟩ = some (.slice z.p.a5 z.s.links.length z.p.c5) ∧ X.cell? ⟨w.heap.size, 6, none⟩ = some (.slice z.p.a6 z.s.hosts.length z.p.c6) ∧ X.cell? ⟨w.heap.size + 1, 0, none⟩ = some (.slice z.A z.xs.length z.c) ∧ X.cell? ⟨w.heap.size + 1 + 1, 0, none⟩ = some (.slice z.q.a1 z.d.hosts.length z.q.c1) ∧ X.cell? ⟨w.heap.size + 1 + 1, 1, none⟩ = some (.slice z.q.a2 z.d.reps.length z.q.c2)))
  have HX := Lib.hid (fun (X : World) (hX : Below W.heap.size W X) => X1.on hX (Nat.le_refl _))
  have HKW := Lib.hid (Below.refl W.heap.size W)
  have hle := HB.out.size
  obtain ⟨n1, n2, n3, n4, n5, n6, n7, n8⟩ := hz.bounds
  have HVV := Lib.hid (fun (X : World) (hX : SnAt X z) => c_vTo z r0 HR0.out X hX)
  clear hz B0 X1 z3 Z0
  generalize hA6 : z.p.a6 = A6 at *
  have HA6 := Lib.hid hA6
  clear hA6
  obtain ⟨f0, f1, f2, f3, f4, f5, f6, g0, g1, g2⟩ := HF.out W HKW.out
  rw [h3, h2, h1] at f0 f1 f2 f3 f4 f5 f6 g0 g1 g2
  generalize hBB : w.heap.size = B at *
  go_enter Tryz.func135, Tryz.ntmps135
  go_wp2_with (fail)
  rw [← h1, ← h2, ← h3]
  clear h1 h2 h3 f0 f1 f2 f3 f4 f5 f6 g0 g1 g2
  go_at_call 27
  refine (HVV.out W (HZ.out W HKW.out)).mono ?_
  rintro e v1 ⟨rfl, bb⟩
  have HKv1 := Lib.hid (below_join HKW.out bb HKW.out.size)
  clear bb
  cases r0
  · have HVE := Lib.hid (show (0 : Int) = v from HV.out)
    go_wp2_with (fail)
    go_ret
    exact ⟨(show Ending.returned (.int .i64 0) = .returned (.int .i64 v) by rw [HVE.out]), below_join HB.out HKv1.out hle⟩
  have ok := HR0.out.1 rfl
  have HOK := Lib.hid ok
  have HVE := Lib.hid (show soFar z pd z.s.hosts.length = v from HV.out)
  have HDL := Lib.hid (show z.d.hosts.length = z.s.hosts.length from ok.2.2.1)
  have hd16 := (siteOk_iff.1 ok.1).nhosts.2
  clear ok
  obtain ⟨f0, f1, f2, f3, f4, f5, f6, g0, g1, g2⟩ := HF.out v1 HKv1.out
  go_wp2_with (fail)
  clear f0 f1 f2 f3 f4 f5 f6 g0 g1 g2
  go_loopw [9, 20] (fun sm i wr => ∃ k : Nat, k ≤ z.s.hosts.length ∧ sm = .int .i64 (soFar z pd k) ∧ i = .int .i64 (k : Int) ∧ Hid (Below W.heap.size W wr)) (fun _ i _ => z.s.hosts.length - (intOf i).toNat)
  case atStart => exact ⟨0, Nat.zero_le _, rfl, rfl, HKv1⟩
  case round =>
    obtain ⟨k, hk, rfl, rfl, hK⟩ := hrel
    have hki : ((k : Nat) : Int).toNat = k := by omega
    obtain ⟨S, hS⟩ : ∃ S, soFar z pd k = S := ⟨_, rfl⟩
    have HS := Lib.hid hS
    have bS := soFar_bd HOK.out pd hk
    rw [hS] at bS
    rw [hS]
    clear hS
    by_cases hlt : k < z.s.hosts.length
    · obtain ⟨x, y, hx, hy, -, bi, bp⟩ := host_ok HOK.out hlt
      have HXX := Lib.hid hx
      have HYY := Lib.hid hy
      obtain ⟨pb, po, e6, hpb, x0, x1, x2, x3⟩ := hs_at (HZ.out wr hK.out) hx
      rw [HA6.out] at e6
      subst e6
      obtain ⟨f0, f1, f2, f3, f4, f5, f6, g0, g1, g2⟩ := HF.out wr hK.out
      have hki2 : (k : Int) < (z.s.hosts.length : Int) := by omega
      have hki3 : (k : Int) < (z.d.hosts.length : Int) := by have := HDL.out; omega
      obtain ⟨V, hV⟩ : ∃ X, X = wr.alloc (.cells #[.int .i64 x.rack, .int .i64 x.cores, .int .i64 x.idle, .int .i64 x.per] 89) := ⟨_, rfl⟩
      have bV : Below wr.heap.size wr V := by rw [hV]; exact (Below.refl _ _).alloc (Nat.le_refl _) _
      have BV : V.heap[wr.heap.size]? = some (.cells #[.int .i64 x.rack, .int .i64 x.cores, .int .i64 x.idle, .int .i64 x.per] 89 (0, 0)) := by rw [hV]; exact box_new _ _ _
      have HKV := Lib.hid (below_join hK.out bV hK.out.size)
      have HBV := Lib.hid (fun (X : World) (hX : Below V.heap.size V X) => (⟨cell_of (box_on BV hX (Nat.le_refl _)) rfl, cell_of (box_on BV hX (Nat.le_refl _)) rfl, cell_of (box_on BV hX (Nat.le_refl _)) rfl, cell_of (box_on BV hX (Nat.le_refl _)) rfl⟩ : X.cell? ⟨wr.heap.size, 0, none⟩ = some (.int .i64 x.rack) ∧ X.cell? ⟨wr.heap.size, 1, none⟩ = some (.int .i64 x.cores) ∧ X.cell? ⟨wr.heap.size, 2, none⟩ = some (.int .i64 x.idle) ∧ X.cell? ⟨wr.heap.size, 3, none⟩ = some (.int .i64 x.per)))
      have HKVV := Lib.hid (Below.refl V.heap.size V)
      clear hx hy bV BV
      rcases hp : pd k with _ | _
      · have HP := Lib.hid hp
        have HSN := Lib.hid (soFar_no hp (z := z))
        clear hp
        go_wp2_with (fail)
        rw [← hV]
        clear hV x0 x1 x2 x3 f0 f1 f2 f3 f4 f5 f6 g0 g1 g2
        go_at_call 136
        refine (HCL.out V (below_join HB.out HKV.out hle) HOK.out k hlt false HP.out).mono ?_
        rintro e v2 ⟨rfl, bb⟩
        have HK2 := Lib.hid (below_join HKV.out bb HKV.out.size)
        clear bb
        go_wp2_with (fail)
        go_roundw
        case rel => exact ⟨k + 1, by omega, by rw [HSN.out, HS.out], by go_num, HK2⟩
        case measure => simp only [intOf]; omega
      · have HP := Lib.hid hp
        clear hp
        rcases h4 : ((y.phase : Int) == 4) with _ | _
        · obtain ⟨u, hu⟩ : ∃ u, usedD z.ss z.d.reps (k : Int) = u := ⟨_, rfl⟩
          have HU := Lib.hid hu
          have bu := used_bd HOK.out (k : Int)
          rw [show usedD (Sn.ss z) z.d.reps (k : Int) = u from hu] at bu
          obtain ⟨pr, hpr⟩ : ∃ t, x.per * u = t := ⟨_, rfl⟩
          have HPR := Lib.hid hpr
          have bpr : 0 ≤ pr ∧ pr ≤ 24000000 := by
            rw [← hpr]
            have p1 := Int.mul_nonneg bp.1 bu.1
            have p2 : x.per * u ≤ 1000 * u := Int.mul_le_mul_of_nonneg_right bp.2 bu.1
            omega
          have HSY := Lib.hid (show soFar z pd (k + 1) = S + (x.idle + pr) by
            rw [soFar_yes HXX.out HYY.out HP.out (by intro h; rw [h] at h4; simp at h4), HS.out, HU.out, HPR.out])
          have hne : ((y.phase : Int) != 4) = true := by unfold bne; rw [h4]; rfl
          clear hu hpr
          go_wp2_with (fail)
          rw [← hV]
          clear hV x0 x1 x2 x3 f0 f1 f2 f3 f4 f5 f6 g0 g1 g2
          go_at_call 136
          refine (HCL.out V (below_join HB.out HKV.out hle) HOK.out k hlt true HP.out).mono ?_
          rintro e v2 ⟨rfl, bb⟩
          have HKK2 := Lib.hid (below_join HKVV.out bb (Nat.le_refl _))
          have HK2 := Lib.hid (below_join HKV.out bb HKV.out.size)
          obtain ⟨f0, f1, f2, f3, f4, f5, f6, g0, g1, g2⟩ := HF.out v2 HK2.out
          obtain ⟨qb, qo, e1, hqb, y0⟩ := ho_at (HZ.out v2 HK2.out) HYY.out
          rw [e1] at g1
          clear bb e1
          go_wp2_with (fail)
          obtain ⟨j0, j1, j2, j3⟩ := HBV.out v2 HKK2.out
          obtain ⟨f0, f1, f2, f3, f4, f5, f6, g0, g1, g2⟩ := HF.out v2 HK2.out
          go_region_held3 (fun X => (X.cell? ⟨B, 0, none⟩ = some (.slice z.p.a1 z.s.feeds.length z.p.c1) ∧ X.cell? ⟨B, 1, none⟩ = some (.slice z.p.a2 z.s.brks.length z.p.c2) ∧ X.cell? ⟨B, 2, none⟩ = some (.slice z.p.a3 z.s.loops.length z.p.c3) ∧ X.cell? ⟨B, 3, none⟩ = some (.slice z.p.a4 z.s.racks.length z.p.c4) ∧ X.cell? ⟨B, 4, none⟩ = some (.int .i64 z.s.sw) ∧ X.cell? ⟨B, 5, none⟩ = some (.slice z.p.a5 z.s.links.length z.p.c5) ∧ X.cell? ⟨B, 6, none⟩ = some (.slice (some ⟨pb, po, none⟩) z.s.hosts.length z.p.c6) ∧ X.cell? ⟨B + 1, 0, none⟩ = some (.slice z.A z.xs.length z.c) ∧ X.cell? ⟨B + 1 + 1, 0, none⟩ = some (.slice z.q.a1 z.d.hosts.length z.q.c1) ∧ X.cell? ⟨B + 1 + 1, 1, none⟩ = some (.slice z.q.a2 z.d.reps.length z.q.c2)) ∧ X.cell? ⟨wr.heap.size, 2, none⟩ = some (.int .i64 x.idle) ∧ X.cell? ⟨wr.heap.size, 3, none⟩ = some (.int .i64 x.per))
            (first | exact ⟨HF.out v3 HK3.out, (HBV.out v3 HKK3.out).2.2⟩ | exact ⟨HF.out v2 HK2.out, (HBV.out v2 HKK2.out).2.2⟩ | fail)
            (first
              | (go_at_call 93; (with_reducible refine (c_usedTo z (k : Int) u HU.out v2.drew (HZ.out v2.drew HK2.out.drew)).mono ?_); rintro e v3 ⟨rfl, bb0⟩; have bb := below_join (Below.refl v2.heap.size v2).drew bb0 (Nat.le_refl _); have HK3 := Lib.hid (below_join HK2.out bb HK2.out.size); have HKK3 := Lib.hid (below_join HKK2.out bb HKK2.out.size); clear bb bb0)
              | fail)
          go_wp2_with (fail)
          go_roundw
          case rel => exact ⟨k + 1, by omega, by rw [HSY.out, HPR.out, wrap_in (x := pr) (by omega) (by omega), wrap_in (x := x.idle + pr) (by omega) (by omega), wrap_in (by omega) (by omega)], by go_num, HK3⟩
          case measure => simp only [intOf]; omega
        · have HSN := Lib.hid (soFar_off (z := z) (b := pd) HYY.out (by have := eq_of_beq h4; omega))
          have hne : ((y.phase : Int) != 4) = false := by unfold bne; rw [h4]; rfl
          go_wp2_with (fail)
          rw [← hV]
          clear hV x0 x1 x2 x3 f0 f1 f2 f3 f4 f5 f6 g0 g1 g2
          go_at_call 136
          refine (HCL.out V (below_join HB.out HKV.out hle) HOK.out k hlt true HP.out).mono ?_
          rintro e v2 ⟨rfl, bb⟩
          have HK2 := Lib.hid (below_join HKV.out bb HKV.out.size)
          obtain ⟨f0, f1, f2, f3, f4, f5, f6, g0, g1, g2⟩ := HF.out v2 HK2.out
          obtain ⟨qb, qo, e1, hqb, y0⟩ := ho_at (HZ.out v2 HK2.out) HYY.out
          rw [e1] at g1
          clear bb e1
          go_wp2_with (fail)
          go_roundw
          case rel => exact ⟨k + 1, by omega, by rw [HSN.out, HS.out], by go_num, HK2⟩
          case measure => simp only [intOf]; omega
    · obtain rfl : k = z.s.hosts.length := by omega
      have HVS := Lib.hid (show S = v by rw [← HVE.out, HS.out])
      go_wp2_with (fail)
      go_ret
      exact ⟨(show Ending.returned (.int .i64 S) = .returned (.int .i64 v) by rw [HVS.out]), below_join HB.out hK.out hle⟩
set_option maxHeartbeats 16000000 in
theorem c_loadFeed (z : Sn) (r0 : Bool) (hr0 : r0 = true ↔ z.Ok) (b g : Nat) (k : Int) (w : World) (hz : SnAt w z) (hb : w.heap[b]? = some (.cells #[.slice z.p.a1 z.s.feeds.length z.p.c1, .slice z.p.a2 z.s.brks.length z.p.c2, .slice z.p.a3 z.s.loops.length z.p.c3, .slice z.p.a4 z.s.racks.length z.p.c4, .int .i64 z.s.sw, .slice z.p.a5 z.s.links.length z.p.c5, .slice z.p.a6 z.s.hosts.length z.p.c6] 29 (0, 0))) (hg : w.cell? ⟨g, 0, none⟩ = some (.int .i64 k)) (hgb : g < w.heap.size) (v : Int) (hv : pwV z r0 (isFeed z.s k) = v) :
    Calls Tryz.prog 135 #[.agg #[.slice z.p.a1 z.s.feeds.length z.p.c1, .slice z.p.a2 z.s.brks.length z.p.c2, .slice z.p.a3 z.s.loops.length z.p.c3, .slice z.p.a4 z.s.racks.length z.p.c4, .int .i64 z.s.sw, .slice z.p.a5 z.s.links.length z.p.c5, .slice z.p.a6 z.s.hosts.length z.p.c6], .agg #[.slice z.A z.xs.length z.c], .agg #[.slice z.q.a1 z.d.hosts.length z.q.c1, .slice z.q.a2 z.d.reps.length z.q.c2], .func (.func 138) #[] #[.pointer (some ⟨b, 0, none⟩), .pointer (some ⟨g, 0, none⟩)]] w fun e w' => e = .returned (.int .i64 v) ∧ Below w.heap.size w w' := by
  have HCL := Lib.hid (fun (X : World) (hX : Below w.heap.size w X) (ok : z.Ok) (i : Nat) (hi : i < z.s.hosts.length) (r : Bool) (hr : (isFeed z.s k) i = r) => (c_isFeed z ok b g k i X (hz.on hX (Nat.le_refl _)) (box_on hb hX (Nat.le_refl _)) ((hX.cell (p := ⟨g, 0, none⟩) hgb).trans hg) (Nat.lt_of_lt_of_le hgb hX.size) hi r hr : Calls Tryz.prog 138 #[.int .i64 (i : Int), .pointer (some ⟨b, 0, none⟩), .pointer (some ⟨g, 0, none⟩)] X fun e w' => e = .returned (.bool r) ∧ Below X.heap.size X w'))
  have HV := Lib.hid hv
  have HR0 := Lib.hid hr0
  obtain ⟨pd, hpd⟩ : ∃ f, f = isFeed z.s k := ⟨_, rfl⟩
  rw [← hpd] at HCL HV
  clear hr0 hv hb hg hgb hpd
  obtain ⟨W1, h1⟩ : ∃ W, W = w.alloc (.cells #[.slice z.p.a1 z.s.feeds.length z.p.c1, .slice z.p.a2 z.s.brks.length z.p.c2, .slice z.p.a3 z.s.loops.length z.p.c3, .slice z.p.a4 z.s.racks.length z.p.c4, .int .i64 z.s.sw, .slice z.p.a5 z.s.links.length z.p.c5, .slice z.p.a6 z.s.hosts.length z.p.c6] 29) := ⟨_, rfl⟩
  obtain ⟨W2, h2⟩ : ∃ W, W = W1.alloc (.cells #[.slice z.A z.xs.length z.c] 32) := ⟨_, rfl⟩
  obtain ⟨W, h3⟩ : ∃ W, W = W2.alloc (.cells #[.slice z.q.a1 z.d.hosts.length z.q.c1, .slice z.q.a2 z.d.reps.length z.q.c2] 36) := ⟨_, rfl⟩
  obtain ⟨B0, X1⟩ := sn_boxes h1 h2 h3
  have z3 : W.heap.size = w.heap.size + 1 + 1 + 1 := sn_size h1 h2 h3
  have HB := Lib.hid B0
  have Z0 := hz.on B0 (Nat.le_refl _)
  have HZ := Lib.hid (fun (X : World) (hX : Below W.heap.size W X) => Z0.on hX (Nat.le_refl _))
  have HF := Lib.hid (fun (X : World) (hX : Below W.heap.size W X) => ((X1.on hX (Nat.le_refl _)).cells : X.cell? ⟨w.heap.size, 0, none⟩ = some (.slice z.p.a1 z.s.feeds.length z.p.c1) ∧ X.cell? ⟨w.heap.size, 1, none⟩ = some (.slice z.p.a2 z.s.brks.length z.p.c2) ∧ X.cell? ⟨w.heap.size, 2, none⟩ = some (.slice z.p.a3 z.s.loops.length z.p.c3) ∧ X.cell? ⟨w.heap.size, 3, none⟩ = some (.slice z.p.a4 z.s.racks.length z.p.c4) ∧ X.cell? ⟨w.heap.size, 4, none⟩ = some (.int .i64 z.s.sw) ∧ X.cell? ⟨w.heap.size, 5, none⟩ = some (.slice z.p.a5 z.s.links.length z.p.c5) ∧ X.cell? ⟨w.heap.size, 6, none⟩ = some (.slice z.p.a6 z.s.hosts.length z.p.c6) ∧ X.cell? ⟨w.heap.size + 1, 0, none⟩ = some (.slice z.A z.xs.length z.c) ∧ X.cell? ⟨w.heap.size + 1 + 1, 0, none⟩ = some (.slice z.q.a1 z.d.hosts.length z.q.c1) ∧ X.cell? ⟨w.heap.size + 1 + 1, 1, none⟩ = some (.slice z.q.a2 z.d.reps.length z.q.c2)))
  have HX := Lib.hid (fun (X : World) (hX : Below W.heap.size W X) => X1.on hX (Nat.le_refl _))
  have HKW := Lib.hid (Below.refl W.heap.size W)
  have hle := HB.out.size
  obtain ⟨n1, n2, n3, n4, n5, n6, n7, n8⟩ := hz.bounds
  have HVV := Lib.hid (fun (X : World) (hX : SnAt X z) => c_vTo z r0 HR0.out X hX)
  clear hz B0 X1 z3 Z0
  generalize hA6 : z.p.a6 = A6 at *
  have HA6 := Lib.hid hA6
  clear hA6
  obtain ⟨f0, f1, f2, f3, f4, f5, f6, g0, g1, g2⟩ := HF.out W HKW.out
  rw [h3, h2, h1] at f0 f1 f2 f3 f4 f5 f6 g0 g1 g2
  generalize hBB : w.heap.size = B at *
  go_enter Tryz.func135, Tryz.ntmps135
  go_wp2_with (fail)
  rw [← h1, ← h2, ← h3]
  clear h1 h2 h3 f0 f1 f2 f3 f4 f5 f6 g0 g1 g2
  go_at_call 27
  refine (HVV.out W (HZ.out W HKW.out)).mono ?_
  rintro e v1 ⟨rfl, bb⟩
  have HKv1 := Lib.hid (below_join HKW.out bb HKW.out.size)
  clear bb
  cases r0
  · have HVE := Lib.hid (show (0 : Int) = v from HV.out)
    go_wp2_with (fail)
    go_ret
    exact ⟨(show Ending.returned (.int .i64 0) = .returned (.int .i64 v) by rw [HVE.out]), below_join HB.out HKv1.out hle⟩
  have ok := HR0.out.1 rfl
  have HOK := Lib.hid ok
  have HVE := Lib.hid (show soFar z pd z.s.hosts.length = v from HV.out)
  have HDL := Lib.hid (show z.d.hosts.length = z.s.hosts.length from ok.2.2.1)
  have hd16 := (siteOk_iff.1 ok.1).nhosts.2
  clear ok
  obtain ⟨f0, f1, f2, f3, f4, f5, f6, g0, g1, g2⟩ := HF.out v1 HKv1.out
  go_wp2_with (fail)
  clear f0 f1 f2 f3 f4 f5 f6 g0 g1 g2
  go_loopw [9, 20] (fun sm i wr => ∃ k : Nat, k ≤ z.s.hosts.length ∧ sm = .int .i64 (soFar z pd k) ∧ i = .int .i64 (k : Int) ∧ Hid (Below W.heap.size W wr)) (fun _ i _ => z.s.hosts.length - (intOf i).toNat)
  case atStart => exact ⟨0, Nat.zero_le _, rfl, rfl, HKv1⟩
  case round =>
    obtain ⟨k, hk, rfl, rfl, hK⟩ := hrel
    have hki : ((k : Nat) : Int).toNat = k := by omega
    obtain ⟨S, hS⟩ : ∃ S, soFar z pd k = S := ⟨_, rfl⟩
    have HS := Lib.hid hS
    have bS := soFar_bd HOK.out pd hk
    rw [hS] at bS
    rw [hS]
    clear hS
    by_cases hlt : k < z.s.hosts.length
    · obtain ⟨x, y, hx, hy, -, bi, bp⟩ := host_ok HOK.out hlt
      have HXX := Lib.hid hx
      have HYY := Lib.hid hy
      obtain ⟨pb, po, e6, hpb, x0, x1, x2, x3⟩ := hs_at (HZ.out wr hK.out) hx
      rw [HA6.out] at e6
      subst e6
      obtain ⟨f0, f1, f2, f3, f4, f5, f6, g0, g1, g2⟩ := HF.out wr hK.out
      have hki2 : (k : Int) < (z.s.hosts.length : Int) := by omega
      have hki3 : (k : Int) < (z.d.hosts.length : Int) := by have := HDL.out; omega
      obtain ⟨V, hV⟩ : ∃ X, X = wr.alloc (.cells #[.int .i64 x.rack, .int .i64 x.cores, .int .i64 x.idle, .int .i64 x.per] 89) := ⟨_, rfl⟩
      have bV : Below wr.heap.size wr V := by rw [hV]; exact (Below.refl _ _).alloc (Nat.le_refl _) _
      have BV : V.heap[wr.heap.size]? = some (.cells #[.int .i64 x.rack, .int .i64 x.cores, .int .i64 x.idle, .int .i64 x.per] 89 (0, 0)) := by rw [hV]; exact box_new _ _ _
      have HKV := Lib.hid (below_join hK.out bV hK.out.size)
      have HBV := Lib.hid (fun (X : World) (hX : Below V.heap.size V X) => (⟨cell_of (box_on BV hX (Nat.le_refl _)) rfl, cell_of (box_on BV hX (Nat.le_refl _)) rfl, cell_of (box_on BV hX (Nat.le_refl _)) rfl, cell_of (box_on BV hX (Nat.le_refl _)) rfl⟩ : X.cell? ⟨wr.heap.size, 0, none⟩ = some (.int .i64 x.rack) ∧ X.cell? ⟨wr.heap.size, 1, none⟩ = some (.int .i64 x.cores) ∧ X.cell? ⟨wr.heap.size, 2, none⟩ = some (.int .i64 x.idle) ∧ X.cell? ⟨wr.heap.size, 3, none⟩ = some (.int .i64 x.per)))
      have HKVV := Lib.hid (Below.refl V.heap.size V)
      clear hx hy bV BV
      rcases hp : pd k with _ | _
      · have HP := Lib.hid hp
        have HSN := Lib.hid (soFar_no hp (z := z))
        clear hp
        go_wp2_with (fail)
        rw [← hV]
        clear hV x0 x1 x2 x3 f0 f1 f2 f3 f4 f5 f6 g0 g1 g2
        go_at_call 138
        refine (HCL.out V (below_join HB.out HKV.out hle) HOK.out k hlt false HP.out).mono ?_
        rintro e v2 ⟨rfl, bb⟩
        have HK2 := Lib.hid (below_join HKV.out bb HKV.out.size)
        clear bb
        go_wp2_with (fail)
        go_roundw
        case rel => exact ⟨k + 1, by omega, by rw [HSN.out, HS.out], by go_num, HK2⟩
        case measure => simp only [intOf]; omega
      · have HP := Lib.hid hp
        clear hp
        rcases h4 : ((y.phase : Int) == 4) with _ | _
        · obtain ⟨u, hu⟩ : ∃ u, usedD z.ss z.d.reps (k : Int) = u := ⟨_, rfl⟩
          have HU := Lib.hid hu
          have bu := used_bd HOK.out (k : Int)
          rw [show usedD (Sn.ss z) z.d.reps (k : Int) = u from hu] at bu
          obtain ⟨pr, hpr⟩ : ∃ t, x.per * u = t := ⟨_, rfl⟩
          have HPR := Lib.hid hpr
          have bpr : 0 ≤ pr ∧ pr ≤ 24000000 := by
            rw [← hpr]
            have p1 := Int.mul_nonneg bp.1 bu.1
            have p2 : x.per * u ≤ 1000 * u := Int.mul_le_mul_of_nonneg_right bp.2 bu.1
            omega
          have HSY := Lib.hid (show soFar z pd (k + 1) = S + (x.idle + pr) by
            rw [soFar_yes HXX.out HYY.out HP.out (by intro h; rw [h] at h4; simp at h4), HS.out, HU.out, HPR.out])
          have hne : ((y.phase : Int) != 4) = true := by unfold bne; rw [h4]; rfl
          clear hu hpr
          go_wp2_with (fail)
          rw [← hV]
          clear hV x0 x1 x2 x3 f0 f1 f2 f3 f4 f5 f6 g0 g1 g2
          go_at_call 138
          refine (HCL.out V (below_join HB.out HKV.out hle) HOK.out k hlt true HP.out).mono ?_
          rintro e v2 ⟨rfl, bb⟩
          have HKK2 := Lib.hid (below_join HKVV.out bb (Nat.le_refl _))
          have HK2 := Lib.hid (below_join HKV.out bb HKV.out.size)
          obtain ⟨f0, f1, f2, f3, f4, f5, f6, g0, g1, g2⟩ := HF.out v2 HK2.out
          obtain ⟨qb, qo, e1, hqb, y0⟩ := ho_at (HZ.out v2 HK2.out) HYY.out
          rw [e1] at g1
          clear bb e1
          go_wp2_with (fail)
          obtain ⟨j0, j1, j2, j3⟩ := HBV.out v2 HKK2.out
          obtain ⟨f0, f1, f2, f3, f4, f5, f6, g0, g1, g2⟩ := HF.out v2 HK2.out
          go_region_held3 (fun X => (X.cell? ⟨B, 0, none⟩ = some (.slice z.p.a1 z.s.feeds.length z.p.c1) ∧ X.cell? ⟨B, 1, none⟩ = some (.slice z.p.a2 z.s.brks.length z.p.c2) ∧ X.cell? ⟨B, 2, none⟩ = some (.slice z.p.a3 z.s.loops.length z.p.c3) ∧ X.cell? ⟨B, 3, none⟩ = some (.slice z.p.a4 z.s.racks.length z.p.c4) ∧ X.cell? ⟨B, 4, none⟩ = some (.int .i64 z.s.sw) ∧ X.cell? ⟨B, 5, none⟩ = some (.slice z.p.a5 z.s.links.length z.p.c5) ∧ X.cell? ⟨B, 6, none⟩ = some (.slice (some ⟨pb, po, none⟩) z.s.hosts.length z.p.c6) ∧ X.cell? ⟨B + 1, 0, none⟩ = some (.slice z.A z.xs.length z.c) ∧ X.cell? ⟨B + 1 + 1, 0, none⟩ = some (.slice z.q.a1 z.d.hosts.length z.q.c1) ∧ X.cell? ⟨B + 1 + 1, 1, none⟩ = some (.slice z.q.a2 z.d.reps.length z.q.c2)) ∧ X.cell? ⟨wr.heap.size, 2, none⟩ = some (.int .i64 x.idle) ∧ X.cell? ⟨wr.heap.size, 3, none⟩ = some (.int .i64 x.per))
            (first | exact ⟨HF.out v3 HK3.out, (HBV.out v3 HKK3.out).2.2⟩ | exact ⟨HF.out v2 HK2.out, (HBV.out v2 HKK2.out).2.2⟩ | fail)
            (first
              | (go_at_call 93; (with_reducible refine (c_usedTo z (k : Int) u HU.out v2.drew (HZ.out v2.drew HK2.out.drew)).mono ?_); rintro e v3 ⟨rfl, bb0⟩; have bb := below_join (Below.refl v2.heap.size v2).drew bb0 (Nat.le_refl _); have HK3 := Lib.hid (below_join HK2.out bb HK2.out.size); have HKK3 := Lib.hid (below_join HKK2.out bb HKK2.out.size); clear bb bb0)
              | fail)
          go_wp2_with (fail)
          go_roundw
          case rel => exact ⟨k + 1, by omega, by rw [HSY.out, HPR.out, wrap_in (x := pr) (by omega) (by omega), wrap_in (x := x.idle + pr) (by omega) (by omega), wrap_in (by omega) (by omega)], by go_num, HK3⟩
          case measure => simp only [intOf]; omega
        · have HSN := Lib.hid (soFar_off (z := z) (b := pd) HYY.out (by have := eq_of_beq h4; omega))
          have hne : ((y.phase : Int) != 4) = false := by unfold bne; rw [h4]; rfl
          go_wp2_with (fail)
          rw [← hV]
          clear hV x0 x1 x2 x3 f0 f1 f2 f3 f4 f5 f6 g0 g1 g2
          go_at_call 138
          refine (HCL.out V (below_join HB.out HKV.out hle) HOK.out k hlt true HP.out).mono ?_
          rintro e v2 ⟨rfl, bb⟩
          have HK2 := Lib.hid (below_join HKV.out bb HKV.out.size)
          obtain ⟨f0, f1, f2, f3, f4, f5, f6, g0, g1, g2⟩ := HF.out v2 HK2.out
          obtain ⟨qb, qo, e1, hqb, y0⟩ := ho_at (HZ.out v2 HK2.out) HYY.out
          rw [e1] at g1
          clear bb e1
          go_wp2_with (fail)
          go_roundw
          case rel => exact ⟨k + 1, by omega, by rw [HSN.out, HS.out], by go_num, HK2⟩
          case measure => simp only [intOf]; omega
    · obtain rfl : k = z.s.hosts.length := by omega
      have HVS := Lib.hid (show S = v by rw [← HVE.out, HS.out])
      go_wp2_with (fail)
      go_ret
      exact ⟨(show Ending.returned (.int .i64 S) = .returned (.int .i64 v) by rw [HVS.out]), below_join HB.out hK.out hle⟩
end Go.Proofs.YtbbadnlaelgmlaaGreat

namespace Go.Proofs.YtbbadnlaelgmlaaGreat
open Go.RowKit
set_option maxRecDepth 100000
set_option linter.unusedVariables false
set_option linter.unusedSimpArgs false

set_option maxHeartbeats 4000000 in
theorem c_pwWatts (z : Sn) (r0 : Bool) (hr0 : r0 = true ↔ z.Ok) (k : Int) (w : World) (hz : SnAt w z) (v : Int) (hv : pwV z r0 (isHost k) = v) :
    Calls Tryz.prog 140 #[.agg #[.slice z.p.a1 z.s.feeds.length z.p.c1, .slice z.p.a2 z.s.brks.length z.p.c2, .slice z.p.a3 z.s.loops.length z.p.c3, .slice z.p.a4 z.s.racks.length z.p.c4, .int .i64 z.s.sw, .slice z.p.a5 z.s.links.length z.p.c5, .slice z.p.a6 z.s.hosts.length z.p.c6], .agg #[.slice z.A z.xs.length z.c], .agg #[.slice z.q.a1 z.d.hosts.length z.q.c1, .slice z.q.a2 z.d.reps.length z.q.c2], .int .i64 k] w fun e w' => e = .returned (.int .i64 v) ∧ Below w.heap.size w w' := by
  obtain ⟨W1, h1⟩ : ∃ W, W = w.alloc (.cells #[.slice z.p.a1 z.s.feeds.length z.p.c1, .slice z.p.a2 z.s.brks.length z.p.c2, .slice z.p.a3 z.s.loops.length z.p.c3, .slice z.p.a4 z.s.racks.length z.p.c4, .int .i64 z.s.sw, .slice z.p.a5 z.s.links.length z.p.c5, .slice z.p.a6 z.s.hosts.length z.p.c6] 29) := ⟨_, rfl⟩
  obtain ⟨W2, h2⟩ : ∃ W, W = W1.alloc (.cells #[.slice z.A z.xs.length z.c] 32) := ⟨_, rfl⟩
  obtain ⟨W3, h3⟩ : ∃ W, W = W2.alloc (.cells #[.slice z.q.a1 z.d.hosts.length z.q.c1, .slice z.q.a2 z.d.reps.length z.q.c2] 36) := ⟨_, rfl⟩
  obtain ⟨B0, X1⟩ := sn_boxes h1 h2 h3
  have z3 : W3.heap.size = w.heap.size + 1 + 1 + 1 := sn_size h1 h2 h3
  obtain ⟨W, h4⟩ : ∃ W, W = W3.alloc (.cells #[.int .i64 k] 3) := ⟨_, rfl⟩
  have B1 : Below w.heap.size w W := by rw [h4]; exact B0.alloc B0.size _
  have M0 : W.heap[w.heap.size + 1 + 1 + 1]? = some (.cells #[.int .i64 k] 3 (0, 0)) := by rw [h4, ← z3]; exact box_new _ _ _
  have z4 : W.heap.size = w.heap.size + 1 + 1 + 1 + 1 := by rw [h4, World.size_alloc, z3]
  have X2 : SnBx W w.heap.size z := by rw [h4]; exact X1.alloc _
  have HB := Lib.hid B1
  have Z0 := hz.on B1 (Nat.le_refl _)
  have HZ := Lib.hid (fun (X : World) (hX : Below W.heap.size W X) => Z0.on hX (Nat.le_refl _))
  have HF := Lib.hid (fun (X : World) (hX : Below W.heap.size W X) => ((X2.on hX (Nat.le_refl _)).cells : X.cell? ⟨w.heap.size, 0, none⟩ = some (.slice z.p.a1 z.s.feeds.length z.p.c1) ∧ X.cell? ⟨w.heap.size, 1, none⟩ = some (.slice z.p.a2 z.s.brks.length z.p.c2) ∧ X.cell? ⟨w.heap.size, 2, none⟩ = some (.slice z.p.a3 z.s.loops.length z.p.c3) ∧ X.cell? ⟨w.heap.size, 3, none⟩ = some (.slice z.p.a4 z.s.racks.length z.p.c4) ∧ X.cell? ⟨w.heap.size, 4, none⟩ = some (.int .i64 z.s.sw) ∧ X.cell? ⟨w.heap.size, 5, none⟩ = some (.slice z.p.a5 z.s.links.length z.p.c5) ∧ X.cell? ⟨w.heap.size, 6, none⟩ = some (.slice z.p.a6 z.s.hosts.length z.p.c6) ∧ X.cell? ⟨w.heap.size + 1, 0, none⟩ = some (.slice z.A z.xs.length z.c) ∧ X.cell? ⟨w.heap.size + 1 + 1, 0, none⟩ = some (.slice z.q.a1 z.d.hosts.length z.q.c1) ∧ X.cell? ⟨w.heap.size + 1 + 1, 1, none⟩ = some (.slice z.q.a2 z.d.reps.length z.q.c2)))
  have HX := Lib.hid (fun (X : World) (hX : Below W.heap.size W X) => X2.on hX (Nat.le_refl _))
  have HM0 := Lib.hid (fun (X : World) (hX : Below W.heap.size W X) => (box_on M0 hX (Nat.le_refl _) : X.heap[w.heap.size + 1 + 1 + 1]? = some (.cells #[.int .i64 k] 3 (0, 0))))
  have HKW := Lib.hid (Below.refl W.heap.size W)
  have hle := HB.out.size
  obtain ⟨n1, n2, n3, n4, n5, n6, n7, n8⟩ := hz.bounds
  have HCL := Lib.hid (fun (X : World) (hX : Below W.heap.size W X) => c_loadHost z r0 hr0 (w.heap.size + 1 + 1 + 1) k X (HZ.out X hX) (cell_of (HM0.out X hX) rfl) (at_lt (HM0.out X hX)) v hv)
  clear hr0 hv
  clear hz B0 X1 z3 Z0 B1 M0 z4 X2
  obtain ⟨f0, f1, f2, f3, f4, f5, f6, g0, g1, g2⟩ := HF.out W HKW.out
  have m00 := cell_of (HM0.out W HKW.out) (o := 0) rfl
  rw [h4, h3, h2, h1] at f0 f1 f2 f3 f4 f5 f6 g0 g1 g2 m00
  generalize hBB : w.heap.size = B at *
  go_enter Tryz.func140, Tryz.ntmps140
  go_wp2_with (fail)
  rw [← h1, ← h2, ← h3, ← h4]
  clear h1 h2 h3 h4 f0 f1 f2 f3 f4 f5 f6 g0 g1 g2 m00
  go_at_call 135
  refine (HCL.out W HKW.out).mono ?_
  rintro e v1 ⟨rfl, bb⟩
  have HKv1 := Lib.hid (below_join HKW.out bb HKW.out.size)
  clear bb
  go_wp2_with (fail)
  go_ret
  exact ⟨rfl, below_join HB.out HKv1.out hle⟩
set_option maxHeartbeats 4000000 in
theorem c_pwOfBreaker (z : Sn) (r0 : Bool) (hr0 : r0 = true ↔ z.Ok) (k : Int) (w : World) (hz : SnAt w z) (v : Int) (hv : pwV z r0 (isBrk z.s k) = v) :
    Calls Tryz.prog 105 #[.agg #[.slice z.p.a1 z.s.feeds.length z.p.c1, .slice z.p.a2 z.s.brks.length z.p.c2, .slice z.p.a3 z.s.loops.length z.p.c3, .slice z.p.a4 z.s.racks.length z.p.c4, .int .i64 z.s.sw, .slice z.p.a5 z.s.links.length z.p.c5, .slice z.p.a6 z.s.hosts.length z.p.c6], .agg #[.slice z.A z.xs.length z.c], .agg #[.slice z.q.a1 z.d.hosts.length z.q.c1, .slice z.q.a2 z.d.reps.length z.q.c2], .int .i64 k] w fun e w' => e = .returned (.int .i64 v) ∧ Below w.heap.size w w' := by
  obtain ⟨W1, h1⟩ : ∃ W, W = w.alloc (.cells #[.slice z.p.a1 z.s.feeds.length z.p.c1, .slice z.p.a2 z.s.brks.length z.p.c2, .slice z.p.a3 z.s.loops.length z.p.c3, .slice z.p.a4 z.s.racks.length z.p.c4, .int .i64 z.s.sw, .slice z.p.a5 z.s.links.length z.p.c5, .slice z.p.a6 z.s.hosts.length z.p.c6] 29) := ⟨_, rfl⟩
  obtain ⟨W2, h2⟩ : ∃ W, W = W1.alloc (.cells #[.slice z.A z.xs.length z.c] 32) := ⟨_, rfl⟩
  obtain ⟨W3, h3⟩ : ∃ W, W = W2.alloc (.cells #[.slice z.q.a1 z.d.hosts.length z.q.c1, .slice z.q.a2 z.d.reps.length z.q.c2] 36) := ⟨_, rfl⟩
  obtain ⟨B0, X1⟩ := sn_boxes h1 h2 h3
  have z3 : W3.heap.size = w.heap.size + 1 + 1 + 1 := sn_size h1 h2 h3
  obtain ⟨W, h4⟩ : ∃ W, W = W3.alloc (.cells #[.int .i64 k] 3) := ⟨_, rfl⟩
  have B1 : Below w.heap.size w W := by rw [h4]; exact B0.alloc B0.size _
  have M0 : W.heap[w.heap.size + 1 + 1 + 1]? = some (.cells #[.int .i64 k] 3 (0, 0)) := by rw [h4, ← z3]; exact box_new _ _ _
  have z4 : W.heap.size = w.heap.size + 1 + 1 + 1 + 1 := by rw [h4, World.size_alloc, z3]
  have X2 : SnBx W w.heap.size z := by rw [h4]; exact X1.alloc _
  have HB := Lib.hid B1
  have Z0 := hz.on B1 (Nat.le_refl _)
  have HZ := Lib.hid (fun (X : World) (hX : Below W.heap.size W X) => Z0.on hX (Nat.le_refl _))
  have HF := Lib.hid (fun (X : World) (hX : Below W.heap.size W X) => ((X2.on hX (Nat.le_refl _)).cells : X.cell? ⟨w.heap.size, 0, none⟩ = some (.slice z.p.a1 z.s.feeds.length z.p.c1) ∧ X.cell? ⟨w.heap.size, 1, none⟩ = some (.slice z.p.a2 z.s.brks.length z.p.c2) ∧ X.cell? ⟨w.heap.size, 2, none⟩ = some (.slice z.p.a3 z.s.loops.length z.p.c3) ∧ X.cell? ⟨w.heap.size, 3, none⟩ = some (.slice z.p.a4 z.s.racks.length z.p.c4) ∧ X.cell? ⟨w.heap.size, 4, none⟩ = some (.int .i64 z.s.sw) ∧ X.cell? ⟨w.heap.size, 5, none⟩ = some (.slice z.p.a5 z.s.links.length z.p.c5) ∧ X.cell? ⟨w.heap.size, 6, none⟩ = some (.slice z.p.a6 z.s.hosts.length z.p.c6) ∧ X.cell? ⟨w.heap.size + 1, 0, none⟩ = some (.slice z.A z.xs.length z.c) ∧ X.cell? ⟨w.heap.size + 1 + 1, 0, none⟩ = some (.slice z.q.a1 z.d.hosts.length z.q.c1) ∧ X.cell? ⟨w.heap.size + 1 + 1, 1, none⟩ = some (.slice z.q.a2 z.d.reps.length z.q.c2)))
  have HX := Lib.hid (fun (X : World) (hX : Below W.heap.size W X) => X2.on hX (Nat.le_refl _))
  have HM0 := Lib.hid (fun (X : World) (hX : Below W.heap.size W X) => (box_on M0 hX (Nat.le_refl _) : X.heap[w.heap.size + 1 + 1 + 1]? = some (.cells #[.int .i64 k] 3 (0, 0))))
  have HKW := Lib.hid (Below.refl W.heap.size W)
  have hle := HB.out.size
  obtain ⟨n1, n2, n3, n4, n5, n6, n7, n8⟩ := hz.bounds
  have HCL := Lib.hid (fun (X : World) (hX : Below W.heap.size W X) => c_loadBrk z r0 hr0 w.heap.size (w.heap.size + 1 + 1 + 1) k X (HZ.out X hX) ((HX.out X hX).b1) (cell_of (HM0.out X hX) rfl) (at_lt (HM0.out X hX)) v hv)
  clear hr0 hv
  clear hz B0 X1 z3 Z0 B1 M0 z4 X2
  obtain ⟨f0, f1, f2, f3, f4, f5, f6, g0, g1, g2⟩ := HF.out W HKW.out
  have m00 := cell_of (HM0.out W HKW.out) (o := 0) rfl
  rw [h4, h3, h2, h1] at f0 f1 f2 f3 f4 f5 f6 g0 g1 g2 m00
  generalize hBB : w.heap.size = B at *
  go_enter Tryz.func105, Tryz.ntmps105
  go_wp2_with (fail)
  rw [← h1, ← h2, ← h3, ← h4]
  clear h1 h2 h3 h4 f0 f1 f2 f3 f4 f5 f6 g0 g1 g2 m00
  go_at_call 135
  refine (HCL.out W HKW.out).mono ?_
  rintro e v1 ⟨rfl, bb⟩
  have HKv1 := Lib.hid (below_join HKW.out bb HKW.out.size)
  clear bb
  go_wp2_with (fail)
  go_ret
  exact ⟨rfl, below_join HB.out HKv1.out hle⟩
set_option maxHeartbeats 4000000 in
theorem c_pwOfFeed (z : Sn) (r0 : Bool) (hr0 : r0 = true ↔ z.Ok) (k : Int) (w : World) (hz : SnAt w z) (v : Int) (hv : pwV z r0 (isFeed z.s k) = v) :
    Calls Tryz.prog 106 #[.agg #[.slice z.p.a1 z.s.feeds.length z.p.c1, .slice z.p.a2 z.s.brks.length z.p.c2, .slice z.p.a3 z.s.loops.length z.p.c3, .slice z.p.a4 z.s.racks.length z.p.c4, .int .i64 z.s.sw, .slice z.p.a5 z.s.links.length z.p.c5, .slice z.p.a6 z.s.hosts.length z.p.c6], .agg #[.slice z.A z.xs.length z.c], .agg #[.slice z.q.a1 z.d.hosts.length z.q.c1, .slice z.q.a2 z.d.reps.length z.q.c2], .int .i64 k] w fun e w' => e = .returned (.int .i64 v) ∧ Below w.heap.size w w' := by
  obtain ⟨W1, h1⟩ : ∃ W, W = w.alloc (.cells #[.slice z.p.a1 z.s.feeds.length z.p.c1, .slice z.p.a2 z.s.brks.length z.p.c2, .slice z.p.a3 z.s.loops.length z.p.c3, .slice z.p.a4 z.s.racks.length z.p.c4, .int .i64 z.s.sw, .slice z.p.a5 z.s.links.length z.p.c5, .slice z.p.a6 z.s.hosts.length z.p.c6] 29) := ⟨_, rfl⟩
  obtain ⟨W2, h2⟩ : ∃ W, W = W1.alloc (.cells #[.slice z.A z.xs.length z.c] 32) := ⟨_, rfl⟩
  obtain ⟨W3, h3⟩ : ∃ W, W = W2.alloc (.cells #[.slice z.q.a1 z.d.hosts.length z.q.c1, .slice z.q.a2 z.d.reps.length z.q.c2] 36) := ⟨_, rfl⟩
  obtain ⟨B0, X1⟩ := sn_boxes h1 h2 h3
  have z3 : W3.heap.size = w.heap.size + 1 + 1 + 1 := sn_size h1 h2 h3
  obtain ⟨W, h4⟩ : ∃ W, W = W3.alloc (.cells #[.int .i64 k] 3) := ⟨_, rfl⟩
  have B1 : Below w.heap.size w W := by rw [h4]; exact B0.alloc B0.size _
  have M0 : W.heap[w.heap.size + 1 + 1 + 1]? = some (.cells #[.int .i64 k] 3 (0, 0)) := by rw [h4, ← z3]; exact box_new _ _ _
  have z4 : W.heap.size = w.heap.size + 1 + 1 + 1 + 1 := by rw [h4, World.size_alloc, z3]
  have X2 : SnBx W w.heap.size z := by rw [h4]; exact X1.alloc _
  have HB := Lib.hid B1
  have Z0 := hz.on B1 (Nat.le_refl _)
  have HZ := Lib.hid (fun (X : World) (hX : Below W.heap.size W X) => Z0.on hX (Nat.le_refl _))
  have HF := Lib.hid (fun (X : World) (hX : Below W.heap.size W X) => ((X2.on hX (Nat.le_refl _)).cells : X.cell? ⟨w.heap.size, 0, none⟩ = some (.slice z.p.a1 z.s.feeds.length z.p.c1) ∧ X.cell? ⟨w.heap.size, 1, none⟩ = some (.slice z.p.a2 z.s.brks.length z.p.c2) ∧ X.cell? ⟨w.heap.size, 2, none⟩ = some (.slice z.p.a3 z.s.loops.length z.p.c3) ∧ X.cell? ⟨w.heap.size, 3, none⟩ = some (.slice z.p.a4 z.s.racks.length z.p.c4) ∧ X.cell? ⟨w.heap.size, 4, none⟩ = some (.int .i64 z.s.sw) ∧ X.cell? ⟨w.heap.size, 5, none⟩ = some (.slice z.p.a5 z.s.links.length z.p.c5) ∧ X.cell? ⟨w.heap.size, 6, none⟩ = some (.slice z.p.a6 z.s.hosts.length z.p.c6) ∧ X.cell? ⟨w.heap.size + 1, 0, none⟩ = some (.slice z.A z.xs.length z.c) ∧ X.cell? ⟨w.heap.size + 1 + 1, 0, none⟩ = some (.slice z.q.a1 z.d.hosts.length z.q.c1) ∧ X.cell? ⟨w.heap.size + 1 + 1, 1, none⟩ = some (.slice z.q.a2 z.d.reps.length z.q.c2)))
  have HX := Lib.hid (fun (X : World) (hX : Below W.heap.size W X) => X2.on hX (Nat.le_refl _))
  have HM0 := Lib.hid (fun (X : World) (hX : Below W.heap.size W X) => (box_on M0 hX (Nat.le_refl _) : X.heap[w.heap.size + 1 + 1 + 1]? = some (.cells #[.int .i64 k] 3 (0, 0))))
  have HKW := Lib.hid (Below.refl W.heap.size W)
  have hle := HB.out.size
  obtain ⟨n1, n2, n3, n4, n5, n6, n7, n8⟩ := hz.bounds
  have HCL := Lib.hid (fun (X : World) (hX : Below W.heap.size W X) => c_loadFeed z r0 hr0 w.heap.size (w.heap.size + 1 + 1 + 1) k X (HZ.out X hX) ((HX.out X hX).b1) (cell_of (HM0.out X hX) rfl) (at_lt (HM0.out X hX)) v hv)
  clear hr0 hv
  clear hz B0 X1 z3 Z0 B1 M0 z4 X2
  obtain ⟨f0, f1, f2, f3, f4, f5, f6, g0, g1, g2⟩ := HF.out W HKW.out
  have m00 := cell_of (HM0.out W HKW.out) (o := 0) rfl
  rw [h4, h3, h2, h1] at f0 f1 f2 f3 f4 f5 f6 g0 g1 g2 m00
  generalize hBB : w.heap.size = B at *
  go_enter Tryz.func106, Tryz.ntmps106
  go_wp2_with (fail)
  rw [← h1, ← h2, ← h3, ← h4]
  clear h1 h2 h3 h4 f0 f1 f2 f3 f4 f5 f6 g0 g1 g2 m00
  go_at_call 135
  refine (HCL.out W HKW.out).mono ?_
  rintro e v1 ⟨rfl, bb⟩
  have HKv1 := Lib.hid (below_join HKW.out bb HKW.out.size)
  clear bb
  go_wp2_with (fail)
  go_ret
  exact ⟨rfl, below_join HB.out HKv1.out hle⟩
end Go.Proofs.YtbbadnlaelgmlaaGreat

namespace Go.Proofs.YtbbadnlaelgmlaaGreat
set_option linter.unusedVariables false
set_option linter.unusedSimpArgs false
set_option maxRecDepth 100000

def isLoop (s : SiteD) (k : Int) (h : Nat) : Bool := (rkAt s h).loop == k
theorem sumN_filter (b : Nat → Bool) (f : Nat → Int) (n : Nat) : sumN (fun h => if b h = true then f h else 0) n = (((List.range n).filter b).map f).sum := by
  induction n with
  | zero => rfl
  | succ n ih =>
    rw [sumN, ih, List.range_succ, List.filter_append, List.map_append, List.sum_append]
    rcases h : b n with _ | _
    · simp [List.filter_cons, h]
    · simp [List.filter_cons, h]
theorem loop_in {s : SiteD} {ss : List Svc} {d : WorldD} (ok : WorldOk s ss d) {h : Nat} (hh : h < s.hosts.length) : 0 ≤ (rkAt s h).loop ∧ (rkAt s h).loop < s.loops.length :=
  ((siteOk_iff.1 ok.1).racks _ (List.mem_of_getElem? (rk_in ok hh))).2.2.1
/-- The heat of a loop is the sum of the watts of its hosts. -/
theorem heat_mem {s : SiteD} {ss : List Svc} {d : WorldD} (ok : WorldOk s ss d) (k : Int) : ((memD s 5 k).map (fun x => loadN s ss d (isHost x))).sum = loadN s ss d (isLoop s k) := by
  have hc : cntD s 5 = s.loops.length := by unfold cntD; rw [if_pos ok.1]; rfl
  unfold memD
  rw [hc]
  unfold loadN
  rw [sumN_filter (isLoop s k)]
  split
  · rw [List.map_map]
    congr 1
    refine List.map_congr_left fun h hh => ?_
    have hh := List.mem_range.1 (List.mem_filter.1 hh).1
    show sumN (fun i => if isHost (h : Int) i = true then watN s ss d i else 0) s.hosts.length = _
    have e := load_host (s := s) (ss := ss) (d := d) (h : Int)
    unfold loadN at e
    rw [e, if_pos (by omega), Int.toNat_natCast]
  · rename_i hn
    rw [List.filter_eq_nil_iff.2 (fun h hh => by
      have hh := List.mem_range.1 hh
      have := loop_in ok hh
      unfold isLoop
      intro he
      have he := eq_of_beq he
      exact hn (ixB_iff.2 (by omega)))]
    rfl
theorem mem_len (s : SiteD) (d : Nat) (k : Int) : (memD s d k).length ≤ s.hosts.length := by
  unfold memD
  split
  · rw [List.length_map]
    exact Nat.le_trans (List.length_filter_le _ _) (by simp)
  · exact Nat.zero_le _
end Go.Proofs.YtbbadnlaelgmlaaGreat
