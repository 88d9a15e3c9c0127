/-
  DERIVED. Several texts in one.
-/
import Derived.Test.YtbbadnlaelgmlaaGreatPYA1
import Derived.RegionTactic
import Derived.Deep.RegionHeld3
import Derived.Laws.EntriesVeiled
set_option linter.unusedVariables false
set_option linter.unusedSimpArgs false

namespace Go.Proofs.YtbbadnlaelgmlaaGreat
open Go.RowKit
set_option maxRecDepth 100000
set_option linter.unusedVariables false
set_option linter.unusedSimpArgs false

theorem set_field {W : World} {b o : Nat} {cs : Array Value} {T : TypeId} (h : W.heap[b]? = some (.cells cs T (0, 0))) (v : Value) : (W.setCell ⟨b, o, none⟩ v).heap[b]? = some (.cells (cs.setIfInBounds o v) T (0, 0)) := by
  simp only [World.setCell, Array.getElem?_modify, if_pos trivial, h]
  simp
theorem frz {X : World} {b : Nat} {cs : Array Value} {T : TypeId} (h : X.heap[b]? = some (.cells cs T (0, 0))) (o : Nat) : X.frozen? ⟨b, o, none⟩ = false := by
  simp [World.frozen?, h]
theorem row_store4 {W : World} {b : Nat} {y0 y1 y2 y3 : Value} {T : TypeId} (h : W.heap[b]? = some (.cells #[y0, y1, y2, y3] T (0, 0))) (x0 x1 x2 x3 : Value) :
    ((((W.setCell ⟨b, 0, none⟩ x0).setCell ⟨b, 1, none⟩ x1).setCell ⟨b, 2, none⟩ x2).setCell ⟨b, 3, none⟩ x3).heap[b]? = some (.cells #[x0, x1, x2, x3] T (0, 0)) :=
  set_field (set_field (set_field (set_field h x0) x1) x2) x3
theorem ret4 {fn : Func} {a : Act} {W : World} {R : Ending → World → Prop} {b i : Nat} {x0 x1 x2 x3 : Value} (hfn : fn.results = #[.cell i 87]) (hp : a.tmps[i]?.getD undef = .pointer (some ⟨b, 0, none⟩)) (hd : a.defers = [])
    (h : W.heap[b]? = some (.cells #[x0, x1, x2, x3] 87 (0, 0))) (hR : R (.returned (.agg #[x0, x1, x2, x3])) W) : bodyPost Tryz.prog fn R .ret a W := by
  have c0 : W.cell? ⟨b, 0, none⟩ = some x0 := cell_of h rfl
  have c1 : W.cell? ⟨b, 1, none⟩ = some x1 := cell_of h rfl
  have c2 : W.cell? ⟨b, 2, none⟩ = some x2 := cell_of h rfl
  have c3 : W.cell? ⟨b, 3, none⟩ = some x3 := cell_of h rfl
  exact bodyPost_ret (v := .agg #[x0, x1, x2, x3]) (by simp [results, hfn, hp, go_sem, c0, c1, c2, c3]) hd hR
def rkV (x : Rk) : Value := .agg #[.int .i64 x.row, .int .i64 x.brk, .int .i64 x.loop, .int .i64 x.sw]
/-- A host's row in memory. -/
theorem host_row {w : World} {p : SP} {s : SiteD} (h : SiAt w p s) {k : Nat} (hk : k < s.hosts.length) : ∃ b o, p.a6 = some ⟨b, o, none⟩ ∧ w.cell? ⟨b, o + k * 4, none⟩ = some (.int .i64 (rackAt s k)) := by
  have e : s.hosts[k]? = some s.hosts[k] := List.getElem?_eq_getElem hk
  obtain ⟨b, o, e1, -, h0⟩ := h.hosts.at_ e
  refine ⟨b, o, e1, ?_⟩
  have := h0 0 (by omega)
  unfold rackAt
  rw [e]
  simpa [hsF] using this
theorem rack_row {w : World} {p : SP} {s : SiteD} (h : SiAt w p s) {m : Nat} {x : Rk} (hm : s.racks[m]? = some x) : ∃ b o, p.a4 = some ⟨b, o, none⟩ ∧ w.cell? ⟨b, o + m * 4, none⟩ = some (.int .i64 x.row) ∧ w.cell? ⟨b, o + m * 4 + 1, none⟩ = some (.int .i64 x.brk) ∧ w.cell? ⟨b, o + m * 4 + 2, none⟩ = some (.int .i64 x.loop) ∧ w.cell? ⟨b, o + m * 4 + 3, none⟩ = some (.int .i64 x.sw) := by
  obtain ⟨b, o, e1, -, h0⟩ := h.racks.at_ hm
  exact ⟨b, o, e1, by simpa [rkF] using h0 0 (by omega), by simpa [rkF] using h0 1 (by omega), by simpa [rkF] using h0 2 (by omega), by simpa [rkF] using h0 3 (by omega)⟩
theorem brk_row {w : World} {p : SP} {s : SiteD} (h : SiAt w p s) {m : Nat} {x : Brk} (hm : s.brks[m]? = some x) : ∃ b o, p.a2 = some ⟨b, o, none⟩ ∧ w.cell? ⟨b, o + m * 4, none⟩ = some (.int .i64 x.feed) := by
  obtain ⟨b, o, e1, -, h0⟩ := h.brks.at_ hm
  exact ⟨b, o, e1, by simpa [brkF] using h0 0 (by omega)⟩
set_option maxHeartbeats 8000000 in
/-- rackOf. -/
theorem c_dom1 (bs : Nat) (p : SP) (s : SiteD) (hs : SiteOk s) (k : Nat) (hk : k < s.hosts.length) (w : World) (hbox : SiBox w bs p s) (hat : SiAt w p s) :
    Calls Tryz.prog 151 #[.int .i64 (k : Int), .pointer (some ⟨bs, 0, none⟩)] w fun e w' => e = .returned (rkV (rkAt s k)) ∧ Below w.heap.size w w' := by
  obtain ⟨m, hm, hm1, hmr, -⟩ := rk_ok hs hk
  obtain ⟨hb, ho, he, y0⟩ := host_row hat hk
  obtain ⟨rb, ro, hre, z0, z1, z2, z3⟩ := rack_row hat hmr
  rw [hm] at y0
  unfold rkV
  obtain ⟨V, hV⟩ : ∃ V, V = w.alloc (.cells #[.int .i64 0, .int .i64 0, .int .i64 0, .int .i64 0] 87) := ⟨_, rfl⟩
  have B0 : Below w.heap.size w V := by subst hV; exact (Below.refl _ _).alloc (Nat.le_refl _) _
  have HB0 := Lib.hid B0
  have HV := Lib.hid (show V.heap[w.heap.size]? = some (.cells #[.int .i64 0, .int .i64 0, .int .i64 0, .int .i64 0] 87 (0, 0)) by subst hV; exact heap_alloc_new _ _)
  have hbox2 := hbox.on B0 (Nat.le_refl _)
  have f3 := hbox2.c3
  have f6 := hbox2.c6
  rw [he] at f6
  rw [hre] at f3
  have hat2 := hat.on B0 (Nat.le_refl _)
  obtain ⟨hb', ho', he', y0⟩ := host_row hat2 hk
  obtain ⟨rb', ro', hre', z0, z1, z2, z3⟩ := rack_row hat2 hmr
  rw [hm] at y0
  rw [he] at he'
  rw [hre] at hre'
  injection he' with he'
  injection he' with e1 e2
  subst e1 e2
  injection hre' with hre'
  injection hre' with e1 e2
  subst e1 e2
  have v0 : V.cell? ⟨w.heap.size, 0, none⟩ = some (.int .i64 0) := cell_of HV.out rfl
  have v1 : V.cell? ⟨w.heap.size, 1, none⟩ = some (.int .i64 0) := cell_of HV.out rfl
  have v2 : V.cell? ⟨w.heap.size, 2, none⟩ = some (.int .i64 0) := cell_of HV.out rfl
  have v3 : V.cell? ⟨w.heap.size, 3, none⟩ = some (.int .i64 0) := cell_of HV.out rfl
  have u0 := frz HV.out 0
  have u1 := frz HV.out 1
  have u2 := frz HV.out 2
  have u3 := frz HV.out 3
  have hkk : (k : Int) < ((s.hosts.length : Nat) : Int) := by omega
  have hmm : (m : Int) < ((s.racks.length : Nat) : Int) := by omega
  have ht1 : ((k : Nat) : Int).toNat = k := by omega
  have ht2 : ((m : Nat) : Int).toNat = m := by omega
  have m4 := hat.racks.1; have m6 := hat.hosts.1
  have n4 := hat.racks.2.1; have n6 := hat.hosts.2.1
  unfold maxLen at n4 n6
  clear hbox hbox2 hat hat2 he hre hmr B0 hs hm
  rw [hV] at f3 f6 y0 z0 z1 z2 z3 v0 v1 v2 v3 u0 u1 u2 u3
  go_enter Tryz.func151, Tryz.ntmps151
  go_wp2_with (fail)
  rw [← hV] at f3 f6 y0 z0 z1 z2 z3 v0 v1 v2 v3 u0 u1 u2 u3 ⊢
  clear hV
  go_region
  go_wp2
  refine ret4 (i := 3) (b := w.heap.size) rfl rfl rfl (row_store4 HV.out _ _ _ _) ⟨rfl, ?_⟩
  exact ((((HB0.out.setCell (p := ⟨w.heap.size, 0, none⟩) (Nat.le_refl _) _).setCell (p := ⟨w.heap.size, 1, none⟩) (Nat.le_refl _) _).setCell (p := ⟨w.heap.size, 2, none⟩) (Nat.le_refl _) _).setCell (p := ⟨w.heap.size, 3, none⟩) (Nat.le_refl _) _).drew
set_option maxHeartbeats 4000000 in
theorem c_dom2 (k : Int) (w : World) : Calls Tryz.prog 152 #[.int .i64 k] w fun e w' => e = .returned (.int .i64 k) ∧ Below w.heap.size w w' := by
  go_enter Tryz.func152, Tryz.ntmps152
  go_wp2
  go_ret
  exact ⟨rfl, Below.refl _ _⟩
set_option maxHeartbeats 4000000 in
theorem c_dom3 (bs : Nat) (p : SP) (s : SiteD) (k : Nat) (hk : k < s.hosts.length) (w : World) (hbox : SiBox w bs p s) (hat : SiAt w p s) :
    Calls Tryz.prog 153 #[.int .i64 (k : Int), .pointer (some ⟨bs, 0, none⟩)] w fun e w' => e = .returned (.int .i64 (rackAt s k)) ∧ Below w.heap.size w w' := by
  obtain ⟨hb, ho, he, y0⟩ := host_row hat hk
  have f6 := hbox.c6
  rw [he] at f6
  have hkk : (k : Int) < ((s.hosts.length : Nat) : Int) := by omega
  have ht1 : ((k : Nat) : Int).toNat = k := by omega
  have m6 := hat.hosts.1
  have n6 := hat.hosts.2.1
  unfold maxLen at n6
  clear hbox hat he
  go_enter Tryz.func153, Tryz.ntmps153
  go_wp2
  go_ret
  exact ⟨rfl, Below.refl _ _⟩
theorem rk_field0 (a b c d : Int) (w : World) : (Instr.field 87 (.agg #[.int .i64 a, .int .i64 b, .int .i64 c, .int .i64 d]) 0).run Tryz.prog w = .ok (.int .i64 a) w := by kernel_rfl
theorem rk_field1 (a b c d : Int) (w : World) : (Instr.field 87 (.agg #[.int .i64 a, .int .i64 b, .int .i64 c, .int .i64 d]) 1).run Tryz.prog w = .ok (.int .i64 b) w := by kernel_rfl
theorem rk_field2 (a b c d : Int) (w : World) : (Instr.field 87 (.agg #[.int .i64 a, .int .i64 b, .int .i64 c, .int .i64 d]) 2).run Tryz.prog w = .ok (.int .i64 c) w := by kernel_rfl
/-- The box of rackOf. -/
def RkBox (w : World) (bt bs : Nat) : Prop := w.heap[bt]? = some (.cells #[.func (.func 151) #[] #[.pointer (some ⟨bs, 0, none⟩)]] 174 (0, 0))
theorem RkBox.on {w w' : World} {bt bs B : Nat} (h : RkBox w bt bs) (hb : Below B w w') (hB : w.heap.size ≤ B) : RkBox w' bt bs := (hb.block _ (Nat.lt_of_lt_of_le (at_lt h) hB)).trans h
theorem RkBox.c0 {w : World} {bt bs : Nat} (h : RkBox w bt bs) : w.cell? ⟨bt, 0, none⟩ = some (.func (.func 151) #[] #[.pointer (some ⟨bs, 0, none⟩)]) := cell_of h rfl
set_option maxHeartbeats 4000000 in
theorem c_dom4 (bs bt : Nat) (p : SP) (s : SiteD) (hs : SiteOk s) (k : Nat) (hk : k < s.hosts.length) (w : World) (hbox : SiBox w bs p s) (hat : SiAt w p s) (hrk : RkBox w bt bs) :
    Calls Tryz.prog 154 #[.int .i64 (k : Int), .pointer (some ⟨bt, 0, none⟩)] w fun e w' => e = .returned (.int .i64 (rkAt s k).row) ∧ Below w.heap.size w w' := by
  have HC := Lib.hid (c_dom1 bs p s hs k hk w hbox hat)
  unfold rkV at HC
  have f0 := hrk.c0
  clear hbox hat hrk
  have hfd := fun X : World => rk_field0 (rkAt s k).row (rkAt s k).brk (rkAt s k).loop (rkAt s k).sw X
  go_enter Tryz.func154, Tryz.ntmps154
  go_wp2_with (fail)
  go_at_call 151
  refine HC.out.mono ?_
  rintro e w1 ⟨rfl, b1⟩
  have HB1 := Lib.hid b1
  clear b1
  go_wp2_with (fail)
  go_ret
  exact ⟨rfl, HB1.out⟩
set_option maxHeartbeats 4000000 in
theorem c_dom6 (bs bt : Nat) (p : SP) (s : SiteD) (hs : SiteOk s) (k : Nat) (hk : k < s.hosts.length) (w : World) (hbox : SiBox w bs p s) (hat : SiAt w p s) (hrk : RkBox w bt bs) :
    Calls Tryz.prog 156 #[.int .i64 (k : Int), .pointer (some ⟨bt, 0, none⟩)] w fun e w' => e = .returned (.int .i64 (rkAt s k).loop) ∧ Below w.heap.size w w' := by
  have HC := Lib.hid (c_dom1 bs p s hs k hk w hbox hat)
  unfold rkV at HC
  have f0 := hrk.c0
  clear hbox hat hrk
  have hfd := fun X : World => rk_field2 (rkAt s k).row (rkAt s k).brk (rkAt s k).loop (rkAt s k).sw X
  go_enter Tryz.func156, Tryz.ntmps156
  go_wp2_with (fail)
  go_at_call 151
  refine HC.out.mono ?_
  rintro e w1 ⟨rfl, b1⟩
  have HB1 := Lib.hid b1
  clear b1
  go_wp2_with (fail)
  go_ret
  exact ⟨rfl, HB1.out⟩
set_option maxHeartbeats 8000000 in
theorem c_dom5 (bs bt : Nat) (p : SP) (s : SiteD) (hs : SiteOk s) (k : Nat) (hk : k < s.hosts.length) (w : World) (hbox : SiBox w bs p s) (hat : SiAt w p s) (hrk : RkBox w bt bs) :
    Calls Tryz.prog 155 #[.int .i64 (k : Int), .pointer (some ⟨bs, 0, none⟩), .pointer (some ⟨bt, 0, none⟩)] w fun e w' => e = .returned (.int .i64 (feedAt s k)) ∧ Below w.heap.size w w' := by
  obtain ⟨m, x, hm, hm1, hmx, hfx, -⟩ := feed_ok hs hk
  obtain ⟨hb, ho, he, -⟩ := brk_row hat hmx
  have HC := Lib.hid (fun (X : World) (hX : Below w.heap.size w X) => c_dom1 bs p s hs k hk X (hbox.on hX (Nat.le_refl _)) (hat.on hX (Nat.le_refl _)))
  unfold rkV at HC
  have HF := Lib.hid (fun (X : World) (hX : Below w.heap.size w X) => (show X.cell? ⟨bs, 1, none⟩ = some (.slice (some ⟨hb, ho, none⟩) s.brks.length p.c2) ∧ X.cell? ⟨bt, 0, none⟩ = some (.func (.func 151) #[] #[.pointer (some ⟨bs, 0, none⟩)]) ∧ X.cell? ⟨hb, ho + m * 4, none⟩ = some (.int .i64 (feedAt s k)) from by
    refine ⟨?_, (hrk.on hX (Nat.le_refl _)).c0, ?_⟩
    · have := (hbox.on hX (Nat.le_refl _)).c1; rwa [he] at this
    · obtain ⟨b', o', e', h0⟩ := brk_row (hat.on hX (Nat.le_refl _)) hmx
      rw [he] at e'
      injection e' with e'
      injection e' with e1 e2
      subst e1 e2
      rw [hfx]
      exact h0))
  obtain ⟨f1, ft, fy⟩ := HF.out w (Below.refl _ _)
  have hmm : (m : Int) < ((s.brks.length : Nat) : Int) := by omega
  have ht2 : ((m : Nat) : Int).toNat = m := by omega
  have hc2 := hat.brks.1
  have n2 := hat.brks.2.1
  unfold maxLen at n2
  rw [hm] at HC
  clear hbox hat hrk he hmx hfx hm
  have hfd := fun X : World => rk_field1 (rkAt s k).row (m : Int) (rkAt s k).loop (rkAt s k).sw X
  go_enter Tryz.func155, Tryz.ntmps155
  go_wp2_with (fail)
  go_region_held3 (fun X => X.cell? ⟨bs, 1, none⟩ = some (.slice (some ⟨hb, ho, none⟩) s.brks.length p.c2) ∧ X.cell? ⟨bt, 0, none⟩ = some (.func (.func 151) #[] #[.pointer (some ⟨bs, 0, none⟩)]) ∧ X.cell? ⟨hb, ho + m * 4, none⟩ = some (.int .i64 (feedAt s k)))
    (first | exact HF.out w1 HB1.out | exact HF.out w (Below.refl _ _))
    (first
      | (go_at_call 151; (with_reducible refine (HC.out w.drew (Below.refl _ _).drew).mono ?_); rintro e w1 ⟨rfl, bb0⟩; have HB1 := Lib.hid (below_join (Below.refl w.heap.size w).drew bb0 (Nat.le_refl _)); clear bb0)
      | fail)
  go_wp2_with (fail)
  go_ret
  exact ⟨rfl, HB1.out⟩
end Go.Proofs.YtbbadnlaelgmlaaGreat

namespace Go.Proofs.YtbbadnlaelgmlaaGreat
open Go.RowKit
set_option maxRecDepth 100000
set_option linter.unusedVariables false
set_option linter.unusedSimpArgs false

set_option maxHeartbeats 8000000 in
theorem c_domsNo (p : SP) (s : SiteD) (d : Nat) (hd : d < 256) (hok : siteOk s = false) (w : World) (h : SiAt w p s) :
    Calls Tryz.prog 127 #[siV p s, .int .u8 (d : Int)] w fun e w' => e = .returned (.tuple #[.int .i64 0, .nilFunc]) ∧ Below w.heap.size w w' := by
  have HV := Lib.hid (fun (X : World) (hX : SiAt X p s) => c_stValid p s _ hok X hX)
  unfold siV at HV
  unfold siV
  obtain ⟨W, hW⟩ : ∃ W, W = w.alloc (.cells #[.slice p.a1 s.feeds.length p.c1, .slice p.a2 s.brks.length p.c2, .slice p.a3 s.loops.length p.c3, .slice p.a4 s.racks.length p.c4, .int .i64 s.sw, .slice p.a5 s.links.length p.c5, .slice p.a6 s.hosts.length p.c6] 29) := ⟨_, rfl⟩
  have B0 : Below w.heap.size w W := by subst hW; exact (Below.refl _ _).alloc (Nat.le_refl _) _
  have HB0 := Lib.hid B0
  have HX := Lib.hid (show SiBox W w.heap.size p s by subst hW; exact siBox_new _ _ _)
  have HA := Lib.hid (h.on B0 (Nat.le_refl _))
  have HF := Lib.hid (fun (X : World) (hX : Below W.heap.size W X) => (let z := HX.out.on hX (Nat.le_refl _); ⟨z.c0, z.c1, z.c2, z.c3, z.c4, z.c5, z.c6⟩ : X.cell? ⟨w.heap.size, 0, none⟩ = some (.slice p.a1 s.feeds.length p.c1) ∧ X.cell? ⟨w.heap.size, 1, none⟩ = some (.slice p.a2 s.brks.length p.c2) ∧ X.cell? ⟨w.heap.size, 2, none⟩ = some (.slice p.a3 s.loops.length p.c3) ∧ X.cell? ⟨w.heap.size, 3, none⟩ = some (.slice p.a4 s.racks.length p.c4) ∧ X.cell? ⟨w.heap.size, 4, none⟩ = some (.int .i64 s.sw) ∧ X.cell? ⟨w.heap.size, 5, none⟩ = some (.slice p.a5 s.links.length p.c5) ∧ X.cell? ⟨w.heap.size, 6, none⟩ = some (.slice p.a6 s.hosts.length p.c6)))
  have m1 := h.feeds.1; have m2 := h.brks.1; have m3 := h.loops.1; have m4 := h.racks.1; have m5 := h.links.1; have m6 := h.hosts.1
  have n1 := h.feeds.2.1; have n2 := h.brks.2.1; have n3 := h.loops.2.1; have n4 := h.racks.2.1; have n5 := h.links.2.1; have n6 := h.hosts.2.1
  unfold maxLen at n1 n2 n3 n4 n5 n6
  have KW := Lib.hid (Below.refl W.heap.size W)
  have hlw : w.heap.size < W.heap.size := HX.out.lt
  clear B0 h
  obtain ⟨f0, f1, f2, f3, f4, f5, f6⟩ := HF.out W KW.out
  rw [hW] at f0 f1 f2 f3 f4 f5 f6
  go_enter Tryz.func127, Tryz.ntmps127
  go_wp2_with (fail)
  rw [← hW]
  clear hW f0 f1 f2 f3 f4 f5 f6
  go_at_call 44
  refine (HV.out W HA.out).mono ?_
  rintro e w1 ⟨rfl, b1⟩
  have K1 := Lib.hid b1
  have HX1 := Lib.hid (HX.out.on b1 (Nat.le_refl _))
  have HA1 := Lib.hid (HA.out.on b1 (Nat.le_refl _))
  clear b1
  go_wp2_with (fail)
  go_ret2
  exact ⟨rfl, below_join HB0.out K1.out HB0.out.size⟩
set_option maxHeartbeats 8000000 in
theorem c_domsNone (p : SP) (s : SiteD) (d : Nat) (hd : d < 256) (hno : ¬ (1 ≤ d ∧ d ≤ 5)) (hok : siteOk s = true) (w : World) (h : SiAt w p s) :
    Calls Tryz.prog 127 #[siV p s, .int .u8 (d : Int)] w fun e w' => e = .returned (.tuple #[.int .i64 0, .nilFunc]) ∧ Below w.heap.size w w' := by
  have HV := Lib.hid (fun (X : World) (hX : SiAt X p s) => c_stValid p s _ hok X hX)
  unfold siV at HV
  unfold siV
  obtain ⟨W, hW⟩ : ∃ W, W = w.alloc (.cells #[.slice p.a1 s.feeds.length p.c1, .slice p.a2 s.brks.length p.c2, .slice p.a3 s.loops.length p.c3, .slice p.a4 s.racks.length p.c4, .int .i64 s.sw, .slice p.a5 s.links.length p.c5, .slice p.a6 s.hosts.length p.c6] 29) := ⟨_, rfl⟩
  have B0 : Below w.heap.size w W := by subst hW; exact (Below.refl _ _).alloc (Nat.le_refl _) _
  have HB0 := Lib.hid B0
  have HX := Lib.hid (show SiBox W w.heap.size p s by subst hW; exact siBox_new _ _ _)
  have HA := Lib.hid (h.on B0 (Nat.le_refl _))
  have HF := Lib.hid (fun (X : World) (hX : Below W.heap.size W X) => (let z := HX.out.on hX (Nat.le_refl _); ⟨z.c0, z.c1, z.c2, z.c3, z.c4, z.c5, z.c6⟩ : X.cell? ⟨w.heap.size, 0, none⟩ = some (.slice p.a1 s.feeds.length p.c1) ∧ X.cell? ⟨w.heap.size, 1, none⟩ = some (.slice p.a2 s.brks.length p.c2) ∧ X.cell? ⟨w.heap.size, 2, none⟩ = some (.slice p.a3 s.loops.length p.c3) ∧ X.cell? ⟨w.heap.size, 3, none⟩ = some (.slice p.a4 s.racks.length p.c4) ∧ X.cell? ⟨w.heap.size, 4, none⟩ = some (.int .i64 s.sw) ∧ X.cell? ⟨w.heap.size, 5, none⟩ = some (.slice p.a5 s.links.length p.c5) ∧ X.cell? ⟨w.heap.size, 6, none⟩ = some (.slice p.a6 s.hosts.length p.c6)))
  have m1 := h.feeds.1; have m2 := h.brks.1; have m3 := h.loops.1; have m4 := h.racks.1; have m5 := h.links.1; have m6 := h.hosts.1
  have n1 := h.feeds.2.1; have n2 := h.brks.2.1; have n3 := h.loops.2.1; have n4 := h.racks.2.1; have n5 := h.links.2.1; have n6 := h.hosts.2.1
  unfold maxLen at n1 n2 n3 n4 n5 n6
  have KW := Lib.hid (Below.refl W.heap.size W)
  have hlw : w.heap.size < W.heap.size := HX.out.lt
  have d1 : ((d : Int) == 1) = false := by rw [beq_eq_false_iff_ne]; omega
  have d2 : ((d : Int) == 2) = false := by rw [beq_eq_false_iff_ne]; omega
  have d3 : ((d : Int) == 3) = false := by rw [beq_eq_false_iff_ne]; omega
  have d4 : ((d : Int) == 4) = false := by rw [beq_eq_false_iff_ne]; omega
  have d5 : ((d : Int) == 5) = false := by rw [beq_eq_false_iff_ne]; omega
  clear B0 h
  obtain ⟨f0, f1, f2, f3, f4, f5, f6⟩ := HF.out W KW.out
  rw [hW] at f0 f1 f2 f3 f4 f5 f6
  go_enter Tryz.func127, Tryz.ntmps127
  go_wp2_with (fail)
  rw [← hW]
  clear hW f0 f1 f2 f3 f4 f5 f6
  go_at_call 44
  refine (HV.out W HA.out).mono ?_
  rintro e w1 ⟨rfl, b1⟩
  have K1 := Lib.hid b1
  have HX1 := Lib.hid (HX.out.on b1 (Nat.le_refl _))
  have HA1 := Lib.hid (HA.out.on b1 (Nat.le_refl _))
  clear b1
  obtain ⟨V, hV⟩ : ∃ V, V = w1.alloc (.cells #[.func (.func 151) #[] #[.pointer (some ⟨w.heap.size, 0, none⟩)]] 174) := ⟨_, rfl⟩
  have bV : Below w1.heap.size w1 V := by subst hV; exact (Below.refl _ _).alloc (Nat.le_refl _) _
  have HBV := Lib.hid (below_join K1.out bV K1.out.size)
  have HRK := Lib.hid (show RkBox V w1.heap.size w.heap.size by subst hV; exact heap_alloc_new _ _)
  clear bV
  obtain ⟨f0, f1, f2, f3, f4, f5, f6⟩ := HF.out V HBV.out
  rw [hV] at f0 f1 f2 f3 f4 f5 f6
  go_wp2_with (fail)
  rw [← hV]
  clear hV f0 f1 f2 f3 f4 f5 f6
  go_ret2
  exact ⟨rfl, below_join HB0.out HBV.out HB0.out.size⟩
set_option maxHeartbeats 8000000 in
theorem c_doms1 (p : SP) (s : SiteD) (hok : siteOk s = true) (w : World) (h : SiAt w p s) :
    Calls Tryz.prog 127 #[siV p s, .int .u8 1] w fun e w' => ∃ bs bt : Nat, e = .returned (.tuple #[.int .i64 (s.hosts.length : Int), .func (.func 152) #[] #[]]) ∧ SiBox w' bs p s ∧ SiAt w' p s ∧ RkBox w' bt bs ∧ Below w.heap.size w w' := by
  have HV := Lib.hid (fun (X : World) (hX : SiAt X p s) => c_stValid p s _ hok X hX)
  unfold siV at HV
  unfold siV
  obtain ⟨W, hW⟩ : ∃ W, W = w.alloc (.cells #[.slice p.a1 s.feeds.length p.c1, .slice p.a2 s.brks.length p.c2, .slice p.a3 s.loops.length p.c3, .slice p.a4 s.racks.length p.c4, .int .i64 s.sw, .slice p.a5 s.links.length p.c5, .slice p.a6 s.hosts.length p.c6] 29) := ⟨_, rfl⟩
  have B0 : Below w.heap.size w W := by subst hW; exact (Below.refl _ _).alloc (Nat.le_refl _) _
  have HB0 := Lib.hid B0
  have HX := Lib.hid (show SiBox W w.heap.size p s by subst hW; exact siBox_new _ _ _)
  have HA := Lib.hid (h.on B0 (Nat.le_refl _))
  have HF := Lib.hid (fun (X : World) (hX : Below W.heap.size W X) => (let z := HX.out.on hX (Nat.le_refl _); ⟨z.c0, z.c1, z.c2, z.c3, z.c4, z.c5, z.c6⟩ : X.cell? ⟨w.heap.size, 0, none⟩ = some (.slice p.a1 s.feeds.length p.c1) ∧ X.cell? ⟨w.heap.size, 1, none⟩ = some (.slice p.a2 s.brks.length p.c2) ∧ X.cell? ⟨w.heap.size, 2, none⟩ = some (.slice p.a3 s.loops.length p.c3) ∧ X.cell? ⟨w.heap.size, 3, none⟩ = some (.slice p.a4 s.racks.length p.c4) ∧ X.cell? ⟨w.heap.size, 4, none⟩ = some (.int .i64 s.sw) ∧ X.cell? ⟨w.heap.size, 5, none⟩ = some (.slice p.a5 s.links.length p.c5) ∧ X.cell? ⟨w.heap.size, 6, none⟩ = some (.slice p.a6 s.hosts.length p.c6)))
  have m1 := h.feeds.1; have m2 := h.brks.1; have m3 := h.loops.1; have m4 := h.racks.1; have m5 := h.links.1; have m6 := h.hosts.1
  have n1 := h.feeds.2.1; have n2 := h.brks.2.1; have n3 := h.loops.2.1; have n4 := h.racks.2.1; have n5 := h.links.2.1; have n6 := h.hosts.2.1
  unfold maxLen at n1 n2 n3 n4 n5 n6
  have KW := Lib.hid (Below.refl W.heap.size W)
  have hlw : w.heap.size < W.heap.size := HX.out.lt
  clear B0 h
  obtain ⟨f0, f1, f2, f3, f4, f5, f6⟩ := HF.out W KW.out
  rw [hW] at f0 f1 f2 f3 f4 f5 f6
  go_enter Tryz.func127, Tryz.ntmps127
  go_wp2_with (fail)
  rw [← hW]
  clear hW f0 f1 f2 f3 f4 f5 f6
  go_at_call 44
  refine (HV.out W HA.out).mono ?_
  rintro e w1 ⟨rfl, b1⟩
  have K1 := Lib.hid b1
  have HX1 := Lib.hid (HX.out.on b1 (Nat.le_refl _))
  have HA1 := Lib.hid (HA.out.on b1 (Nat.le_refl _))
  clear b1
  obtain ⟨V, hV⟩ : ∃ V, V = w1.alloc (.cells #[.func (.func 151) #[] #[.pointer (some ⟨w.heap.size, 0, none⟩)]] 174) := ⟨_, rfl⟩
  have bV : Below w1.heap.size w1 V := by subst hV; exact (Below.refl _ _).alloc (Nat.le_refl _) _
  have HBV := Lib.hid (below_join K1.out bV K1.out.size)
  have HRK := Lib.hid (show RkBox V w1.heap.size w.heap.size by subst hV; exact heap_alloc_new _ _)
  clear bV
  obtain ⟨f0, f1, f2, f3, f4, f5, f6⟩ := HF.out V HBV.out
  rw [hV] at f0 f1 f2 f3 f4 f5 f6
  go_wp2_with (fail)
  rw [← hV]
  clear hV f0 f1 f2 f3 f4 f5 f6
  go_ret2
  exact ⟨w.heap.size, w1.heap.size, rfl, HX.out.on HBV.out (Nat.le_refl _), HA.out.on HBV.out (Nat.le_refl _), HRK.out, below_join HB0.out HBV.out HB0.out.size⟩
set_option maxHeartbeats 8000000 in
theorem c_doms2 (p : SP) (s : SiteD) (hok : siteOk s = true) (w : World) (h : SiAt w p s) :
    Calls Tryz.prog 127 #[siV p s, .int .u8 2] w fun e w' => ∃ bs bt : Nat, e = .returned (.tuple #[.int .i64 (s.racks.length : Int), .func (.func 153) #[] #[.pointer (some ⟨bs, 0, none⟩)]]) ∧ SiBox w' bs p s ∧ SiAt w' p s ∧ RkBox w' bt bs ∧ Below w.heap.size w w' := by
  have HV := Lib.hid (fun (X : World) (hX : SiAt X p s) => c_stValid p s _ hok X hX)
  unfold siV at HV
  unfold siV
  obtain ⟨W, hW⟩ : ∃ W, W = w.alloc (.cells #[.slice p.a1 s.feeds.length p.c1, .slice p.a2 s.brks.length p.c2, .slice p.a3 s.loops.length p.c3, .slice p.a4 s.racks.length p.c4, .int .i64 s.sw, .slice p.a5 s.links.length p.c5, .slice p.a6 s.hosts.length p.c6] 29) := ⟨_, rfl⟩
  have B0 : Below w.heap.size w W := by subst hW; exact (Below.refl _ _).alloc (Nat.le_refl _) _
  have HB0 := Lib.hid B0
  have HX := Lib.hid (show SiBox W w.heap.size p s by subst hW; exact siBox_new _ _ _)
  have HA := Lib.hid (h.on B0 (Nat.le_refl _))
  have HF := Lib.hid (fun (X : World) (hX : Below W.heap.size W X) => (let z := HX.out.on hX (Nat.le_refl _); ⟨z.c0, z.c1, z.c2, z.c3, z.c4, z.c5, z.c6⟩ : X.cell? ⟨w.heap.size, 0, none⟩ = some (.slice p.a1 s.feeds.length p.c1) ∧ X.cell? ⟨w.heap.size, 1, none⟩ = some (.slice p.a2 s.brks.length p.c2) ∧ X.cell? ⟨w.heap.size, 2, none⟩ = some (.slice p.a3 s.loops.length p.c3) ∧ X.cell? ⟨w.heap.size, 3, none⟩ = some (.slice p.a4 s.racks.length p.c4) ∧ X.cell? ⟨w.heap.size, 4, none⟩ = some (.int .i64 s.sw) ∧ X.cell? ⟨w.heap.size, 5, none⟩ = some (.slice p.a5 s.links.length p.c5) ∧ X.cell? ⟨w.heap.size, 6, none⟩ = some (.slice p.a6 s.hosts.length p.c6)))
  have m1 := h.feeds.1; have m2 := h.brks.1; have m3 := h.loops.1; have m4 := h.racks.1; have m5 := h.links.1; have m6 := h.hosts.1
  have n1 := h.feeds.2.1; have n2 := h.brks.2.1; have n3 := h.loops.2.1; have n4 := h.racks.2.1; have n5 := h.links.2.1; have n6 := h.hosts.2.1
  unfold maxLen at n1 n2 n3 n4 n5 n6
  have KW := Lib.hid (Below.refl W.heap.size W)
  have hlw : w.heap.size < W.heap.size := HX.out.lt
  clear B0 h
  obtain ⟨f0, f1, f2, f3, f4, f5, f6⟩ := HF.out W KW.out
  rw [hW] at f0 f1 f2 f3 f4 f5 f6
  go_enter Tryz.func127, Tryz.ntmps127
  go_wp2_with (fail)
  rw [← hW]
  clear hW f0 f1 f2 f3 f4 f5 f6
  go_at_call 44
  refine (HV.out W HA.out).mono ?_
  rintro e w1 ⟨rfl, b1⟩
  have K1 := Lib.hid b1
  have HX1 := Lib.hid (HX.out.on b1 (Nat.le_refl _))
  have HA1 := Lib.hid (HA.out.on b1 (Nat.le_refl _))
  clear b1
  obtain ⟨V, hV⟩ : ∃ V, V = w1.alloc (.cells #[.func (.func 151) #[] #[.pointer (some ⟨w.heap.size, 0, none⟩)]] 174) := ⟨_, rfl⟩
  have bV : Below w1.heap.size w1 V := by subst hV; exact (Below.refl _ _).alloc (Nat.le_refl _) _
  have HBV := Lib.hid (below_join K1.out bV K1.out.size)
  have HRK := Lib.hid (show RkBox V w1.heap.size w.heap.size by subst hV; exact heap_alloc_new _ _)
  clear bV
  obtain ⟨f0, f1, f2, f3, f4, f5, f6⟩ := HF.out V HBV.out
  rw [hV] at f0 f1 f2 f3 f4 f5 f6
  go_wp2_with (fail)
  rw [← hV]
  clear hV f0 f1 f2 f3 f4 f5 f6
  go_ret2
  exact ⟨w.heap.size, w1.heap.size, rfl, HX.out.on HBV.out (Nat.le_refl _), HA.out.on HBV.out (Nat.le_refl _), HRK.out, below_join HB0.out HBV.out HB0.out.size⟩
set_option maxHeartbeats 8000000 in
theorem c_doms3 (p : SP) (s : SiteD) (hok : siteOk s = true) (w : World) (h : SiAt w p s) :
    Calls Tryz.prog 127 #[siV p s, .int .u8 3] w fun e w' => ∃ bs bt : Nat, e = .returned (.tuple #[.int .i64 4, .func (.func 154) #[] #[.pointer (some ⟨bt, 0, none⟩)]]) ∧ SiBox w' bs p s ∧ SiAt w' p s ∧ RkBox w' bt bs ∧ Below w.heap.size w w' := by
  have HV := Lib.hid (fun (X : World) (hX : SiAt X p s) => c_stValid p s _ hok X hX)
  unfold siV at HV
  unfold siV
  obtain ⟨W, hW⟩ : ∃ W, W = w.alloc (.cells #[.slice p.a1 s.feeds.length p.c1, .slice p.a2 s.brks.length p.c2, .slice p.a3 s.loops.length p.c3, .slice p.a4 s.racks.length p.c4, .int .i64 s.sw, .slice p.a5 s.links.length p.c5, .slice p.a6 s.hosts.length p.c6] 29) := ⟨_, rfl⟩
  have B0 : Below w.heap.size w W := by subst hW; exact (Below.refl _ _).alloc (Nat.le_refl _) _
  have HB0 := Lib.hid B0
  have HX := Lib.hid (show SiBox W w.heap.size p s by subst hW; exact siBox_new _ _ _)
  have HA := Lib.hid (h.on B0 (Nat.le_refl _))
  have HF := Lib.hid (fun (X : World) (hX : Below W.heap.size W X) => (let z := HX.out.on hX (Nat.le_refl _); ⟨z.c0, z.c1, z.c2, z.c3, z.c4, z.c5, z.c6⟩ : X.cell? ⟨w.heap.size, 0, none⟩ = some (.slice p.a1 s.feeds.length p.c1) ∧ X.cell? ⟨w.heap.size, 1, none⟩ = some (.slice p.a2 s.brks.length p.c2) ∧ X.cell? ⟨w.heap.size, 2, none⟩ = some (.slice p.a3 s.loops.length p.c3) ∧ X.cell? ⟨w.heap.size, 3, none⟩ = some (.slice p.a4 s.racks.length p.c4) ∧ X.cell? ⟨w.heap.size, 4, none⟩ = some (.int .i64 s.sw) ∧ X.cell? ⟨w.heap.size, 5, none⟩ = some (.slice p.a5 s.links.length p.c5) ∧ X.cell? ⟨w.heap.size, 6, none⟩ = some (.slice p.a6 s.hosts.length p.c6)))
  have m1 := h.feeds.1; have m2 := h.brks.1; have m3 := h.loops.1; have m4 := h.racks.1; have m5 := h.links.1; have m6 := h.hosts.1
  have n1 := h.feeds.2.1; have n2 := h.brks.2.1; have n3 := h.loops.2.1; have n4 := h.racks.2.1; have n5 := h.links.2.1; have n6 := h.hosts.2.1
  unfold maxLen at n1 n2 n3 n4 n5 n6
  have KW := Lib.hid (Below.refl W.heap.size W)
  have hlw : w.heap.size < W.heap.size := HX.out.lt
  clear B0 h
  obtain ⟨f0, f1, f2, f3, f4, f5, f6⟩ := HF.out W KW.out
  rw [hW] at f0 f1 f2 f3 f4 f5 f6
  go_enter Tryz.func127, Tryz.ntmps127
  go_wp2_with (fail)
  rw [← hW]
  clear hW f0 f1 f2 f3 f4 f5 f6
  go_at_call 44
  refine (HV.out W HA.out).mono ?_
  rintro e w1 ⟨rfl, b1⟩
  have K1 := Lib.hid b1
  have HX1 := Lib.hid (HX.out.on b1 (Nat.le_refl _))
  have HA1 := Lib.hid (HA.out.on b1 (Nat.le_refl _))
  clear b1
  obtain ⟨V, hV⟩ : ∃ V, V = w1.alloc (.cells #[.func (.func 151) #[] #[.pointer (some ⟨w.heap.size, 0, none⟩)]] 174) := ⟨_, rfl⟩
  have bV : Below w1.heap.size w1 V := by subst hV; exact (Below.refl _ _).alloc (Nat.le_refl _) _
  have HBV := Lib.hid (below_join K1.out bV K1.out.size)
  have HRK := Lib.hid (show RkBox V w1.heap.size w.heap.size by subst hV; exact heap_alloc_new _ _)
  clear bV
  obtain ⟨f0, f1, f2, f3, f4, f5, f6⟩ := HF.out V HBV.out
  rw [hV] at f0 f1 f2 f3 f4 f5 f6
  go_wp2_with (fail)
  rw [← hV]
  clear hV f0 f1 f2 f3 f4 f5 f6
  go_ret2
  exact ⟨w.heap.size, w1.heap.size, rfl, HX.out.on HBV.out (Nat.le_refl _), HA.out.on HBV.out (Nat.le_refl _), HRK.out, below_join HB0.out HBV.out HB0.out.size⟩
set_option maxHeartbeats 8000000 in
theorem c_doms4 (p : SP) (s : SiteD) (hok : siteOk s = true) (w : World) (h : SiAt w p s) :
    Calls Tryz.prog 127 #[siV p s, .int .u8 4] w fun e w' => ∃ bs bt : Nat, e = .returned (.tuple #[.int .i64 (s.feeds.length : Int), .func (.func 155) #[] #[.pointer (some ⟨bs, 0, none⟩), .pointer (some ⟨bt, 0, none⟩)]]) ∧ SiBox w' bs p s ∧ SiAt w' p s ∧ RkBox w' bt bs ∧ Below w.heap.size w w' := by
  have HV := Lib.hid (fun (X : World) (hX : SiAt X p s) => c_stValid p s _ hok X hX)
  unfold siV at HV
  unfold siV
  obtain ⟨W, hW⟩ : ∃ W, W = w.alloc (.cells #[.slice p.a1 s.feeds.length p.c1, .slice p.a2 s.brks.length p.c2, .slice p.a3 s.loops.length p.c3, .slice p.a4 s.racks.length p.c4, .int .i64 s.sw, .slice p.a5 s.links.length p.c5, .slice p.a6 s.hosts.length p.c6] 29) := ⟨_, rfl⟩
  have B0 : Below w.heap.size w W := by subst hW; exact (Below.refl _ _).alloc (Nat.le_refl _) _
  have HB0 := Lib.hid B0
  have HX := Lib.hid (show SiBox W w.heap.size p s by subst hW; exact siBox_new _ _ _)
  have HA := Lib.hid (h.on B0 (Nat.le_refl _))
  have HF := Lib.hid (fun (X : World) (hX : Below W.heap.size W X) => (let z := HX.out.on hX (Nat.le_refl _); ⟨z.c0, z.c1, z.c2, z.c3, z.c4, z.c5, z.c6⟩ : X.cell? ⟨w.heap.size, 0, none⟩ = some (.slice p.a1 s.feeds.length p.c1) ∧ X.cell? ⟨w.heap.size, 1, none⟩ = some (.slice p.a2 s.brks.length p.c2) ∧ X.cell? ⟨w.heap.size, 2, none⟩ = some (.slice p.a3 s.loops.length p.c3) ∧ X.cell? ⟨w.heap.size, 3, none⟩ = some (.slice p.a4 s.racks.length p.c4) ∧ X.cell? ⟨w.heap.size, 4, none⟩ = some (.int .i64 s.sw) ∧ X.cell? ⟨w.heap.size, 5, none⟩ = some (.slice p.a5 s.links.length p.c5) ∧ X.cell? ⟨w.heap.size, 6, none⟩ = some (.slice p.a6 s.hosts.length p.c6)))
  have m1 := h.feeds.1; have m2 := h.brks.1; have m3 := h.loops.1; have m4 := h.racks.1; have m5 := h.links.1; have m6 := h.hosts.1
  have n1 := h.feeds.2.1; have n2 := h.brks.2.1; have n3 := h.loops.2.1; have n4 := h.racks.2.1; have n5 := h.links.2.1; have n6 := h.hosts.2.1
  unfold maxLen at n1 n2 n3 n4 n5 n6
  have KW := Lib.hid (Below.refl W.heap.size W)
  have hlw : w.heap.size < W.heap.size := HX.out.lt
  clear B0 h
  obtain ⟨f0, f1, f2, f3, f4, f5, f6⟩ := HF.out W KW.out
  rw [hW] at f0 f1 f2 f3 f4 f5 f6
  go_enter Tryz.func127, Tryz.ntmps127
  go_wp2_with (fail)
  rw [← hW]
  clear hW f0 f1 f2 f3 f4 f5 f6
  go_at_call 44
  refine (HV.out W HA.out).mono ?_
  rintro e w1 ⟨rfl, b1⟩
  have K1 := Lib.hid b1
  have HX1 := Lib.hid (HX.out.on b1 (Nat.le_refl _))
  have HA1 := Lib.hid (HA.out.on b1 (Nat.le_refl _))
  clear b1
  obtain ⟨V, hV⟩ : ∃ V, V = w1.alloc (.cells #[.func (.func 151) #[] #[.pointer (some ⟨w.heap.size, 0, none⟩)]] 174) := ⟨_, rfl⟩
  have bV : Below w1.heap.size w1 V := by subst hV; exact (Below.refl _ _).alloc (Nat.le_refl _) _
  have HBV := Lib.hid (below_join K1.out bV K1.out.size)
  have HRK := Lib.hid (show RkBox V w1.heap.size w.heap.size by subst hV; exact heap_alloc_new _ _)
  clear bV
  obtain ⟨f0, f1, f2, f3, f4, f5, f6⟩ := HF.out V HBV.out
  rw [hV] at f0 f1 f2 f3 f4 f5 f6
  go_wp2_with (fail)
  rw [← hV]
  clear hV f0 f1 f2 f3 f4 f5 f6
  go_ret2
  exact ⟨w.heap.size, w1.heap.size, rfl, HX.out.on HBV.out (Nat.le_refl _), HA.out.on HBV.out (Nat.le_refl _), HRK.out, below_join HB0.out HBV.out HB0.out.size⟩
set_option maxHeartbeats 8000000 in
theorem c_doms5 (p : SP) (s : SiteD) (hok : siteOk s = true) (w : World) (h : SiAt w p s) :
    Calls Tryz.prog 127 #[siV p s, .int .u8 5] w fun e w' => ∃ bs bt : Nat, e = .returned (.tuple #[.int .i64 (s.loops.length : Int), .func (.func 156) #[] #[.pointer (some ⟨bt, 0, none⟩)]]) ∧ SiBox w' bs p s ∧ SiAt w' p s ∧ RkBox w' bt bs ∧ Below w.heap.size w w' := by
  have HV := Lib.hid (fun (X : World) (hX : SiAt X p s) => c_stValid p s _ hok X hX)
  unfold siV at HV
  unfold siV
  obtain ⟨W, hW⟩ : ∃ W, W = w.alloc (.cells #[.slice p.a1 s.feeds.length p.c1, .slice p.a2 s.brks.length p.c2, .slice p.a3 s.loops.length p.c3, .slice p.a4 s.racks.length p.c4, .int .i64 s.sw, .slice p.a5 s.links.length p.c5, .slice p.a6 s.hosts.length p.c6] 29) := ⟨_, rfl⟩
  have B0 : Below w.heap.size w W := by subst hW; exact (Below.refl _ _).alloc (Nat.le_refl _) _
  have HB0 := Lib.hid B0
  have HX := Lib.hid (show SiBox W w.heap.size p s by subst hW; exact siBox_new _ _ _)
  have HA := Lib.hid (h.on B0 (Nat.le_refl _))
  have HF := Lib.hid (fun (X : World) (hX : Below W.heap.size W X) => (let z := HX.out.on hX (Nat.le_refl _); ⟨z.c0, z.c1, z.c2, z.c3, z.c4, z.c5, z.c6⟩ : X.cell? ⟨w.heap.size, 0, none⟩ = some (.slice p.a1 s.feeds.length p.c1) ∧ X.cell? ⟨w.heap.size, 1, none⟩ = some (.slice p.a2 s.brks.length p.c2) ∧ X.cell? ⟨w.heap.size, 2, none⟩ = some (.slice p.a3 s.loops.length p.c3) ∧ X.cell? ⟨w.heap.size, 3, none⟩ = some (.slice p.a4 s.racks.length p.c4) ∧ X.cell? ⟨w.heap.size, 4, none⟩ = some (.int .i64 s.sw) ∧ X.cell? ⟨w.heap.size, 5, none⟩ = some (.slice p.a5 s.links.length p.c5) ∧ X.cell? ⟨w.heap.size, 6, none⟩ = some (.slice p.a6 s.hosts.length p.c6)))
  have m1 := h.feeds.1; have m2 := h.brks.1; have m3 := h.loops.1; have m4 := h.racks.1; have m5 := h.links.1; have m6 := h.hosts.1
  have n1 := h.feeds.2.1; have n2 := h.brks.2.1; have n3 := h.loops.2.1; have n4 := h.racks.2.1; have n5 := h.links.2.1; have n6 := h.hosts.2.1
  unfold maxLen at n1 n2 n3 n4 n5 n6
  have KW := Lib.hid (Below.refl W.heap.size W)
  have hlw : w.heap.size < W.heap.size := HX.out.lt
  clear B0 h
  obtain ⟨f0, f1, f2, f3, f4, f5, f6⟩ := HF.out W KW.out
  rw [hW] at f0 f1 f2 f3 f4 f5 f6
  go_enter Tryz.func127, Tryz.ntmps127
  go_wp2_with (fail)
  rw [← hW]
  clear hW f0 f1 f2 f3 f4 f5 f6
  go_at_call 44
  refine (HV.out W HA.out).mono ?_
  rintro e w1 ⟨rfl, b1⟩
  have K1 := Lib.hid b1
  have HX1 := Lib.hid (HX.out.on b1 (Nat.le_refl _))
  have HA1 := Lib.hid (HA.out.on b1 (Nat.le_refl _))
  clear b1
  obtain ⟨V, hV⟩ : ∃ V, V = w1.alloc (.cells #[.func (.func 151) #[] #[.pointer (some ⟨w.heap.size, 0, none⟩)]] 174) := ⟨_, rfl⟩
  have bV : Below w1.heap.size w1 V := by subst hV; exact (Below.refl _ _).alloc (Nat.le_refl _) _
  have HBV := Lib.hid (below_join K1.out bV K1.out.size)
  have HRK := Lib.hid (show RkBox V w1.heap.size w.heap.size by subst hV; exact heap_alloc_new _ _)
  clear bV
  obtain ⟨f0, f1, f2, f3, f4, f5, f6⟩ := HF.out V HBV.out
  rw [hV] at f0 f1 f2 f3 f4 f5 f6
  go_wp2_with (fail)
  rw [← hV]
  clear hV f0 f1 f2 f3 f4 f5 f6
  go_ret2
  exact ⟨w.heap.size, w1.heap.size, rfl, HX.out.on HBV.out (Nat.le_refl _), HA.out.on HBV.out (Nat.le_refl _), HRK.out, below_join HB0.out HBV.out HB0.out.size⟩
/-- What domains answers, for the number alone. -/
theorem c_doms (p : SP) (s : SiteD) (d : Nat) (hd : d < 256) (w : World) (h : SiAt w p s) :
    Calls Tryz.prog 127 #[siV p s, .int .u8 (d : Int)] w fun e w' => (∃ f, e = .returned (.tuple #[.int .i64 (cntD s d), f])) ∧ Below w.heap.size w w' := by
  rcases hok : siteOk s with _ | _
  · refine (c_domsNo p s d hd hok w h).mono ?_
    rintro e w' ⟨rfl, hb⟩
    exact ⟨⟨_, by unfold cntD; rw [hok]; rfl⟩, hb⟩
  · by_cases hno : 1 ≤ d ∧ d ≤ 5
    · rcases (by omega : d = 1 ∨ d = 2 ∨ d = 3 ∨ d = 4 ∨ d = 5) with rfl | rfl | rfl | rfl | rfl

      · refine (c_doms1 p s hok w h).mono ?_
        rintro e w' ⟨bs, bt, rfl, -, -, -, hb⟩
        exact ⟨⟨_, by unfold cntD; rw [hok]; rfl⟩, hb⟩
      · refine (c_doms2 p s hok w h).mono ?_
        rintro e w' ⟨bs, bt, rfl, -, -, -, hb⟩
        exact ⟨⟨_, by unfold cntD; rw [hok]; rfl⟩, hb⟩
      · refine (c_doms3 p s hok w h).mono ?_
        rintro e w' ⟨bs, bt, rfl, -, -, -, hb⟩
        exact ⟨⟨_, by unfold cntD; rw [hok]; rfl⟩, hb⟩
      · refine (c_doms4 p s hok w h).mono ?_
        rintro e w' ⟨bs, bt, rfl, -, -, -, hb⟩
        exact ⟨⟨_, by unfold cntD; rw [hok]; rfl⟩, hb⟩
      · refine (c_doms5 p s hok w h).mono ?_
        rintro e w' ⟨bs, bt, rfl, -, -, -, hb⟩
        exact ⟨⟨_, by unfold cntD; rw [hok]; rfl⟩, hb⟩
    · refine (c_domsNone p s d hd hno hok w h).mono ?_
      rintro e w' ⟨rfl, hb⟩
      refine ⟨⟨.nilFunc, ?_⟩, hb⟩
      have hc : cntD s d = 0 := by
        unfold cntD
        rw [hok, if_pos rfl]
        unfold cntOf
        split <;> first | rfl | (exfalso; omega)
      rw [hc]
set_option maxHeartbeats 4000000 in
theorem c_Count (p : SP) (s : SiteD) (d : Nat) (hd : d < 256) (r : Int) (hr : cntD s d = r) (w : World) (h : SiAt w p s) :
    Calls Tryz.prog 96 #[siV p s, .int .u8 (d : Int)] w fun e w' => e = .returned (.int .i64 r) ∧ Below w.heap.size w w' := by
  have HV := Lib.hid (fun (X : World) (hX : SiAt X p s) => c_doms p s d hd X hX)
  rw [hr] at HV
  unfold siV at HV
  unfold siV
  obtain ⟨W, hW⟩ : ∃ W, W = w.alloc (.cells #[.slice p.a1 s.feeds.length p.c1, .slice p.a2 s.brks.length p.c2, .slice p.a3 s.loops.length p.c3, .slice p.a4 s.racks.length p.c4, .int .i64 s.sw, .slice p.a5 s.links.length p.c5, .slice p.a6 s.hosts.length p.c6] 29) := ⟨_, rfl⟩
  have B0 : Below w.heap.size w W := by subst hW; exact (Below.refl _ _).alloc (Nat.le_refl _) _
  have HB0 := Lib.hid B0
  have HX := Lib.hid (show SiBox W w.heap.size p s by subst hW; exact siBox_new _ _ _)
  have HA := Lib.hid (h.on B0 (Nat.le_refl _))
  have HF := Lib.hid (fun (X : World) (hX : Below W.heap.size W X) => (let z := HX.out.on hX (Nat.le_refl _); ⟨z.c0, z.c1, z.c2, z.c3, z.c4, z.c5, z.c6⟩ : X.cell? ⟨w.heap.size, 0, none⟩ = some (.slice p.a1 s.feeds.length p.c1) ∧ X.cell? ⟨w.heap.size, 1, none⟩ = some (.slice p.a2 s.brks.length p.c2) ∧ X.cell? ⟨w.heap.size, 2, none⟩ = some (.slice p.a3 s.loops.length p.c3) ∧ X.cell? ⟨w.heap.size, 3, none⟩ = some (.slice p.a4 s.racks.length p.c4) ∧ X.cell? ⟨w.heap.size, 4, none⟩ = some (.int .i64 s.sw) ∧ X.cell? ⟨w.heap.size, 5, none⟩ = some (.slice p.a5 s.links.length p.c5) ∧ X.cell? ⟨w.heap.size, 6, none⟩ = some (.slice p.a6 s.hosts.length p.c6)))
  have m1 := h.feeds.1; have m2 := h.brks.1; have m3 := h.loops.1; have m4 := h.racks.1; have m5 := h.links.1; have m6 := h.hosts.1
  have n1 := h.feeds.2.1; have n2 := h.brks.2.1; have n3 := h.loops.2.1; have n4 := h.racks.2.1; have n5 := h.links.2.1; have n6 := h.hosts.2.1
  unfold maxLen at n1 n2 n3 n4 n5 n6
  have KW := Lib.hid (Below.refl W.heap.size W)
  have hlw : w.heap.size < W.heap.size := HX.out.lt
  clear B0 h hr
  obtain ⟨f0, f1, f2, f3, f4, f5, f6⟩ := HF.out W KW.out
  rw [hW] at f0 f1 f2 f3 f4 f5 f6
  go_enter Tryz.func96, Tryz.ntmps96
  go_wp2_with (fail)
  rw [← hW]
  clear hW f0 f1 f2 f3 f4 f5 f6
  go_at_call 127
  refine (HV.out W HA.out).mono ?_
  rintro e w1 ⟨⟨f, rfl⟩, b1⟩
  have K1 := Lib.hid b1
  clear b1
  go_wp2_with (fail)
  go_ret
  exact ⟨rfl, below_join HB0.out K1.out HB0.out.size⟩
end Go.Proofs.YtbbadnlaelgmlaaGreat

namespace Go.Proofs.YtbbadnlaelgmlaaGreat
open Go.RowKit
set_option maxRecDepth 100000
set_option linter.unusedVariables false
set_option linter.unusedSimpArgs false

set_option maxHeartbeats 8000000 in
theorem c_domOfNeg (p : SP) (s : SiteD) (d : Nat) (host : Int) (w : World) (h : SiAt w p s) (hd : ∀ X : World, SiAt X p s → Calls Tryz.prog 127 #[siV p s, .int .u8 (d : Int)] X fun e w' => e = .returned (.tuple #[.int .i64 0, .nilFunc]) ∧ Below X.heap.size X w') :
    Calls Tryz.prog 98 #[siV p s, .int .u8 (d : Int), .int .i64 host] w fun e w' => e = .returned (.int .i64 (-1)) ∧ Below w.heap.size w w' := by
  have HV := Lib.hid hd
  clear hd
  unfold siV at HV
  unfold siV
  obtain ⟨W, hW⟩ : ∃ W, W = w.alloc (.cells #[.slice p.a1 s.feeds.length p.c1, .slice p.a2 s.brks.length p.c2, .slice p.a3 s.loops.length p.c3, .slice p.a4 s.racks.length p.c4, .int .i64 s.sw, .slice p.a5 s.links.length p.c5, .slice p.a6 s.hosts.length p.c6] 29) := ⟨_, rfl⟩
  have B0 : Below w.heap.size w W := by subst hW; exact (Below.refl _ _).alloc (Nat.le_refl _) _
  have HB0 := Lib.hid B0
  have HX := Lib.hid (show SiBox W w.heap.size p s by subst hW; exact siBox_new _ _ _)
  have HA := Lib.hid (h.on B0 (Nat.le_refl _))
  have HF := Lib.hid (fun (X : World) (hX : Below W.heap.size W X) => (let z := HX.out.on hX (Nat.le_refl _); ⟨z.c0, z.c1, z.c2, z.c3, z.c4, z.c5, z.c6⟩ : X.cell? ⟨w.heap.size, 0, none⟩ = some (.slice p.a1 s.feeds.length p.c1) ∧ X.cell? ⟨w.heap.size, 1, none⟩ = some (.slice p.a2 s.brks.length p.c2) ∧ X.cell? ⟨w.heap.size, 2, none⟩ = some (.slice p.a3 s.loops.length p.c3) ∧ X.cell? ⟨w.heap.size, 3, none⟩ = some (.slice p.a4 s.racks.length p.c4) ∧ X.cell? ⟨w.heap.size, 4, none⟩ = some (.int .i64 s.sw) ∧ X.cell? ⟨w.heap.size, 5, none⟩ = some (.slice p.a5 s.links.length p.c5) ∧ X.cell? ⟨w.heap.size, 6, none⟩ = some (.slice p.a6 s.hosts.length p.c6)))
  have m1 := h.feeds.1; have m2 := h.brks.1; have m3 := h.loops.1; have m4 := h.racks.1; have m5 := h.links.1; have m6 := h.hosts.1
  have n1 := h.feeds.2.1; have n2 := h.brks.2.1; have n3 := h.loops.2.1; have n4 := h.racks.2.1; have n5 := h.links.2.1; have n6 := h.hosts.2.1
  unfold maxLen at n1 n2 n3 n4 n5 n6
  have KW := Lib.hid (Below.refl W.heap.size W)
  have hlw : w.heap.size < W.heap.size := HX.out.lt
  clear B0 h
  obtain ⟨f0, f1, f2, f3, f4, f5, f6⟩ := HF.out W KW.out
  rw [hW] at f0 f1 f2 f3 f4 f5 f6
  go_enter Tryz.func98, Tryz.ntmps98
  go_wp2_with (fail)
  rw [← hW]
  clear hW f0 f1 f2 f3 f4 f5 f6
  go_at_call 127
  refine (HV.out W HA.out).mono ?_
  rintro e w1 ⟨rfl, b1⟩
  have K1 := Lib.hid b1
  clear b1
  go_wp2_with (fail)
  go_ret
  exact ⟨rfl, below_join HB0.out K1.out HB0.out.size⟩
set_option maxHeartbeats 8000000 in
theorem c_domOf1 (p : SP) (s : SiteD) (hok : siteOk s = true) (host r : Int) (hr : domD s 1 host = r) (w : World) (h : SiAt w p s) :
    Calls Tryz.prog 98 #[siV p s, .int .u8 1, .int .i64 host] w fun e w' => e = .returned (.int .i64 r) ∧ Below w.heap.size w w' := by
  have hsok := siteOk_iff.1 hok
  have hcnt : ((s.hosts.length : Int) == (0 : Int)) = false := by rw [beq_eq_false_iff_ne]; have h1 := hsok.nhosts; have h2 := hsok.nracks; have h3 := hsok.nfeeds; have h4 := hsok.nloops; omega
  have HV := Lib.hid (fun (X : World) (hX : SiAt X p s) => c_doms1 p s hok X hX)
  have HSOK := Lib.hid hsok
  have HOK := Lib.hid hok
  unfold siV at HV
  clear hok hsok
  unfold siV
  obtain ⟨W, hW⟩ : ∃ W, W = w.alloc (.cells #[.slice p.a1 s.feeds.length p.c1, .slice p.a2 s.brks.length p.c2, .slice p.a3 s.loops.length p.c3, .slice p.a4 s.racks.length p.c4, .int .i64 s.sw, .slice p.a5 s.links.length p.c5, .slice p.a6 s.hosts.length p.c6] 29) := ⟨_, rfl⟩
  have B0 : Below w.heap.size w W := by subst hW; exact (Below.refl _ _).alloc (Nat.le_refl _) _
  have HB0 := Lib.hid B0
  have HX := Lib.hid (show SiBox W w.heap.size p s by subst hW; exact siBox_new _ _ _)
  have HA := Lib.hid (h.on B0 (Nat.le_refl _))
  have HF := Lib.hid (fun (X : World) (hX : Below W.heap.size W X) => (let z := HX.out.on hX (Nat.le_refl _); ⟨z.c0, z.c1, z.c2, z.c3, z.c4, z.c5, z.c6⟩ : X.cell? ⟨w.heap.size, 0, none⟩ = some (.slice p.a1 s.feeds.length p.c1) ∧ X.cell? ⟨w.heap.size, 1, none⟩ = some (.slice p.a2 s.brks.length p.c2) ∧ X.cell? ⟨w.heap.size, 2, none⟩ = some (.slice p.a3 s.loops.length p.c3) ∧ X.cell? ⟨w.heap.size, 3, none⟩ = some (.slice p.a4 s.racks.length p.c4) ∧ X.cell? ⟨w.heap.size, 4, none⟩ = some (.int .i64 s.sw) ∧ X.cell? ⟨w.heap.size, 5, none⟩ = some (.slice p.a5 s.links.length p.c5) ∧ X.cell? ⟨w.heap.size, 6, none⟩ = some (.slice p.a6 s.hosts.length p.c6)))
  have m1 := h.feeds.1; have m2 := h.brks.1; have m3 := h.loops.1; have m4 := h.racks.1; have m5 := h.links.1; have m6 := h.hosts.1
  have n1 := h.feeds.2.1; have n2 := h.brks.2.1; have n3 := h.loops.2.1; have n4 := h.racks.2.1; have n5 := h.links.2.1; have n6 := h.hosts.2.1
  unfold maxLen at n1 n2 n3 n4 n5 n6
  have KW := Lib.hid (Below.refl W.heap.size W)
  have hlw : w.heap.size < W.heap.size := HX.out.lt
  have HR := Lib.hid hr
  clear B0 h hr
  obtain ⟨f0, f1, f2, f3, f4, f5, f6⟩ := HF.out W KW.out
  rw [hW] at f0 f1 f2 f3 f4 f5 f6
  go_enter Tryz.func98, Tryz.ntmps98
  go_wp2_with (fail)
  rw [← hW]
  clear hW f0 f1 f2 f3 f4 f5 f6
  go_at_call 127
  refine (HV.out W HA.out).mono ?_
  rintro e w1 ⟨bs, bt, rfl, hb1, ha1, hr1, b1⟩
  have K1 := Lib.hid b1
  have HB1 := Lib.hid hb1
  have HA1 := Lib.hid ha1
  have HR1 := Lib.hid hr1
  clear b1 hb1 ha1 hr1
  obtain ⟨f0, f1, f2, f3, f4, f5, f6⟩ := HF.out w1 K1.out
  obtain ⟨r1, h1⟩ : ∃ b, ixB host (s.hosts.length : Int) = b := ⟨_, rfl⟩
  have Q1 := Lib.hid h1
  clear h1
  go_wp2_with (fail)
  clear f0 f1 f2 f3 f4 f5 f6
  go_at_call 77
  refine (c_isIndex host (s.hosts.length : Int) r1 Q1.out w1).mono ?_
  rintro e w2 ⟨rfl, b2⟩
  have K2 := Lib.hid (below_join K1.out b2 K1.out.size)
  have KK := Lib.hid b2
  clear b2
  cases r1
  · obtain rfl : -1 = r := by rw [← HR.out]; unfold domD; rw [if_neg (by rw [Q1.out]; rintro ⟨-, -, h⟩; cases h)]
    go_wp2_with (fail)
    go_ret
    exact ⟨rfl, below_join HB0.out K2.out HB0.out.size⟩
  · have hix := ixB_iff.1 Q1.out
    obtain ⟨k, rfl⟩ : ∃ k : Nat, host = (k : Int) := ⟨host.toNat, by omega⟩
    have hk : k < s.hosts.length := by omega
    have HC := Lib.hid (fun (X : World) (hb : SiBox X bs p s) (ha : SiAt X p s) (hr : RkBox X bt bs) (hsok : SiteOk s) => (show Calls Tryz.prog 152 #[.int .i64 (k : Int)] X fun e w' => e = .returned (.int .i64 (k : Int)) ∧ Below X.heap.size X w' from c_dom2 (k : Int) X))
    obtain rfl : (k : Int) = r := by rw [← HR.out]; unfold domD; rw [if_pos ⟨HOK.out, by decide, Q1.out⟩]; rfl
    clear hix
    go_wp2_with (fail)
    go_at_call 152
    refine (HC.out w2 (HB1.out.on KK.out (Nat.le_refl _)) (HA1.out.on KK.out (Nat.le_refl _)) (HR1.out.on KK.out (Nat.le_refl _)) HSOK.out).mono ?_
    rintro e w3 ⟨rfl, b3⟩
    have K3 := Lib.hid (below_join K2.out b3 K2.out.size)
    clear b3
    go_wp2_with (fail)
    go_ret
    exact ⟨rfl, below_join HB0.out K3.out HB0.out.size⟩
set_option maxHeartbeats 8000000 in
theorem c_domOf2 (p : SP) (s : SiteD) (hok : siteOk s = true) (host r : Int) (hr : domD s 2 host = r) (w : World) (h : SiAt w p s) :
    Calls Tryz.prog 98 #[siV p s, .int .u8 2, .int .i64 host] w fun e w' => e = .returned (.int .i64 r) ∧ Below w.heap.size w w' := by
  have hsok := siteOk_iff.1 hok
  have hcnt : ((s.racks.length : Int) == (0 : Int)) = false := by rw [beq_eq_false_iff_ne]; have h1 := hsok.nhosts; have h2 := hsok.nracks; have h3 := hsok.nfeeds; have h4 := hsok.nloops; omega
  have HV := Lib.hid (fun (X : World) (hX : SiAt X p s) => c_doms2 p s hok X hX)
  have HSOK := Lib.hid hsok
  have HOK := Lib.hid hok
  unfold siV at HV
  clear hok hsok
  unfold siV
  obtain ⟨W, hW⟩ : ∃ W, W = w.alloc (.cells #[.slice p.a1 s.feeds.length p.c1, .slice p.a2 s.brks.length p.c2, .slice p.a3 s.loops.length p.c3, .slice p.a4 s.racks.length p.c4, .int .i64 s.sw, .slice p.a5 s.links.length p.c5, .slice p.a6 s.hosts.length p.c6] 29) := ⟨_, rfl⟩
  have B0 : Below w.heap.size w W := by subst hW; exact (Below.refl _ _).alloc (Nat.le_refl _) _
  have HB0 := Lib.hid B0
  have HX := Lib.hid (show SiBox W w.heap.size p s by subst hW; exact siBox_new _ _ _)
  have HA := Lib.hid (h.on B0 (Nat.le_refl _))
  have HF := Lib.hid (fun (X : World) (hX : Below W.heap.size W X) => (let z := HX.out.on hX (Nat.le_refl _); ⟨z.c0, z.c1, z.c2, z.c3, z.c4, z.c5, z.c6⟩ : X.cell? ⟨w.heap.size, 0, none⟩ = some (.slice p.a1 s.feeds.length p.c1) ∧ X.cell? ⟨w.heap.size, 1, none⟩ = some (.slice p.a2 s.brks.length p.c2) ∧ X.cell? ⟨w.heap.size, 2, none⟩ = some (.slice p.a3 s.loops.length p.c3) ∧ X.cell? ⟨w.heap.size, 3, none⟩ = some (.slice p.a4 s.racks.length p.c4) ∧ X.cell? ⟨w.heap.size, 4, none⟩ = some (.int .i64 s.sw) ∧ X.cell? ⟨w.heap.size, 5, none⟩ = some (.slice p.a5 s.links.length p.c5) ∧ X.cell? ⟨w.heap.size, 6, none⟩ = some (.slice p.a6 s.hosts.length p.c6)))
  have m1 := h.feeds.1; have m2 := h.brks.1; have m3 := h.loops.1; have m4 := h.racks.1; have m5 := h.links.1; have m6 := h.hosts.1
  have n1 := h.feeds.2.1; have n2 := h.brks.2.1; have n3 := h.loops.2.1; have n4 := h.racks.2.1; have n5 := h.links.2.1; have n6 := h.hosts.2.1
  unfold maxLen at n1 n2 n3 n4 n5 n6
  have KW := Lib.hid (Below.refl W.heap.size W)
  have hlw : w.heap.size < W.heap.size := HX.out.lt
  have HR := Lib.hid hr
  clear B0 h hr
  obtain ⟨f0, f1, f2, f3, f4, f5, f6⟩ := HF.out W KW.out
  rw [hW] at f0 f1 f2 f3 f4 f5 f6
  go_enter Tryz.func98, Tryz.ntmps98
  go_wp2_with (fail)
  rw [← hW]
  clear hW f0 f1 f2 f3 f4 f5 f6
  go_at_call 127
  refine (HV.out W HA.out).mono ?_
  rintro e w1 ⟨bs, bt, rfl, hb1, ha1, hr1, b1⟩
  have K1 := Lib.hid b1
  have HB1 := Lib.hid hb1
  have HA1 := Lib.hid ha1
  have HR1 := Lib.hid hr1
  clear b1 hb1 ha1 hr1
  obtain ⟨f0, f1, f2, f3, f4, f5, f6⟩ := HF.out w1 K1.out
  obtain ⟨r1, h1⟩ : ∃ b, ixB host (s.hosts.length : Int) = b := ⟨_, rfl⟩
  have Q1 := Lib.hid h1
  clear h1
  go_wp2_with (fail)
  clear f0 f1 f2 f3 f4 f5 f6
  go_at_call 77
  refine (c_isIndex host (s.hosts.length : Int) r1 Q1.out w1).mono ?_
  rintro e w2 ⟨rfl, b2⟩
  have K2 := Lib.hid (below_join K1.out b2 K1.out.size)
  have KK := Lib.hid b2
  clear b2
  cases r1
  · obtain rfl : -1 = r := by rw [← HR.out]; unfold domD; rw [if_neg (by rw [Q1.out]; rintro ⟨-, -, h⟩; cases h)]
    go_wp2_with (fail)
    go_ret
    exact ⟨rfl, below_join HB0.out K2.out HB0.out.size⟩
  · have hix := ixB_iff.1 Q1.out
    obtain ⟨k, rfl⟩ : ∃ k : Nat, host = (k : Int) := ⟨host.toNat, by omega⟩
    have hk : k < s.hosts.length := by omega
    have HC := Lib.hid (fun (X : World) (hb : SiBox X bs p s) (ha : SiAt X p s) (hr : RkBox X bt bs) (hsok : SiteOk s) => (show Calls Tryz.prog 153 #[.int .i64 (k : Int), .pointer (some ⟨bs, 0, none⟩)] X fun e w' => e = .returned (.int .i64 (rackAt s k)) ∧ Below X.heap.size X w' from c_dom3 bs p s k hk X hb ha))
    obtain rfl : (rackAt s k) = r := by rw [← HR.out]; unfold domD; rw [if_pos ⟨HOK.out, by decide, Q1.out⟩]; rfl
    clear hix
    go_wp2_with (fail)
    go_at_call 153
    refine (HC.out w2 (HB1.out.on KK.out (Nat.le_refl _)) (HA1.out.on KK.out (Nat.le_refl _)) (HR1.out.on KK.out (Nat.le_refl _)) HSOK.out).mono ?_
    rintro e w3 ⟨rfl, b3⟩
    have K3 := Lib.hid (below_join K2.out b3 K2.out.size)
    clear b3
    go_wp2_with (fail)
    go_ret
    exact ⟨rfl, below_join HB0.out K3.out HB0.out.size⟩
set_option maxHeartbeats 8000000 in
theorem c_domOf3 (p : SP) (s : SiteD) (hok : siteOk s = true) (host r : Int) (hr : domD s 3 host = r) (w : World) (h : SiAt w p s) :
    Calls Tryz.prog 98 #[siV p s, .int .u8 3, .int .i64 host] w fun e w' => e = .returned (.int .i64 r) ∧ Below w.heap.size w w' := by
  have hsok := siteOk_iff.1 hok
  have hcnt : (4 == (0 : Int)) = false := by rw [beq_eq_false_iff_ne]; have h1 := hsok.nhosts; have h2 := hsok.nracks; have h3 := hsok.nfeeds; have h4 := hsok.nloops; omega
  have HV := Lib.hid (fun (X : World) (hX : SiAt X p s) => c_doms3 p s hok X hX)
  have HSOK := Lib.hid hsok
  have HOK := Lib.hid hok
  unfold siV at HV
  clear hok hsok
  unfold siV
  obtain ⟨W, hW⟩ : ∃ W, W = w.alloc (.cells #[.slice p.a1 s.feeds.length p.c1, .slice p.a2 s.brks.length p.c2, .slice p.a3 s.loops.length p.c3, .slice p.a4 s.racks.length p.c4, .int .i64 s.sw, .slice p.a5 s.links.length p.c5, .slice p.a6 s.hosts.length p.c6] 29) := ⟨_, rfl⟩
  have B0 : Below w.heap.size w W := by subst hW; exact (Below.refl _ _).alloc (Nat.le_refl _) _
  have HB0 := Lib.hid B0
  have HX := Lib.hid (show SiBox W w.heap.size p s by subst hW; exact siBox_new _ _ _)
  have HA := Lib.hid (h.on B0 (Nat.le_refl _))
  have HF := Lib.hid (fun (X : World) (hX : Below W.heap.size W X) => (let z := HX.out.on hX (Nat.le_refl _); ⟨z.c0, z.c1, z.c2, z.c3, z.c4, z.c5, z.c6⟩ : X.cell? ⟨w.heap.size, 0, none⟩ = some (.slice p.a1 s.feeds.length p.c1) ∧ X.cell? ⟨w.heap.size, 1, none⟩ = some (.slice p.a2 s.brks.length p.c2) ∧ X.cell? ⟨w.heap.size, 2, none⟩ = some (.slice p.a3 s.loops.length p.c3) ∧ X.cell? ⟨w.heap.size, 3, none⟩ = some (.slice p.a4 s.racks.length p.c4) ∧ X.cell? ⟨w.heap.size, 4, none⟩ = some (.int .i64 s.sw) ∧ X.cell? ⟨w.heap.size, 5, none⟩ = some (.slice p.a5 s.links.length p.c5) ∧ X.cell? ⟨w.heap.size, 6, none⟩ = some (.slice p.a6 s.hosts.length p.c6)))
  have m1 := h.feeds.1; have m2 := h.brks.1; have m3 := h.loops.1; have m4 := h.racks.1; have m5 := h.links.1; have m6 := h.hosts.1
  have n1 := h.feeds.2.1; have n2 := h.brks.2.1; have n3 := h.loops.2.1; have n4 := h.racks.2.1; have n5 := h.links.2.1; have n6 := h.hosts.2.1
  unfold maxLen at n1 n2 n3 n4 n5 n6
  have KW := Lib.hid (Below.refl W.heap.size W)
  have hlw : w.heap.size < W.heap.size := HX.out.lt
  have HR := Lib.hid hr
  clear B0 h hr
  obtain ⟨f0, f1, f2, f3, f4, f5, f6⟩ := HF.out W KW.out
  rw [hW] at f0 f1 f2 f3 f4 f5 f6
  go_enter Tryz.func98, Tryz.ntmps98
  go_wp2_with (fail)
  rw [← hW]
  clear hW f0 f1 f2 f3 f4 f5 f6
  go_at_call 127
  refine (HV.out W HA.out).mono ?_
  rintro e w1 ⟨bs, bt, rfl, hb1, ha1, hr1, b1⟩
  have K1 := Lib.hid b1
  have HB1 := Lib.hid hb1
  have HA1 := Lib.hid ha1
  have HR1 := Lib.hid hr1
  clear b1 hb1 ha1 hr1
  obtain ⟨f0, f1, f2, f3, f4, f5, f6⟩ := HF.out w1 K1.out
  obtain ⟨r1, h1⟩ : ∃ b, ixB host (s.hosts.length : Int) = b := ⟨_, rfl⟩
  have Q1 := Lib.hid h1
  clear h1
  go_wp2_with (fail)
  clear f0 f1 f2 f3 f4 f5 f6
  go_at_call 77
  refine (c_isIndex host (s.hosts.length : Int) r1 Q1.out w1).mono ?_
  rintro e w2 ⟨rfl, b2⟩
  have K2 := Lib.hid (below_join K1.out b2 K1.out.size)
  have KK := Lib.hid b2
  clear b2
  cases r1
  · obtain rfl : -1 = r := by rw [← HR.out]; unfold domD; rw [if_neg (by rw [Q1.out]; rintro ⟨-, -, h⟩; cases h)]
    go_wp2_with (fail)
    go_ret
    exact ⟨rfl, below_join HB0.out K2.out HB0.out.size⟩
  · have hix := ixB_iff.1 Q1.out
    obtain ⟨k, rfl⟩ : ∃ k : Nat, host = (k : Int) := ⟨host.toNat, by omega⟩
    have hk : k < s.hosts.length := by omega
    have HC := Lib.hid (fun (X : World) (hb : SiBox X bs p s) (ha : SiAt X p s) (hr : RkBox X bt bs) (hsok : SiteOk s) => (show Calls Tryz.prog 154 #[.int .i64 (k : Int), .pointer (some ⟨bt, 0, none⟩)] X fun e w' => e = .returned (.int .i64 (rkAt s k).row) ∧ Below X.heap.size X w' from c_dom4 bs bt p s hsok k hk X hb ha hr))
    obtain rfl : (rkAt s k).row = r := by rw [← HR.out]; unfold domD; rw [if_pos ⟨HOK.out, by decide, Q1.out⟩]; rfl
    clear hix
    go_wp2_with (fail)
    go_at_call 154
    refine (HC.out w2 (HB1.out.on KK.out (Nat.le_refl _)) (HA1.out.on KK.out (Nat.le_refl _)) (HR1.out.on KK.out (Nat.le_refl _)) HSOK.out).mono ?_
    rintro e w3 ⟨rfl, b3⟩
    have K3 := Lib.hid (below_join K2.out b3 K2.out.size)
    clear b3
    go_wp2_with (fail)
    go_ret
    exact ⟨rfl, below_join HB0.out K3.out HB0.out.size⟩
set_option maxHeartbeats 8000000 in
theorem c_domOf4 (p : SP) (s : SiteD) (hok : siteOk s = true) (host r : Int) (hr : domD s 4 host = r) (w : World) (h : SiAt w p s) :
    Calls Tryz.prog 98 #[siV p s, .int .u8 4, .int .i64 host] w fun e w' => e = .returned (.int .i64 r) ∧ Below w.heap.size w w' := by
  have hsok := siteOk_iff.1 hok
  have hcnt : ((s.feeds.length : Int) == (0 : Int)) = false := by rw [beq_eq_false_iff_ne]; have h1 := hsok.nhosts; have h2 := hsok.nracks; have h3 := hsok.nfeeds; have h4 := hsok.nloops; omega
  have HV := Lib.hid (fun (X : World) (hX : SiAt X p s) => c_doms4 p s hok X hX)
  have HSOK := Lib.hid hsok
  have HOK := Lib.hid hok
  unfold siV at HV
  clear hok hsok
  unfold siV
  obtain ⟨W, hW⟩ : ∃ W, W = w.alloc (.cells #[.slice p.a1 s.feeds.length p.c1, .slice p.a2 s.brks.length p.c2, .slice p.a3 s.loops.length p.c3, .slice p.a4 s.racks.length p.c4, .int .i64 s.sw, .slice p.a5 s.links.length p.c5, .slice p.a6 s.hosts.length p.c6] 29) := ⟨_, rfl⟩
  have B0 : Below w.heap.size w W := by subst hW; exact (Below.refl _ _).alloc (Nat.le_refl _) _
  have HB0 := Lib.hid B0
  have HX := Lib.hid (show SiBox W w.heap.size p s by subst hW; exact siBox_new _ _ _)
  have HA := Lib.hid (h.on B0 (Nat.le_refl _))
  have HF := Lib.hid (fun (X : World) (hX : Below W.heap.size W X) => (let z := HX.out.on hX (Nat.le_refl _); ⟨z.c0, z.c1, z.c2, z.c3, z.c4, z.c5, z.c6⟩ : X.cell? ⟨w.heap.size, 0, none⟩ = some (.slice p.a1 s.feeds.length p.c1) ∧ X.cell? ⟨w.heap.size, 1, none⟩ = some (.slice p.a2 s.brks.length p.c2) ∧ X.cell? ⟨w.heap.size, 2, none⟩ = some (.slice p.a3 s.loops.length p.c3) ∧ X.cell? ⟨w.heap.size, 3, none⟩ = some (.slice p.a4 s.racks.length p.c4) ∧ X.cell? ⟨w.heap.size, 4, none⟩ = some (.int .i64 s.sw) ∧ X.cell? ⟨w.heap.size, 5, none⟩ = some (.slice p.a5 s.links.length p.c5) ∧ X.cell? ⟨w.heap.size, 6, none⟩ = some (.slice p.a6 s.hosts.length p.c6)))
  have m1 := h.feeds.1; have m2 := h.brks.1; have m3 := h.loops.1; have m4 := h.racks.1; have m5 := h.links.1; have m6 := h.hosts.1
  have n1 := h.feeds.2.1; have n2 := h.brks.2.1; have n3 := h.loops.2.1; have n4 := h.racks.2.1; have n5 := h.links.2.1; have n6 := h.hosts.2.1
  unfold maxLen at n1 n2 n3 n4 n5 n6
  have KW := Lib.hid (Below.refl W.heap.size W)
  have hlw : w.heap.size < W.heap.size := HX.out.lt
  have HR := Lib.hid hr
  clear B0 h hr
  obtain ⟨f0, f1, f2, f3, f4, f5, f6⟩ := HF.out W KW.out
  rw [hW] at f0 f1 f2 f3 f4 f5 f6
  go_enter Tryz.func98, Tryz.ntmps98
  go_wp2_with (fail)
  rw [← hW]
  clear hW f0 f1 f2 f3 f4 f5 f6
  go_at_call 127
  refine (HV.out W HA.out).mono ?_
  rintro e w1 ⟨bs, bt, rfl, hb1, ha1, hr1, b1⟩
  have K1 := Lib.hid b1
  have HB1 := Lib.hid hb1
  have HA1 := Lib.hid ha1
  have HR1 := Lib.hid hr1
  clear b1 hb1 ha1 hr1
  obtain ⟨f0, f1, f2, f3, f4, f5, f6⟩ := HF.out w1 K1.out
  obtain ⟨r1, h1⟩ : ∃ b, ixB host (s.hosts.length : Int) = b := ⟨_, rfl⟩
  have Q1 := Lib.hid h1
  clear h1
  go_wp2_with (fail)
  clear f0 f1 f2 f3 f4 f5 f6
  go_at_call 77
  refine (c_isIndex host (s.hosts.length : Int) r1 Q1.out w1).mono ?_
  rintro e w2 ⟨rfl, b2⟩
  have K2 := Lib.hid (below_join K1.out b2 K1.out.size)
  have KK := Lib.hid b2
  clear b2
  cases r1
  · obtain rfl : -1 = r := by rw [← HR.out]; unfold domD; rw [if_neg (by rw [Q1.out]; rintro ⟨-, -, h⟩; cases h)]
    go_wp2_with (fail)
    go_ret
    exact ⟨rfl, below_join HB0.out K2.out HB0.out.size⟩
  · have hix := ixB_iff.1 Q1.out
    obtain ⟨k, rfl⟩ : ∃ k : Nat, host = (k : Int) := ⟨host.toNat, by omega⟩
    have hk : k < s.hosts.length := by omega
    have HC := Lib.hid (fun (X : World) (hb : SiBox X bs p s) (ha : SiAt X p s) (hr : RkBox X bt bs) (hsok : SiteOk s) => (show Calls Tryz.prog 155 #[.int .i64 (k : Int), .pointer (some ⟨bs, 0, none⟩), .pointer (some ⟨bt, 0, none⟩)] X fun e w' => e = .returned (.int .i64 (feedAt s k)) ∧ Below X.heap.size X w' from c_dom5 bs bt p s hsok k hk X hb ha hr))
    obtain rfl : (feedAt s k) = r := by rw [← HR.out]; unfold domD; rw [if_pos ⟨HOK.out, by decide, Q1.out⟩]; rfl
    clear hix
    go_wp2_with (fail)
    go_at_call 155
    refine (HC.out w2 (HB1.out.on KK.out (Nat.le_refl _)) (HA1.out.on KK.out (Nat.le_refl _)) (HR1.out.on KK.out (Nat.le_refl _)) HSOK.out).mono ?_
    rintro e w3 ⟨rfl, b3⟩
    have K3 := Lib.hid (below_join K2.out b3 K2.out.size)
    clear b3
    go_wp2_with (fail)
    go_ret
    exact ⟨rfl, below_join HB0.out K3.out HB0.out.size⟩
set_option maxHeartbeats 8000000 in
theorem c_domOf5 (p : SP) (s : SiteD) (hok : siteOk s = true) (host r : Int) (hr : domD s 5 host = r) (w : World) (h : SiAt w p s) :
    Calls Tryz.prog 98 #[siV p s, .int .u8 5, .int .i64 host] w fun e w' => e = .returned (.int .i64 r) ∧ Below w.heap.size w w' := by
  have hsok := siteOk_iff.1 hok
  have hcnt : ((s.loops.length : Int) == (0 : Int)) = false := by rw [beq_eq_false_iff_ne]; have h1 := hsok.nhosts; have h2 := hsok.nracks; have h3 := hsok.nfeeds; have h4 := hsok.nloops; omega
  have HV := Lib.hid (fun (X : World) (hX : SiAt X p s) => c_doms5 p s hok X hX)
  have HSOK := Lib.hid hsok
  have HOK := Lib.hid hok
  unfold siV at HV
  clear hok hsok
  unfold siV
  obtain ⟨W, hW⟩ : ∃ W, W = w.alloc (.cells #[.slice p.a1 s.feeds.length p.c1, .slice p.a2 s.brks.length p.c2, .slice p.a3 s.loops.length p.c3, .slice p.a4 s.racks.length p.c4, .int .i64 s.sw, .slice p.a5 s.links.length p.c5, .slice p.a6 s.hosts.length p.c6] 29) := ⟨_, rfl⟩
  have B0 : Below w.heap.size w W := by subst hW; exact (Below.refl _ _).alloc (Nat.le_refl _) _
  have HB0 := Lib.hid B0
  have HX := Lib.hid (show SiBox W w.heap.size p s by subst hW; exact siBox_new _ _ _)
  have HA := Lib.hid (h.on B0 (Nat.le_refl _))
  have HF := Lib.hid (fun (X : World) (hX : Below W.heap.size W X) => (let z := HX.out.on hX (Nat.le_refl _); ⟨z.c0, z.c1, z.c2, z.c3, z.c4, z.c5, z.c6⟩ : X.cell? ⟨w.heap.size, 0, none⟩ = some (.slice p.a1 s.feeds.length p.c1) ∧ X.cell? ⟨w.heap.size, 1, none⟩ = some (.slice p.a2 s.brks.length p.c2) ∧ X.cell? ⟨w.heap.size, 2, none⟩ = some (.slice p.a3 s.loops.length p.c3) ∧ X.cell? ⟨w.heap.size, 3, none⟩ = some (.slice p.a4 s.racks.length p.c4) ∧ X.cell? ⟨w.heap.size, 4, none⟩ = some (.int .i64 s.sw) ∧ X.cell? ⟨w.heap.size, 5, none⟩ = some (.slice p.a5 s.links.length p.c5) ∧ X.cell? ⟨w.heap.size, 6, none⟩ = some (.slice p.a6 s.hosts.length p.c6)))
  have m1 := h.feeds.1; have m2 := h.brks.1; have m3 := h.loops.1; have m4 := h.racks.1; have m5 := h.links.1; have m6 := h.hosts.1
  have n1 := h.feeds.2.1; have n2 := h.brks.2.1; have n3 := h.loops.2.1; have n4 := h.racks.2.1; have n5 := h.links.2.1; have n6 := h.hosts.2.1
  unfold maxLen at n1 n2 n3 n4 n5 n6
  have KW := Lib.hid (Below.refl W.heap.size W)
  have hlw : w.heap.size < W.heap.size := HX.out.lt
  have HR := Lib.hid hr
  clear B0 h hr
  obtain ⟨f0, f1, f2, f3, f4, f5, f6⟩ := HF.out W KW.out
  rw [hW] at f0 f1 f2 f3 f4 f5 f6
  go_enter Tryz.func98, Tryz.ntmps98
  go_wp2_with (fail)
  rw [← hW]
  clear hW f0 f1 f2 f3 f4 f5 f6
  go_at_call 127
  refine (HV.out W HA.out).mono ?_
  rintro e w1 ⟨bs, bt, rfl, hb1, ha1, hr1, b1⟩
  have K1 := Lib.hid b1
  have HB1 := Lib.hid hb1
  have HA1 := Lib.hid ha1
  have HR1 := Lib.hid hr1
  clear b1 hb1 ha1 hr1
  obtain ⟨f0, f1, f2, f3, f4, f5, f6⟩ := HF.out w1 K1.out
  obtain ⟨r1, h1⟩ : ∃ b, ixB host (s.hosts.length : Int) = b := ⟨_, rfl⟩
  have Q1 := Lib.hid h1
  clear h1
  go_wp2_with (fail)
  clear f0 f1 f2 f3 f4 f5 f6
  go_at_call 77
  refine (c_isIndex host (s.hosts.length : Int) r1 Q1.out w1).mono ?_
  rintro e w2 ⟨rfl, b2⟩
  have K2 := Lib.hid (below_join K1.out b2 K1.out.size)
  have KK := Lib.hid b2
  clear b2
  cases r1
  · obtain rfl : -1 = r := by rw [← HR.out]; unfold domD; rw [if_neg (by rw [Q1.out]; rintro ⟨-, -, h⟩; cases h)]
    go_wp2_with (fail)
    go_ret
    exact ⟨rfl, below_join HB0.out K2.out HB0.out.size⟩
  · have hix := ixB_iff.1 Q1.out
    obtain ⟨k, rfl⟩ : ∃ k : Nat, host = (k : Int) := ⟨host.toNat, by omega⟩
    have hk : k < s.hosts.length := by omega
    have HC := Lib.hid (fun (X : World) (hb : SiBox X bs p s) (ha : SiAt X p s) (hr : RkBox X bt bs) (hsok : SiteOk s) => (show Calls Tryz.prog 156 #[.int .i64 (k : Int), .pointer (some ⟨bt, 0, none⟩)] X fun e w' => e = .returned (.int .i64 (rkAt s k).loop) ∧ Below X.heap.size X w' from c_dom6 bs bt p s hsok k hk X hb ha hr))
    obtain rfl : (rkAt s k).loop = r := by rw [← HR.out]; unfold domD; rw [if_pos ⟨HOK.out, by decide, Q1.out⟩]; rfl
    clear hix
    go_wp2_with (fail)
    go_at_call 156
    refine (HC.out w2 (HB1.out.on KK.out (Nat.le_refl _)) (HA1.out.on KK.out (Nat.le_refl _)) (HR1.out.on KK.out (Nat.le_refl _)) HSOK.out).mono ?_
    rintro e w3 ⟨rfl, b3⟩
    have K3 := Lib.hid (below_join K2.out b3 K2.out.size)
    clear b3
    go_wp2_with (fail)
    go_ret
    exact ⟨rfl, below_join HB0.out K3.out HB0.out.size⟩
theorem c_DomainOf (p : SP) (s : SiteD) (d : Nat) (hd : d < 256) (host r : Int) (hr : domD s d host = r) (w : World) (h : SiAt w p s) :
    Calls Tryz.prog 98 #[siV p s, .int .u8 (d : Int), .int .i64 host] w fun e w' => e = .returned (.int .i64 r) ∧ Below w.heap.size w w' := by
  rcases hok : siteOk s with _ | _
  · obtain rfl : -1 = r := by rw [← hr]; unfold domD; rw [if_neg (by rw [hok]; rintro ⟨h, -⟩; cases h)]
    exact c_domOfNeg p s d host w h (fun X hX => c_domsNo p s d hd hok X hX)
  · by_cases hno : 1 ≤ d ∧ d ≤ 5
    · rcases (by omega : d = 1 ∨ d = 2 ∨ d = 3 ∨ d = 4 ∨ d = 5) with rfl | rfl | rfl | rfl | rfl
      · exact c_domOf1 p s hok host r hr w h
      · exact c_domOf2 p s hok host r hr w h
      · exact c_domOf3 p s hok host r hr w h
      · exact c_domOf4 p s hok host r hr w h
      · exact c_domOf5 p s hok host r hr w h
    · obtain rfl : -1 = r := by rw [← hr]; unfold domD; rw [if_neg (by rintro ⟨-, h, -⟩; exact hno h)]
      exact c_domOfNeg p s d host w h (fun X hX => c_domsNone p s d hd hno hok X hX)
end Go.Proofs.YtbbadnlaelgmlaaGreat

namespace Go.Proofs.YtbbadnlaelgmlaaGreat
open Go.RowKit
set_option maxRecDepth 100000
set_option linter.unusedVariables false
set_option linter.unusedSimpArgs false

theorem int_info : (Tryz.prog.info? 3).map (fun i => (i.zero, i.size, i.bytes)) = some (some (.int .i64 0), 1, 8) := by kernel_rfl
theorem info_parts {P : Program} {T : TypeId} {z : Value} {s b : Nat} (h : (P.info? T).map (fun i => (i.zero, i.size, i.bytes)) = some (some z, s, b)) : ∃ i, P.info? T = some i ∧ i.zero = some z ∧ i.size = s ∧ i.bytes = b := by
  cases hi : P.info? T with
  | none => rw [hi] at h; cases h
  | some i => rw [hi] at h; simp at h; exact ⟨i, rfl, h.1, h.2.1, h.2.2⟩
/-- Numbers as cells. -/
def ints (l : List Int) : List Value := l.map fun x => .int .i64 x
theorem ints_snoc (l : List Int) (x : Int) : ints (l ++ [x]) = ints l ++ [.int .i64 x] := by simp [ints]
def nats (l : List Nat) : List Int := List.map (fun k : Nat => (k : Int)) l
theorem nats_len (l : List Nat) : (nats l).length = l.length := by simp [nats]
theorem ownsRow_lt {X : World} {base : Nat} {e : TypeId} {size n : Nat} {v : Value} {xs : List Value} (h : X.ownsRow base e size v n xs) {g : Nat} (hg : v.ownBlock = some g) : base ≤ g ∧ g < X.heap.size := by
  obtain ⟨k1, ⟨rfl, -⟩ | ⟨g', cap, cur, rfl, k3, k4, k⟩⟩ := h
  · cases hg
  · have hg2 : some g' = some g := hg
    injection hg2 with hg2
    subst hg2
    exact ⟨k3, at_lt k4⟩
theorem own_shape {X : World} {base : Nat} {e : TypeId} {size n : Nat} {v : Value} {xs : List Value} (h : X.ownsRow base e size v n xs) : ∃ A c, v = .slice A n c := by
  obtain ⟨k1, ⟨rfl, h0⟩ | ⟨g, cap, cur, rfl, k⟩⟩ := h
  · subst h0; exact ⟨_, _, rfl⟩
  · exact ⟨_, _, rfl⟩
theorem own_mono {w : World} {base base' : Nat} {e : TypeId} {size : Nat} {v : Value} {n : Nat} {xs : List Value} (h : w.ownsRow base e size v n xs) (hb : base' ≤ base) : w.ownsRow base' e size v n xs := by
  obtain ⟨k1, h | ⟨g, cap, cur, rfl, k3, k4, k⟩⟩ := h
  · exact ⟨k1, .inl h⟩
  · exact ⟨k1, .inr ⟨g, cap, cur, rfl, Nat.le_trans hb k3, k4, k⟩⟩
theorem own_on {X Y : World} {base : Nat} {e : TypeId} {size n B : Nat} {v : Value} {xs : List Value} (h : X.ownsRow base e size v n xs) (hb : Below B X Y) (hB : X.heap.size ≤ B) : Y.ownsRow base e size v n xs := by
  obtain ⟨k1, h | ⟨g, cap, cur, rfl, k3, k4, k⟩⟩ := h
  · exact ⟨k1, .inl h⟩
  · exact ⟨k1, .inr ⟨g, cap, cur, rfl, k3, (hb.block _ (Nat.lt_of_lt_of_le (at_lt k4) hB)).trans k4, k⟩⟩
/-- A list that a walk has made is a list in memory. -/
theorem own_rw {w : World} {base : Nat} {v : Value} {l : List Int} (h : w.ownsRow base 3 1 v l.length (ints l)) : ∃ A c, v = .slice A l.length c ∧ Rw 1 inF w A c l := by
  have hc := h
  obtain ⟨k1, ⟨e, e2⟩ | ⟨g, cap, cur, e, k3, k4, k5, k6, k7, k8⟩⟩ := h
  · subst e
    obtain rfl : l = [] := List.eq_nil_of_length_eq_zero e2
    exact ⟨none, 0, rfl, Rw.nil _ _⟩
  · subst e
    refine ⟨some ⟨g, 0, none⟩, cap, rfl, k5, k6, fun _ => ⟨g, 0, rfl, at_lt k4, fun j x hj i hi => ?_⟩⟩
    obtain rfl : i = 0 := by omega
    have hj' := (List.getElem?_eq_some_iff.1 hj).1
    have := hc.cellAt j (by simp; omega)
    rw [show 0 + j * 1 + 0 = j by omega, this]
    simp [ints, hj, inF]
theorem range_filter {f : Nat → Bool} (k : Nat) : (List.range (k + 1)).filter f = (List.range k).filter f ++ if f k then [k] else [] := by
  rw [List.range_succ, List.filter_append]
  congr 1
  cases h : f k <;> simp [h]
end Go.Proofs.YtbbadnlaelgmlaaGreat

namespace Go.Proofs.YtbbadnlaelgmlaaGreat
open Go.RowKit
set_option linter.unusedVariables false

section
variable {P : Program} {ops : Array Oper} {Q : Exit → Act → World → Prop} {md : Region.Mode} {S : World → Prop}
theorem takeH {i : Nat} (d : Tmp) {oi : Oper} {v : Value} {fuel : Nat} {listed : Array Bool} {a : Act} {w : World} (hi : ops[i]? = some oi) (hd : oi.dst = some d)
    (hs : Region.noSelect ops = true) (hf : Region.free md ops listed i = true) (hr : (Region.ready md ops listed).contains i = true)
    (hQ : ∀ c a w, Q (.panic c) (a.put (some d) v) w → Q (.panic c) a w) (hw : Region.wanted oi (yielded ops a.tmps) = true) (hy : ∀ w, S w → (execOp a.eval oi).run P w = .ok (.value v) w) (hS : S w)
    (h : wpAnyH P md ops Q S fuel (listed.setIfInBounds i true) (a.put (some d) v) w) : wpAnyH P md ops Q S (fuel + 1) listed a w := by
  rw [← hd] at hQ h
  exact wpAnyH_take hi hs hf hr hQ (.inl ⟨hw, hy⟩) hS h
end
end Go.Proofs.YtbbadnlaelgmlaaGreat

namespace Go.Proofs.YtbbadnlaelgmlaaGreat
open Go.RowKit
set_option maxRecDepth 100000
set_option linter.unusedVariables false
set_option linter.unusedSimpArgs false

theorem set_else {W : World} {b k o : Nat} {v : Value} {ob : Obj} (h : W.heap[k]? = some ob) (hne : k ≠ b) : (W.setCell ⟨b, o, none⟩ v).heap[k]? = some ob := by
  rw [Below.heap_setCell _ ⟨b, o, none⟩ v k hne]; exact h
theorem old_heap {X : World} {b : Nat} {o : Obj} (o' : Obj) (h : X.heap[b]? = some o) : (X.alloc o').heap[b]? = some o := (Below.heap_alloc _ _ _ (at_lt h)).trans h
end Go.Proofs.YtbbadnlaelgmlaaGreat

namespace Go.Proofs.YtbbadnlaelgmlaaGreat
set_option linter.unusedVariables false
set_option linter.unusedSimpArgs false

structure Hst where
  phase : Nat
  fw : Int
  deriving DecidableEq
structure Rep where
  svc : Int
  host : Int
  deriving DecidableEq
structure Nr where
  svc : Int
  lat : Int
structure Svc where
  cores : Int
  reps : Int
  least : Int
  dom : Nat
  spread : Int
  apart : List Int
  near : List Nr
  fw : Int
structure WorldD where
  hosts : List Hst
  reps : List Rep
/-- The elements of a list name other services, strictly ascending. -/
def othGo (own many : Int) : Int → List Int → Bool
  | _, [] => true
  | last, x :: l => if x ≤ last ∨ many ≤ x ∨ x = own then false else othGo own many x l
def othB (own many : Int) (l : List Int) : Bool := othGo own many (-1) l
theorem othGo_cons_ok {own many last x : Int} {l : List Int} (h : ¬ (x ≤ last ∨ many ≤ x ∨ x = own)) : othGo own many last (x :: l) = othGo own many x l := by
  rw [othGo, if_neg h]
theorem othGo_cons_no {own many last x : Int} {l : List Int} (h : x ≤ last ∨ many ≤ x ∨ x = own) : othGo own many last (x :: l) = false := by
  rw [othGo, if_pos h]
def nearBad (n : Nr) : Bool := !inB n.lat 0 1000000
def keepB (s : Svc) : Bool :=
  inB s.cores 1 1000 && (inB s.reps 0 24 && (inB s.least 0 s.reps && (inB s.fw 0 1000000 && (decide (s.dom ≤ 5) && (inB s.spread (if s.dom = 0 then 0 else 1) (if s.dom = 0 then 0 else 24) && !s.near.any nearBad)))))
def nameB (s : Svc) (own many : Int) : Bool := othB own many s.apart && othB own many (s.near.map (·.svc))
def svcB (s : Svc) (own many : Int) : Bool := keepB s && nameB s own many
def sumR (l : List Svc) : Int := (l.map (·.reps)).sum
/-- What a valid wish is. -/
def WishOk (l : List Svc) : Prop := l.length ≤ 8 ∧ (∀ (i : Nat) s, l[i]? = some s → svcB s i l.length = true) ∧ sumR l ≤ 24
theorem keepB_iff {s : Svc} : keepB s = true ↔ (1 ≤ s.cores ∧ s.cores ≤ 1000) ∧ (0 ≤ s.reps ∧ s.reps ≤ 24) ∧ (0 ≤ s.least ∧ s.least ≤ s.reps) ∧ (0 ≤ s.fw ∧ s.fw ≤ 1000000) ∧ s.dom ≤ 5 ∧ ((if s.dom = 0 then 0 else 1) ≤ s.spread ∧ s.spread ≤ (if s.dom = 0 then 0 else 24)) ∧ ∀ n ∈ s.near, 0 ≤ n.lat ∧ n.lat ≤ 1000000 := by
  unfold keepB
  simp only [Bool.and_eq_true, inB_iff, decide_eq_true_eq, Bool.not_eq_true', List.any_eq_false, nearBad]
  simp [inB_iff]
/-- The replicas are in order. -/
def lessR (a b : Rep) : Bool := decide (a.svc < b.svc) || (a.svc == b.svc && decide (a.host < b.host))
theorem lessR_iff {a b : Rep} : lessR a b = true ↔ a.svc < b.svc ∨ a.svc = b.svc ∧ a.host < b.host := by simp [lessR]
def ascB : List Rep → Bool
  | a :: b :: l => lessR a b && ascB (b :: l)
  | _ => true
theorem ascB_iff {l : List Rep} : ascB l = true ↔ ∀ (i : Nat) a b, l[i]? = some a → l[i + 1]? = some b → lessR a b = true := by
  induction l with
  | nil => simp [ascB]
  | cons x l ih =>
    cases l with
    | nil => simp [ascB]
    | cons y l =>
      rw [ascB, Bool.and_eq_true, ih]
      constructor
      · rintro ⟨h0, h⟩ i a b ha hb
        cases i with
        | zero => simp at ha hb; subst ha hb; exact h0
        | succ i => exact h i a b (by simpa using ha) (by simpa using hb)
      · intro h
        exact ⟨h 0 x y rfl rfl, fun i a b ha hb => h (i + 1) a b (by simpa using ha) (by simpa using hb)⟩
/-- The hosts of a service. -/
def whereD (l : List Rep) (s : Int) : List Int := (l.filter (fun r => r.svc == s)).map (·.host)
theorem where_snoc (l : List Rep) (r : Rep) (s : Int) : whereD (l ++ [r]) s = whereD l s ++ if r.svc == s then [r.host] else [] := by
  unfold whereD
  rw [List.filter_append, List.map_append]
  congr 1
  cases h : (r.svc == s) <;> simp [List.filter_cons, h]
def coresAt (ss : List Svc) (k : Int) : Int := ((ss[k.toNat]?).map (·.cores)).getD 0
/-- The cores in use: sums wrap around. -/
def usedStep (ss : List Svc) (host : Int) (acc : Int) (r : Rep) : Int := if (r.host == host && ixB r.svc ss.length) = true then IntKind.i64.wrap (acc + coresAt ss r.svc) else acc
def usedD (ss : List Svc) (l : List Rep) (host : Int) : Int := l.foldl (usedStep ss host) 0
theorem used_snoc (ss : List Svc) (l : List Rep) (r : Rep) (host : Int) : usedD ss (l ++ [r]) host = usedStep ss host (usedD ss l host) r := by
  unfold usedD; rw [List.foldl_append]; rfl
def hasB (l : List Rep) (r : Rep) : Bool := decide (r ∈ l)
/-- A valid world. -/
def hstOk (h : Hst) : Bool := decide (h.phase ≤ 4) && inB h.fw 0 1000000
def repOk (ns nh : Int) (r : Rep) : Bool := ixB r.svc ns && ixB r.host nh
def WorldOk (s : SiteD) (ss : List Svc) (w : WorldD) : Prop :=
  siteOk s = true ∧ WishOk ss ∧ w.hosts.length = s.hosts.length ∧ (∀ h ∈ w.hosts, hstOk h = true) ∧ w.reps.length ≤ 24 ∧ (∀ r ∈ w.reps, repOk ss.length s.hosts.length r = true) ∧ ascB w.reps = true
end Go.Proofs.YtbbadnlaelgmlaaGreat

namespace Go.Proofs.YtbbadnlaelgmlaaGreat
set_option linter.unusedVariables false
set_option linter.unusedSimpArgs false

def sumN (f : Nat → Int) : Nat → Int
  | 0 => 0
  | n + 1 => sumN f n + f n
theorem sumN_ext {f g : Nat → Int} : ∀ {n : Nat}, (∀ i, i < n → f i = g i) → sumN f n = sumN g n := by
  intro n
  induction n with
  | zero => intro _; rfl
  | succ n ih => intro h; rw [sumN, sumN, ih fun i hi => h i (by omega), h n (by omega)]
theorem sumN_add (f g : Nat → Int) (n : Nat) : sumN (fun i => f i + g i) n = sumN f n + sumN g n := by
  induction n with
  | zero => rfl
  | succ n ih => simp only [sumN, ih]; omega
theorem sumN_zero (n : Nat) : sumN (fun _ => 0) n = 0 := by
  induction n with
  | zero => rfl
  | succ n ih => simp only [sumN, ih]; omega
theorem sumN_one (a : Nat) (c : Int) (n : Nat) : sumN (fun i => if a = i then c else 0) n = if a < n then c else 0 := by
  induction n with
  | zero => simp [sumN]
  | succ n ih =>
    rw [sumN, ih]
    by_cases h : a = n
    · subst h; simp
    · rw [if_neg h]
      by_cases h2 : a < n
      · rw [if_pos h2, if_pos (by omega)]; omega
      · rw [if_neg h2, if_neg (by omega)]; omega
theorem sumN_bound {f : Nat → Int} {m : Int} : ∀ {n : Nat}, (∀ i, i < n → 0 ≤ f i ∧ f i ≤ m) → 0 ≤ sumN f n ∧ sumN f n ≤ m * n := by
  intro n
  induction n with
  | zero => intro _; simp [sumN]
  | succ n ih =>
    intro h
    have h1 := ih fun i hi => h i (by omega)
    have h2 := h n (by omega)
    rw [sumN, show ((n + 1 : Nat) : Int) = n + 1 by omega, Int.mul_add]
    omega
/-- How much the replicas weigh, service by service. -/
theorem sum_weights (c : Nat → Int) (n : Nat) : ∀ {l : List Rep}, (∀ r ∈ l, 0 ≤ r.svc ∧ r.svc < n) → sumN (fun i => (((whereD l i).length : Nat) : Int) * c i) n = (l.map fun r => c r.svc.toNat).sum := by
  intro l
  induction l with
  | nil => intro _; simp [whereD, sumN_zero]
  | cons r l ih =>
    intro h
    have h0 := h r (by simp)
    obtain ⟨a, ha⟩ : ∃ a : Nat, r.svc = a := ⟨r.svc.toNat, by omega⟩
    rw [List.map_cons, List.sum_cons, ← ih fun x hx => h x (by simp [hx])]
    have e : ∀ i, i < n → (((whereD (r :: l) i).length : Nat) : Int) * c i = (if a = i then c a else 0) + (((whereD l i).length : Nat) : Int) * c i := by
      intro i hi
      unfold whereD
      rw [List.filter_cons]
      by_cases e : a = i
      · subst e
        rw [if_pos (by rw [ha]; simp), if_pos rfl, List.map_cons, List.length_cons, Int.natCast_add, Int.add_mul]
        simp; omega
      · rw [if_neg (by rw [ha]; simp; omega), if_neg e]; omega
    rw [sumN_ext e, sumN_add, sumN_one, if_pos (by omega), ha]
    simp
theorem sum_runs (n : Nat) {l : List Rep} (h : ∀ r ∈ l, 0 ≤ r.svc ∧ r.svc < n) : sumN (fun i => (((whereD l i).length : Nat) : Int)) n = l.length := by
  have := sum_weights (fun _ => 1) n h
  simp only [Int.mul_one] at this
  rw [this]
  clear this h
  induction l with
  | nil => rfl
  | cons x l ih => rw [List.map_cons, List.sum_cons, ih, List.length_cons]; omega
/-- The cores in use where no sum wraps around. -/
def usedN (ss : List Svc) (l : List Rep) (host : Int) : Int := (l.map fun r => if r.host = host then coresAt ss r.svc else 0).sum
theorem used_eq {ss : List Svc} {host : Int} (hc : ∀ s ∈ ss, 1 ≤ s.cores ∧ s.cores ≤ 1000) : ∀ {l : List Rep}, (∀ r ∈ l, 0 ≤ r.svc ∧ r.svc < ss.length) → l.length ≤ 100 → ∀ acc : Int, 0 ≤ acc → acc ≤ 1000 * (100 - l.length) → l.foldl (usedStep ss host) acc = acc + usedN ss l host ∧ 0 ≤ usedN ss l host ∧ usedN ss l host ≤ 1000 * l.length := by
  intro l
  induction l with
  | nil => intro _ _ acc _ _; simp [usedN]
  | cons r l ih =>
    intro h hl acc h0 h1
    rw [List.length_cons] at hl h1
    have hr := h r (by simp)
    have hcr : 1 ≤ coresAt ss r.svc ∧ coresAt ss r.svc ≤ 1000 := by
      have hlt : r.svc.toNat < ss.length := by omega
      unfold coresAt
      rw [List.getElem?_eq_getElem hlt]
      exact hc _ (List.getElem_mem hlt)
    have hix : ixB r.svc ss.length = true := ixB_iff.2 hr
    rw [List.foldl_cons]
    have hN : usedN ss (r :: l) host = (if r.host = host then coresAt ss r.svc else 0) + usedN ss l host := by simp [usedN]
    have hstep : usedStep ss host acc r = acc + if r.host = host then coresAt ss r.svc else 0 := by
      unfold usedStep
      rw [hix, Bool.and_true]
      by_cases e : r.host = host
      · rw [if_pos (by simp [e]), if_pos e]
        unfold IntKind.wrap
        simp [IntKind.signed, IntKind.bits]
        omega
      · rw [if_neg (by simp [e]), if_neg e]; simp
    have key := ih (fun x hx => h x (by simp [hx])) (by omega) (usedStep ss host acc r) (by rw [hstep]; split <;> omega) (by rw [hstep]; split <;> omega)
    rw [key.1, hN, hstep, List.length_cons]
    refine ⟨by omega, ?_, ?_⟩
    · split <;> omega
    · split <;> omega
theorem sum_used {ss : List Svc} (nh : Nat) : ∀ {l : List Rep}, (∀ r ∈ l, 0 ≤ r.host ∧ r.host < nh) → sumN (fun i => usedN ss l i) nh = (l.map fun r => coresAt ss r.svc).sum := by
  intro l
  induction l with
  | nil => intro _; simp [usedN, sumN_zero]
  | cons r l ih =>
    intro h
    have h0 := h r (by simp)
    obtain ⟨a, ha⟩ : ∃ a : Nat, r.host = a := ⟨r.host.toNat, by omega⟩
    rw [List.map_cons, List.sum_cons, ← ih fun x hx => h x (by simp [hx])]
    have e : ∀ i, i < nh → usedN ss (r :: l) i = (if a = i then coresAt ss r.svc else 0) + usedN ss l i := by
      intro i hi
      unfold usedN
      rw [List.map_cons, List.sum_cons, ha]
      congr 1
      by_cases e : a = i
      · rw [if_pos e, if_pos (by omega)]
      · rw [if_neg e, if_neg (by omega)]
    rw [sumN_ext e, sumN_add, sumN_one, if_pos (by omega)]
theorem where_len (l : List Rep) (s : Int) : (whereD l s).length ≤ l.length := by
  unfold whereD; rw [List.length_map]; exact List.length_filter_le _ _
theorem where_host {l : List Rep} {s x : Int} (h : x ∈ whereD l s) : ∃ r ∈ l, r.host = x := by
  unfold whereD at h
  obtain ⟨r, hr, e⟩ := List.mem_map.1 h
  exact ⟨r, (List.mem_filter.1 hr).1, e⟩
/-- What the law of sums adds up. -/
theorem sums_ok {s : SiteD} {ss : List Svc} {w : WorldD} (h : WorldOk s ss w) :
    sumN (fun i => (((whereD w.reps i).length : Nat) : Int)) ss.length = w.reps.length ∧
    sumN (fun i => (((whereD w.reps i).length : Nat) : Int) * coresAt ss i) ss.length = sumN (fun i => usedD ss w.reps i) s.hosts.length ∧
    (∀ i : Int, 0 ≤ usedD ss w.reps i ∧ usedD ss w.reps i ≤ 24000) ∧ (∀ i : Nat, i < ss.length → 1 ≤ coresAt ss i ∧ coresAt ss i ≤ 1000) := by
  obtain ⟨h1, ⟨h2, h3, h4⟩, h5, h6, h7, h8, h9⟩ := h
  have hsv : ∀ r ∈ w.reps, 0 ≤ r.svc ∧ r.svc < ss.length := fun r hr => by
    have := h8 r hr
    unfold repOk at this
    rw [Bool.and_eq_true, ixB_iff, ixB_iff] at this
    exact this.1
  have hho : ∀ r ∈ w.reps, 0 ≤ r.host ∧ r.host < s.hosts.length := fun r hr => by
    have := h8 r hr
    unfold repOk at this
    rw [Bool.and_eq_true, ixB_iff, ixB_iff] at this
    exact this.2
  have hco : ∀ x ∈ ss, 1 ≤ x.cores ∧ x.cores ≤ 1000 := fun x hx => by
    obtain ⟨i, hi⟩ := List.getElem?_of_mem hx
    have := h3 i x hi
    unfold svcB at this
    rw [Bool.and_eq_true, keepB_iff] at this
    exact this.1.1
  have hu : ∀ i : Int, usedD ss w.reps i = usedN ss w.reps i ∧ 0 ≤ usedN ss w.reps i ∧ usedN ss w.reps i ≤ 1000 * w.reps.length := fun i => by
    have := used_eq (host := i) hco hsv (by omega) 0 (by omega) (by omega)
    unfold usedD
    rw [this.1]
    exact ⟨by omega, this.2⟩
  refine ⟨sum_runs _ hsv, ?_, fun i => ?_, fun i hi => ?_⟩
  · rw [sum_weights (fun i => coresAt ss i) _ hsv, sumN_ext (fun i _ => (hu i).1), sum_used _ hho]
    rfl
  · have := hu i; omega
  · unfold coresAt
    rw [show ((i : Nat) : Int).toNat = i by omega, List.getElem?_eq_getElem hi]
    exact hco _ (List.getElem_mem hi)
end Go.Proofs.YtbbadnlaelgmlaaGreat

namespace Go.Proofs.YtbbadnlaelgmlaaGreat
open Go.RowKit
attribute [local go_sem] Oper.semAt_some
set_option maxRecDepth 100000
set_option linter.unusedVariables false
set_option linter.unusedSimpArgs false

theorem wrap_in {x : Int} (h : -9223372036854775808 ≤ x) (h2 : x ≤ 9223372036854775807) : IntKind.i64.wrap x = x := by
  unfold IntKind.wrap
  simp [IntKind.signed, IntKind.bits]
  omega
/-- Rows of k cells, as a slice's address and capacity. -/
def Rv {α : Type} (k : Nat) (F : α → Nat → Value) (w : World) (A : Option Addr) (c : Nat) (l : List α) : Prop :=
  l.length ≤ c ∧ c ≤ maxLen ∧ (A = none → c = 0) ∧ (0 < l.length → ∃ b o, A = some ⟨b, o, none⟩ ∧ b < w.heap.size ∧ ∀ (j : Nat) (x : α), l[j]? = some x → ∀ i, i < k → w.cell? ⟨b, o + j * k + i, none⟩ = some (F x i))
section
variable {α : Type} {k : Nat} {F : α → Nat → Value} {w w' : World} {A : Option Addr} {c : Nat} {l : List α}
theorem Rv.on {B : Nat} (h : Rv k F w A c l) (hb : Below B w w') (hB : w.heap.size ≤ B) : Rv k F w' A c l := by
  obtain ⟨h1, h2, h3, h4⟩ := h
  refine ⟨h1, h2, h3, fun h0 => ?_⟩
  obtain ⟨b, o, e, hlt, hc⟩ := h4 h0
  exact ⟨b, o, e, Nat.lt_of_lt_of_le hlt hb.size, fun j x hj i hi => (hb.cell (p := ⟨b, o + j * k + i, none⟩) (by show b < B; omega)).trans (hc j x hj i hi)⟩
theorem Rv.at_ (h : Rv k F w A c l) {j : Nat} {x : α} (hj : l[j]? = some x) : ∃ b o, A = some ⟨b, o, none⟩ ∧ b < w.heap.size ∧ ∀ i, i < k → w.cell? ⟨b, o + j * k + i, none⟩ = some (F x i) := by
  obtain ⟨h1, h2, -, h4⟩ := h
  obtain ⟨b, o, e, hlt, hc⟩ := h4 (by have := (List.getElem?_eq_some_iff.1 hj).1; omega)
  exact ⟨b, o, e, hlt, fun i hi => hc j x hj i hi⟩
theorem Rv.nil (w : World) : Rv k F w none 0 ([] : List α) := ⟨Nat.le_refl _, Nat.zero_le _, fun _ => rfl, fun h => absurd h (Nat.lt_irrefl _)⟩
theorem Rv.take (h : Rv k F w A c l) (m : Nat) (hm : m ≤ l.length) : Rv k F w A c (l.take m) := by
  obtain ⟨h1, h2, h3, h4⟩ := h
  have hl : (l.take m).length = m := by rw [List.length_take]; omega
  refine ⟨by omega, h2, h3, fun h0 => ?_⟩
  obtain ⟨b, o, e, hlt, hc⟩ := h4 (by omega)
  refine ⟨b, o, e, hlt, fun j x hj => hc j x ?_⟩
  rw [List.getElem?_take] at hj
  split at hj
  · exact hj
  · cases hj
theorem Rv.drop {b o : Nat} (h : Rv k F w (some ⟨b, o, none⟩) c l) (m : Nat) (hm : m ≤ l.length) : Rv k F w (some ⟨b, o + m * k, none⟩) (c - m) (l.drop m) := by
  obtain ⟨h1, h2, h3, h4⟩ := h
  refine ⟨by simp; omega, by omega, (by intro h; cases h), fun h0 => ?_⟩
  obtain ⟨b', o', e, hlt, hc⟩ := h4 (by simp at h0; omega)
  injection e with e
  injection e with e1 e2
  subst e1 e2
  refine ⟨b, o + m * k, rfl, hlt, fun j x hj i hi => ?_⟩
  rw [List.getElem?_drop] at hj
  have := hc (m + j) x hj i hi
  rwa [show o + (m + j) * k + i = o + m * k + j * k + i by rw [Nat.add_mul]; omega] at this
end
/-- Rows as cells. -/
def cellsV {α : Type} (k : Nat) (F : α → Nat → Value) (l : List α) : List Value := l.flatMap fun x => (List.range k).map fun i => F x i
section
variable {α : Type} {k : Nat} {F : α → Nat → Value}
theorem cellsV_at : ∀ {l : List α} {j : Nat} {x : α}, l[j]? = some x → ∀ i, i < k → (cellsV k F l)[j * k + i]? = some (F x i) := by
  intro l
  induction l with
  | nil => intro j x h; simp at h
  | cons y l ih =>
    intro j x h i hi
    have e : cellsV k F (y :: l) = ((List.range k).map fun i => F y i) ++ cellsV k F l := rfl
    rw [e]
    cases j with
    | zero =>
      simp at h
      subst h
      rw [Nat.zero_mul, Nat.zero_add, List.getElem?_append_left (by simp; omega)]
      simp [hi]
    | succ j =>
      rw [List.getElem?_append_right (by simp; rw [Nat.succ_mul]; omega)]
      have := ih (j := j) (x := x) (by simpa using h) i hi
      rw [show (j + 1) * k + i - (List.map (fun i => F y i) (List.range k)).length = j * k + i by simp [Nat.succ_mul]; omega]
      exact this
theorem cellsV_len (l : List α) : (cellsV k F l).length = l.length * k := by
  induction l with
  | nil => simp [cellsV]
  | cons y l ih =>
    have e : cellsV k F (y :: l) = ((List.range k).map fun i => F y i) ++ cellsV k F l := rfl
    rw [e, List.length_append, ih, List.length_cons, Nat.succ_mul]
    simp; omega
theorem cellsV_append (l m : List α) : cellsV k F (l ++ m) = cellsV k F l ++ cellsV k F m := by simp [cellsV]
/-- What lies in the cells behind a slice's address. -/
theorem Rv.cells {w : World} {A : Option Addr} {c : Nat} {l : List α} (h : Rv k F w A c l) (hk : 0 < k) : ∀ ad, A = some ad → ∀ j u, (cellsV k F l)[j]? = some u → w.cell? (ad.add j) = some u := by
  intro ad hA j u hj
  have hjl := (List.getElem?_eq_some_iff.1 hj).1
  rw [cellsV_len] at hjl
  have hq : j / k < l.length := Nat.div_lt_of_lt_mul (by rw [Nat.mul_comm]; exact hjl)
  obtain ⟨x, hx⟩ : ∃ x, l[j / k]? = some x := ⟨_, List.getElem?_eq_getElem hq⟩
  obtain ⟨b, o, e, -, hc⟩ := h.at_ hx
  rw [hA] at e
  injection e with e
  subst e
  have hr : j % k < k := Nat.mod_lt _ hk
  have hd : j / k * k + j % k = j := by rw [Nat.mul_comm]; exact Nat.div_add_mod j k
  have h1 := cellsV_at (F := F) hx (j % k) hr
  rw [hd, hj] at h1
  injection h1 with h1
  have h2 := hc (j % k) hr
  rw [show o + j / k * k + j % k = o + j by omega] at h2
  rw [h1]
  have e : (⟨b, o, none⟩ : Addr).add j = ⟨b, o + j, none⟩ := by unfold Addr.add; split <;> simp_all
  rw [e]; exact h2
/-- A block of rows is a list in memory. -/
theorem rv_block {l : List α} {w : World} {b : Nat} {T : TypeId} (h : w.heap[b]? = some (.cells (cellsV k F l).toArray T (0, 0))) (hl : l.length ≤ maxLen) : Rv k F w (some ⟨b, 0, none⟩) l.length l := by
  refine ⟨Nat.le_refl _, hl, (by intro h; cases h), fun _ => ⟨b, 0, rfl, at_lt h, fun j x hj i hi => ?_⟩⟩
  rw [Nat.zero_add]
  refine cell_of h ?_
  have := cellsV_at (F := F) hj i hi
  simpa using this
/-- A list that a walk has made is a list in memory. -/
theorem own_rv {w : World} {base : Nat} {T : TypeId} {v : Value} {l : List α} (h : w.ownsRow base T k v l.length (cellsV k F l)) : ∃ A c, v = .slice A l.length c ∧ Rv k F w A c l := by
  have hc := h
  obtain ⟨k1, ⟨e, e2⟩ | ⟨g, cap, cur, e, k3, k4, k5, k6, k7, k8⟩⟩ := h
  · subst e
    obtain rfl : l = [] := List.eq_nil_of_length_eq_zero e2
    exact ⟨none, 0, rfl, Rv.nil _⟩
  · subst e
    refine ⟨some ⟨g, 0, none⟩, cap, rfl, k5, k6, (by intro h; cases h), fun _ => ⟨g, 0, rfl, at_lt k4, fun j x hj i hi => ?_⟩⟩
    have h1 := cellsV_at (F := F) hj i hi
    have h2 := (List.getElem?_eq_some_iff.1 h1).1
    have := hc.cellAt (j * k + i) (by rwa [cellsV_len] at h2)
    rw [show 0 + j * k + i = j * k + i by omega, this, h1]
end
theorem rv_int {α : Type} {k : Nat} {G : α → Nat → Int} {w : World} {A : Option Addr} {c : Nat} {l : List α} (h : Rv k (fun x i => .int .i64 (G x i)) w A c l) : Rw k G w A c l := ⟨h.1, h.2.1, h.2.2.2⟩
def hstV (x : Hst) : Nat → Value
  | 0 => .int .u8 (x.phase : Int)
  | _ => .int .i64 x.fw
def repV (x : Rep) : Nat → Value
  | 0 => .int .i64 x.svc
  | _ => .int .i64 x.host
def nrV (x : Nr) : Nat → Value
  | 0 => .int .i64 x.svc
  | _ => .int .i64 x.lat
def inV (x : Int) (_ : Nat) : Value := .int .i64 x
/-- Where a service's lists lie. -/
structure SvA where
  a1 : Option Addr
  c1 : Nat
  a2 : Option Addr
  c2 : Nat
def svV (x : Svc × SvA) : Nat → Value
  | 0 => .int .i64 x.1.cores
  | 1 => .int .i64 x.1.reps
  | 2 => .int .i64 x.1.least
  | 3 => .int .u8 (x.1.dom : Int)
  | 4 => .int .i64 x.1.spread
  | 5 => .slice x.2.a1 x.1.apart.length x.2.c1
  | 6 => .slice x.2.a2 x.1.near.length x.2.c2
  | _ => .int .i64 x.1.fw
def svA (x : Svc × SvA) : Array Value := #[.int .i64 x.1.cores, .int .i64 x.1.reps, .int .i64 x.1.least, .int .u8 (x.1.dom : Int), .int .i64 x.1.spread, .slice x.2.a1 x.1.apart.length x.2.c1, .slice x.2.a2 x.1.near.length x.2.c2, .int .i64 x.1.fw]
/-- A service's lists. -/
structure SvAt (w : World) (x : Svc × SvA) : Prop where
  apart : Rv 1 inV w x.2.a1 x.2.c1 x.1.apart
  near : Rv 2 nrV w x.2.a2 x.2.c2 x.1.near
  dom : x.1.dom < 256
theorem SvAt.on {w w' : World} {x : Svc × SvA} {B : Nat} (h : SvAt w x) (hb : Below B w w') (hB : w.heap.size ≤ B) : SvAt w' x := ⟨h.apart.on hb hB, h.near.on hb hB, h.dom⟩
/-- A wish's services in memory. -/
structure WiAt (w : World) (A : Option Addr) (c : Nat) (xs : List (Svc × SvA)) : Prop where
  row : Rv 8 svV w A c xs
  each : ∀ x ∈ xs, SvAt w x
theorem WiAt.on {w w' : World} {A : Option Addr} {c : Nat} {xs : List (Svc × SvA)} {B : Nat} (h : WiAt w A c xs) (hb : Below B w w') (hB : w.heap.size ≤ B) : WiAt w' A c xs := ⟨h.row.on hb hB, fun x hx => (h.each x hx).on hb hB⟩
def svs (xs : List (Svc × SvA)) : List Svc := xs.map (·.1)
theorem svs_len (xs : List (Svc × SvA)) : (svs xs).length = xs.length := by simp [svs]
theorem svs_at {xs : List (Svc × SvA)} {i : Nat} {x : Svc × SvA} (h : xs[i]? = some x) : (svs xs)[i]? = some x.1 := by simp [svs, h]
/-- Where a world's lists lie. -/
structure WP where
  a1 : Option Addr
  c1 : Nat
  a2 : Option Addr
  c2 : Nat
def woA (p : WP) (d : WorldD) : Array Value := #[.slice p.a1 d.hosts.length p.c1, .slice p.a2 d.reps.length p.c2]
structure WoAt (w : World) (p : WP) (d : WorldD) : Prop where
  hosts : Rv 2 hstV w p.a1 p.c1 d.hosts
  reps : Rv 2 repV w p.a2 p.c2 d.reps
  phase : ∀ h ∈ d.hosts, h.phase < 256
theorem WoAt.on {w w' : World} {p : WP} {d : WorldD} {B : Nat} (h : WoAt w p d) (hb : Below B w w') (hB : w.heap.size ≤ B) : WoAt w' p d := ⟨h.hosts.on hb hB, h.reps.on hb hB, h.phase⟩
def WoBox (w : World) (b : Nat) (p : WP) (d : WorldD) : Prop := w.heap[b]? = some (.cells (woA p d) 36 (0, 0))
theorem WoBox.on {w w' : World} {b : Nat} {p : WP} {d : WorldD} {B : Nat} (h : WoBox w b p d) (hb : Below B w w') (hB : w.heap.size ≤ B) : WoBox w' b p d := (hb.block _ (Nat.lt_of_lt_of_le (at_lt h) hB)).trans h
theorem WoBox.c0 {w : World} {b : Nat} {p : WP} {d : WorldD} (h : WoBox w b p d) : w.cell? ⟨b, 0, none⟩ = some (.slice p.a1 d.hosts.length p.c1) := cell_of h rfl
theorem WoBox.c1 {w : World} {b : Nat} {p : WP} {d : WorldD} (h : WoBox w b p d) : w.cell? ⟨b, 1, none⟩ = some (.slice p.a2 d.reps.length p.c2) := cell_of h rfl
def WiBox (w : World) (b : Nat) (A : Option Addr) (n c : Nat) : Prop := w.heap[b]? = some (.cells #[.slice A n c] 32 (0, 0))
theorem WiBox.on {w w' : World} {b : Nat} {A : Option Addr} {n c B : Nat} (h : WiBox w b A n c) (hb : Below B w w') (hB : w.heap.size ≤ B) : WiBox w' b A n c := (hb.block _ (Nat.lt_of_lt_of_le (at_lt h) hB)).trans h
theorem WiBox.c0 {w : World} {b : Nat} {A : Option Addr} {n c : Nat} (h : WiBox w b A n c) : w.cell? ⟨b, 0, none⟩ = some (.slice A n c) := cell_of h rfl
theorem box_new (w : World) (cs : Array Value) (T : TypeId) : (w.alloc (.cells cs T)).heap[w.heap.size]? = some (.cells cs T (0, 0)) := heap_alloc_new _ _
theorem box_on {w w' : World} {b : Nat} {o : Obj} {B : Nat} (h : w.heap[b]? = some o) (hb : Below B w w') (hB : w.heap.size ≤ B) : w'.heap[b]? = some o := (hb.block _ (Nat.lt_of_lt_of_le (at_lt h) hB)).trans h
theorem rep_at {w : World} {b o c : Nat} {l : List Rep} (h : Rv 2 repV w (some ⟨b, o, none⟩) c l) {j : Nat} {x : Rep} (hj : l[j]? = some x) : w.cell? ⟨b, o + j * 2, none⟩ = some (.int .i64 x.svc) ∧ w.cell? ⟨b, o + j * 2 + 1, none⟩ = some (.int .i64 x.host) := by
  obtain ⟨b', o', e, -, h0⟩ := h.at_ hj
  injection e with e
  injection e with e1 e2
  subst e1 e2
  exact ⟨h0 0 (by omega), h0 1 (by omega)⟩
theorem hst_at {w : World} {b o c : Nat} {l : List Hst} (h : Rv 2 hstV w (some ⟨b, o, none⟩) c l) {j : Nat} {x : Hst} (hj : l[j]? = some x) : w.cell? ⟨b, o + j * 2, none⟩ = some (.int .u8 (x.phase : Int)) ∧ w.cell? ⟨b, o + j * 2 + 1, none⟩ = some (.int .i64 x.fw) := by
  obtain ⟨b', o', e, -, h0⟩ := h.at_ hj
  injection e with e
  injection e with e1 e2
  subst e1 e2
  exact ⟨h0 0 (by omega), h0 1 (by omega)⟩
theorem near_at {w : World} {b o c : Nat} {l : List Nr} (h : Rv 2 nrV w (some ⟨b, o, none⟩) c l) {j : Nat} {x : Nr} (hj : l[j]? = some x) : w.cell? ⟨b, o + j * 2, none⟩ = some (.int .i64 x.svc) ∧ w.cell? ⟨b, o + j * 2 + 1, none⟩ = some (.int .i64 x.lat) := by
  obtain ⟨b', o', e, -, h0⟩ := h.at_ hj
  injection e with e
  injection e with e1 e2
  subst e1 e2
  exact ⟨h0 0 (by omega), h0 1 (by omega)⟩
theorem int_at {w : World} {b o c : Nat} {l : List Int} (h : Rv 1 inV w (some ⟨b, o, none⟩) c l) {j : Nat} {x : Int} (hj : l[j]? = some x) : w.cell? ⟨b, o + j, none⟩ = some (.int .i64 x) := by
  obtain ⟨b', o', e, -, h0⟩ := h.at_ hj
  injection e with e
  injection e with e1 e2
  subst e1 e2
  have := h0 0 (by omega)
  rwa [Nat.mul_one, Nat.add_zero] at this
theorem sv_at {w : World} {b o c : Nat} {l : List (Svc × SvA)} (h : Rv 8 svV w (some ⟨b, o, none⟩) c l) {j : Nat} {x : Svc × SvA} (hj : l[j]? = some x) :
    w.cell? ⟨b, o + j * 8, none⟩ = some (.int .i64 x.1.cores) ∧ w.cell? ⟨b, o + j * 8 + 1, none⟩ = some (.int .i64 x.1.reps) ∧ w.cell? ⟨b, o + j * 8 + 2, none⟩ = some (.int .i64 x.1.least) ∧ w.cell? ⟨b, o + j * 8 + 3, none⟩ = some (.int .u8 (x.1.dom : Int)) ∧ w.cell? ⟨b, o + j * 8 + 4, none⟩ = some (.int .i64 x.1.spread) ∧ w.cell? ⟨b, o + j * 8 + 5, none⟩ = some (.slice x.2.a1 x.1.apart.length x.2.c1) ∧ w.cell? ⟨b, o + j * 8 + 6, none⟩ = some (.slice x.2.a2 x.1.near.length x.2.c2) ∧ w.cell? ⟨b, o + j * 8 + 7, none⟩ = some (.int .i64 x.1.fw) := by
  obtain ⟨b', o', e, -, h0⟩ := h.at_ hj
  injection e with e
  injection e with e1 e2
  subst e1 e2
  exact ⟨h0 0 (by omega), h0 1 (by omega), h0 2 (by omega), h0 3 (by omega), h0 4 (by omega), h0 5 (by omega), h0 6 (by omega), h0 7 (by omega)⟩
end Go.Proofs.YtbbadnlaelgmlaaGreat
