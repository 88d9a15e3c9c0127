/-
  DERIVED. The functions that say in which domain a host is (stage 12).
-/
import Derived.Test.YtoknombajocjlaaCA
import Derived.RegionTactic
import Derived.Deep.RegionHeld3
namespace Go.Proofs.Ytoknombajocjlaa
open Go.RowKit
set_option maxRecDepth 100000
set_option linter.unusedVariables false
set_option linter.unusedSimpArgs false

theorem set_field {W : World} {b o : Nat} {cs : Array Value} {T : TypeId} (h : W.heap[b]? = some (.cells cs T (0, 0))) (v : Value) : (W.setCell ⟨b, o, none⟩ v).heap[b]? = some (.cells (cs.setIfInBounds o v) T (0, 0)) := by
  simp only [World.setCell, Array.getElem?_modify, if_pos trivial, h]
  simp
theorem frz {X : World} {b : Nat} {cs : Array Value} {T : TypeId} (h : X.heap[b]? = some (.cells cs T (0, 0))) (o : Nat) : X.frozen? ⟨b, o, none⟩ = false := by
  simp [World.frozen?, h]
theorem row_store4 {W : World} {b : Nat} {y0 y1 y2 y3 : Value} {T : TypeId} (h : W.heap[b]? = some (.cells #[y0, y1, y2, y3] T (0, 0))) (x0 x1 x2 x3 : Value) :
    ((((W.setCell ⟨b, 0, none⟩ x0).setCell ⟨b, 1, none⟩ x1).setCell ⟨b, 2, none⟩ x2).setCell ⟨b, 3, none⟩ x3).heap[b]? = some (.cells #[x0, x1, x2, x3] T (0, 0)) :=
  set_field (set_field (set_field (set_field h x0) x1) x2) x3
theorem ret4 {fn : Func} {a : Act} {W : World} {R : Ending → World → Prop} {b i : Nat} {x0 x1 x2 x3 : Value} (hfn : fn.results = #[.cell i 54]) (hp : a.tmps[i]?.getD undef = .pointer (some ⟨b, 0, none⟩)) (hd : a.defers = [])
    (h : W.heap[b]? = some (.cells #[x0, x1, x2, x3] 54 (0, 0))) (hR : R (.returned (.agg #[x0, x1, x2, x3])) W) : bodyPost Try.prog fn R .ret a W := by
  have c0 : W.cell? ⟨b, 0, none⟩ = some x0 := cell_of h rfl
  have c1 : W.cell? ⟨b, 1, none⟩ = some x1 := cell_of h rfl
  have c2 : W.cell? ⟨b, 2, none⟩ = some x2 := cell_of h rfl
  have c3 : W.cell? ⟨b, 3, none⟩ = some x3 := cell_of h rfl
  exact bodyPost_ret (v := .agg #[x0, x1, x2, x3]) (by simp [results, hfn, hp, go_sem, c0, c1, c2, c3]) hd hR
def rkV (x : Rk) : Value := .agg #[.int .i64 x.row, .int .i64 x.brk, .int .i64 x.loop, .int .i64 x.sw]
/-- A host's row in memory. -/
theorem host_row {w : World} {p : SP} {s : SiteD} (h : SiAt w p s) {k : Nat} (hk : k < s.hosts.length) : ∃ b o, p.a6 = some ⟨b, o, none⟩ ∧ w.cell? ⟨b, o + k * 4, none⟩ = some (.int .i64 (rackAt s k)) := by
  have e : s.hosts[k]? = some s.hosts[k] := List.getElem?_eq_getElem hk
  obtain ⟨b, o, e1, -, h0⟩ := h.hosts.at_ e
  refine ⟨b, o, e1, ?_⟩
  have := h0 0 (by omega)
  unfold rackAt
  rw [e]
  simpa [hsF] using this
theorem rack_row {w : World} {p : SP} {s : SiteD} (h : SiAt w p s) {m : Nat} {x : Rk} (hm : s.racks[m]? = some x) : ∃ b o, p.a4 = some ⟨b, o, none⟩ ∧ w.cell? ⟨b, o + m * 4, none⟩ = some (.int .i64 x.row) ∧ w.cell? ⟨b, o + m * 4 + 1, none⟩ = some (.int .i64 x.brk) ∧ w.cell? ⟨b, o + m * 4 + 2, none⟩ = some (.int .i64 x.loop) ∧ w.cell? ⟨b, o + m * 4 + 3, none⟩ = some (.int .i64 x.sw) := by
  obtain ⟨b, o, e1, -, h0⟩ := h.racks.at_ hm
  exact ⟨b, o, e1, by simpa [rkF] using h0 0 (by omega), by simpa [rkF] using h0 1 (by omega), by simpa [rkF] using h0 2 (by omega), by simpa [rkF] using h0 3 (by omega)⟩
theorem brk_row {w : World} {p : SP} {s : SiteD} (h : SiAt w p s) {m : Nat} {x : Brk} (hm : s.brks[m]? = some x) : ∃ b o, p.a2 = some ⟨b, o, none⟩ ∧ w.cell? ⟨b, o + m * 4, none⟩ = some (.int .i64 x.feed) := by
  obtain ⟨b, o, e1, -, h0⟩ := h.brks.at_ hm
  exact ⟨b, o, e1, by simpa [brkF] using h0 0 (by omega)⟩
set_option maxHeartbeats 8000000 in
/-- rackOf. -/
theorem c_dom1 (bs : Nat) (p : SP) (s : SiteD) (hs : SiteOk s) (k : Nat) (hk : k < s.hosts.length) (w : World) (hbox : SiBox w bs p s) (hat : SiAt w p s) :
    Calls Try.prog 46 #[.int .i64 (k : Int), .pointer (some ⟨bs, 0, none⟩)] w fun e w' => e = .returned (rkV (rkAt s k)) ∧ Below w.heap.size w w' := by
  obtain ⟨m, hm, hm1, hmr, -⟩ := rk_ok hs hk
  obtain ⟨hb, ho, he, y0⟩ := host_row hat hk
  obtain ⟨rb, ro, hre, z0, z1, z2, z3⟩ := rack_row hat hmr
  rw [hm] at y0
  unfold rkV
  obtain ⟨V, hV⟩ : ∃ V, V = w.alloc (.cells #[.int .i64 0, .int .i64 0, .int .i64 0, .int .i64 0] 54) := ⟨_, rfl⟩
  have B0 : Below w.heap.size w V := by subst hV; exact (Below.refl _ _).alloc (Nat.le_refl _) _
  have HB0 := Lib.hid B0
  have HV := Lib.hid (show V.heap[w.heap.size]? = some (.cells #[.int .i64 0, .int .i64 0, .int .i64 0, .int .i64 0] 54 (0, 0)) by subst hV; exact heap_alloc_new _ _)
  have hbox2 := hbox.on B0 (Nat.le_refl _)
  have f3 := hbox2.c3
  have f6 := hbox2.c6
  rw [he] at f6
  rw [hre] at f3
  have hat2 := hat.on B0 (Nat.le_refl _)
  obtain ⟨hb', ho', he', y0⟩ := host_row hat2 hk
  obtain ⟨rb', ro', hre', z0, z1, z2, z3⟩ := rack_row hat2 hmr
  rw [hm] at y0
  rw [he] at he'
  rw [hre] at hre'
  injection he' with he'
  injection he' with e1 e2
  subst e1 e2
  injection hre' with hre'
  injection hre' with e1 e2
  subst e1 e2
  have v0 : V.cell? ⟨w.heap.size, 0, none⟩ = some (.int .i64 0) := cell_of HV.out rfl
  have v1 : V.cell? ⟨w.heap.size, 1, none⟩ = some (.int .i64 0) := cell_of HV.out rfl
  have v2 : V.cell? ⟨w.heap.size, 2, none⟩ = some (.int .i64 0) := cell_of HV.out rfl
  have v3 : V.cell? ⟨w.heap.size, 3, none⟩ = some (.int .i64 0) := cell_of HV.out rfl
  have u0 := frz HV.out 0
  have u1 := frz HV.out 1
  have u2 := frz HV.out 2
  have u3 := frz HV.out 3
  have hkk : (k : Int) < ((s.hosts.length : Nat) : Int) := by omega
  have hmm : (m : Int) < ((s.racks.length : Nat) : Int) := by omega
  have ht1 : ((k : Nat) : Int).toNat = k := by omega
  have ht2 : ((m : Nat) : Int).toNat = m := by omega
  have m4 := hat.racks.1; have m6 := hat.hosts.1
  have n4 := hat.racks.2.1; have n6 := hat.hosts.2.1
  unfold maxLen at n4 n6
  clear hbox hbox2 hat hat2 he hre hmr B0 hs hm
  rw [hV] at f3 f6 y0 z0 z1 z2 z3 v0 v1 v2 v3 u0 u1 u2 u3
  go_enter Try.func46, Try.ntmps46
  go_wp2_with (fail)
  rw [← hV] at f3 f6 y0 z0 z1 z2 z3 v0 v1 v2 v3 u0 u1 u2 u3 ⊢
  clear hV
  go_region
  go_wp2
  refine ret4 (i := 3) (b := w.heap.size) rfl rfl rfl (row_store4 HV.out _ _ _ _) ⟨rfl, ?_⟩
  exact ((((HB0.out.setCell (p := ⟨w.heap.size, 0, none⟩) (Nat.le_refl _) _).setCell (p := ⟨w.heap.size, 1, none⟩) (Nat.le_refl _) _).setCell (p := ⟨w.heap.size, 2, none⟩) (Nat.le_refl _) _).setCell (p := ⟨w.heap.size, 3, none⟩) (Nat.le_refl _) _).drew
set_option maxHeartbeats 4000000 in
theorem c_dom2 (k : Int) (w : World) : Calls Try.prog 47 #[.int .i64 k] w fun e w' => e = .returned (.int .i64 k) ∧ Below w.heap.size w w' := by
  go_enter Try.func47, Try.ntmps47
  go_wp2
  go_ret
  exact ⟨rfl, Below.refl _ _⟩
set_option maxHeartbeats 4000000 in
theorem c_dom3 (bs : Nat) (p : SP) (s : SiteD) (k : Nat) (hk : k < s.hosts.length) (w : World) (hbox : SiBox w bs p s) (hat : SiAt w p s) :
    Calls Try.prog 48 #[.int .i64 (k : Int), .pointer (some ⟨bs, 0, none⟩)] w fun e w' => e = .returned (.int .i64 (rackAt s k)) ∧ Below w.heap.size w w' := by
  obtain ⟨hb, ho, he, y0⟩ := host_row hat hk
  have f6 := hbox.c6
  rw [he] at f6
  have hkk : (k : Int) < ((s.hosts.length : Nat) : Int) := by omega
  have ht1 : ((k : Nat) : Int).toNat = k := by omega
  have m6 := hat.hosts.1
  have n6 := hat.hosts.2.1
  unfold maxLen at n6
  clear hbox hat he
  go_enter Try.func48, Try.ntmps48
  go_wp2
  go_ret
  exact ⟨rfl, Below.refl _ _⟩
theorem rk_field0 (a b c d : Int) (w : World) : (Instr.field 54 (.agg #[.int .i64 a, .int .i64 b, .int .i64 c, .int .i64 d]) 0).run Try.prog w = .ok (.int .i64 a) w := by kernel_rfl
theorem rk_field1 (a b c d : Int) (w : World) : (Instr.field 54 (.agg #[.int .i64 a, .int .i64 b, .int .i64 c, .int .i64 d]) 1).run Try.prog w = .ok (.int .i64 b) w := by kernel_rfl
theorem rk_field2 (a b c d : Int) (w : World) : (Instr.field 54 (.agg #[.int .i64 a, .int .i64 b, .int .i64 c, .int .i64 d]) 2).run Try.prog w = .ok (.int .i64 c) w := by kernel_rfl
/-- The box of rackOf. -/
def RkBox (w : World) (bt bs : Nat) : Prop := w.heap[bt]? = some (.cells #[.func (.func 46) #[] #[.pointer (some ⟨bs, 0, none⟩)]] 80 (0, 0))
theorem RkBox.on {w w' : World} {bt bs B : Nat} (h : RkBox w bt bs) (hb : Below B w w') (hB : w.heap.size ≤ B) : RkBox w' bt bs := (hb.block _ (Nat.lt_of_lt_of_le (at_lt h) hB)).trans h
theorem RkBox.c0 {w : World} {bt bs : Nat} (h : RkBox w bt bs) : w.cell? ⟨bt, 0, none⟩ = some (.func (.func 46) #[] #[.pointer (some ⟨bs, 0, none⟩)]) := cell_of h rfl
set_option maxHeartbeats 4000000 in
theorem c_dom4 (bs bt : Nat) (p : SP) (s : SiteD) (hs : SiteOk s) (k : Nat) (hk : k < s.hosts.length) (w : World) (hbox : SiBox w bs p s) (hat : SiAt w p s) (hrk : RkBox w bt bs) :
    Calls Try.prog 49 #[.int .i64 (k : Int), .pointer (some ⟨bt, 0, none⟩)] w fun e w' => e = .returned (.int .i64 (rkAt s k).row) ∧ Below w.heap.size w w' := by
  have HC := Lib.hid (c_dom1 bs p s hs k hk w hbox hat)
  unfold rkV at HC
  have f0 := hrk.c0
  clear hbox hat hrk
  have hfd := fun X : World => rk_field0 (rkAt s k).row (rkAt s k).brk (rkAt s k).loop (rkAt s k).sw X
  go_enter Try.func49, Try.ntmps49
  go_wp2_with (fail)
  go_at_call 46
  refine HC.out.mono ?_
  rintro e w1 ⟨rfl, b1⟩
  have HB1 := Lib.hid b1
  clear b1
  go_wp2_with (fail)
  go_ret
  exact ⟨rfl, HB1.out⟩
set_option maxHeartbeats 4000000 in
theorem c_dom6 (bs bt : Nat) (p : SP) (s : SiteD) (hs : SiteOk s) (k : Nat) (hk : k < s.hosts.length) (w : World) (hbox : SiBox w bs p s) (hat : SiAt w p s) (hrk : RkBox w bt bs) :
    Calls Try.prog 51 #[.int .i64 (k : Int), .pointer (some ⟨bt, 0, none⟩)] w fun e w' => e = .returned (.int .i64 (rkAt s k).loop) ∧ Below w.heap.size w w' := by
  have HC := Lib.hid (c_dom1 bs p s hs k hk w hbox hat)
  unfold rkV at HC
  have f0 := hrk.c0
  clear hbox hat hrk
  have hfd := fun X : World => rk_field2 (rkAt s k).row (rkAt s k).brk (rkAt s k).loop (rkAt s k).sw X
  go_enter Try.func51, Try.ntmps51
  go_wp2_with (fail)
  go_at_call 46
  refine HC.out.mono ?_
  rintro e w1 ⟨rfl, b1⟩
  have HB1 := Lib.hid b1
  clear b1
  go_wp2_with (fail)
  go_ret
  exact ⟨rfl, HB1.out⟩
set_option maxHeartbeats 8000000 in
theorem c_dom5 (bs bt : Nat) (p : SP) (s : SiteD) (hs : SiteOk s) (k : Nat) (hk : k < s.hosts.length) (w : World) (hbox : SiBox w bs p s) (hat : SiAt w p s) (hrk : RkBox w bt bs) :
    Calls Try.prog 50 #[.int .i64 (k : Int), .pointer (some ⟨bs, 0, none⟩), .pointer (some ⟨bt, 0, none⟩)] w fun e w' => e = .returned (.int .i64 (feedAt s k)) ∧ Below w.heap.size w w' := by
  obtain ⟨m, x, hm, hm1, hmx, hfx, -⟩ := feed_ok hs hk
  obtain ⟨hb, ho, he, -⟩ := brk_row hat hmx
  have HC := Lib.hid (fun (X : World) (hX : Below w.heap.size w X) => c_dom1 bs p s hs k hk X (hbox.on hX (Nat.le_refl _)) (hat.on hX (Nat.le_refl _)))
  unfold rkV at HC
  have HF := Lib.hid (fun (X : World) (hX : Below w.heap.size w X) => (show X.cell? ⟨bs, 1, none⟩ = some (.slice (some ⟨hb, ho, none⟩) s.brks.length p.c2) ∧ X.cell? ⟨bt, 0, none⟩ = some (.func (.func 46) #[] #[.pointer (some ⟨bs, 0, none⟩)]) ∧ X.cell? ⟨hb, ho + m * 4, none⟩ = some (.int .i64 (feedAt s k)) from by
    refine ⟨?_, (hrk.on hX (Nat.le_refl _)).c0, ?_⟩
    · have := (hbox.on hX (Nat.le_refl _)).c1; rwa [he] at this
    · obtain ⟨b', o', e', h0⟩ := brk_row (hat.on hX (Nat.le_refl _)) hmx
      rw [he] at e'
      injection e' with e'
      injection e' with e1 e2
      subst e1 e2
      rw [hfx]
      exact h0))
  obtain ⟨f1, ft, fy⟩ := HF.out w (Below.refl _ _)
  have hmm : (m : Int) < ((s.brks.length : Nat) : Int) := by omega
  have ht2 : ((m : Nat) : Int).toNat = m := by omega
  have hc2 := hat.brks.1
  have n2 := hat.brks.2.1
  unfold maxLen at n2
  rw [hm] at HC
  clear hbox hat hrk he hmx hfx hm
  have hfd := fun X : World => rk_field1 (rkAt s k).row (m : Int) (rkAt s k).loop (rkAt s k).sw X
  go_enter Try.func50, Try.ntmps50
  go_wp2_with (fail)
  go_region_held3 (fun X => X.cell? ⟨bs, 1, none⟩ = some (.slice (some ⟨hb, ho, none⟩) s.brks.length p.c2) ∧ X.cell? ⟨bt, 0, none⟩ = some (.func (.func 46) #[] #[.pointer (some ⟨bs, 0, none⟩)]) ∧ X.cell? ⟨hb, ho + m * 4, none⟩ = some (.int .i64 (feedAt s k)))
    (first | exact HF.out w1 HB1.out | exact HF.out w (Below.refl _ _))
    (first
      | (go_at_call 46; (with_reducible refine (HC.out w.drew (Below.refl _ _).drew).mono ?_); rintro e w1 ⟨rfl, bb0⟩; have HB1 := Lib.hid (below_join (Below.refl w.heap.size w).drew bb0 (Nat.le_refl _)); clear bb0)
      | fail)
  go_wp2_with (fail)
  go_ret
  exact ⟨rfl, HB1.out⟩
end Go.Proofs.Ytoknombajocjlaa
