/-
  DERIVED. Several texts in one.
-/
import Derived.Test.YtidpiokkfnhobaaGreatPO2
import Derived.Test.YtidpiokkfnhobaaGreatPV53
set_option linter.unusedVariables false
set_option linter.unusedSimpArgs false

namespace Go.Proofs.YtidpiokkfnhobaaGreat
open Go.RowKit
set_option maxRecDepth 100000
set_option linter.unusedVariables false
set_option linter.unusedSimpArgs false

theorem pt_one (X : World) (a b c : Int) : v5.PtSl (X.alloc (.cells #[.int .i64 a, .int .i64 b, .int .i64 c] 67)) (.slice (some ⟨X.heap.size, 0, none⟩) 1 1) [(a, b, c)] := by
  refine ⟨_, 1, rfl, Nat.le_refl _, by unfold maxLen; omega, fun _ => ⟨X.heap.size, 0, rfl, by rw [World.size_alloc]; omega, fun j p hj => ?_⟩⟩
  have h := heap_alloc_new X (.cells #[.int .i64 a, .int .i64 b, .int .i64 c] 67)
  match j, hj with
  | 0, hj => simp at hj; subst hj; exact ⟨cell_of h rfl, cell_of h rfl, cell_of h rfl⟩
theorem own_kept {X Y : World} {base : Nat} {e : TypeId} {size n : Nat} {v : Value} {xs : List Value} {row : Option Nat} (h : X.ownsRow base e size v n xs) (hg : X.grownBy Y row) (hne : ∀ q, v.ownBlock = some q → some q ≠ row) : Y.ownsRow base e size v n xs :=
  h.kept hg (by
    rcases hv : v.ownBlock with _ | q
    · exact .inl rfl
    · exact .inr (hne q hv))
theorem row_store2n {W : World} {b : Nat} {y0 y1 : Value} {T : TypeId} (h : W.heap[b]? = some (.cells #[y0, y1] T (0, 0))) (x0 x1 : Value) : ((W.setCell ⟨b, 0, none⟩ x0).setCell ⟨b, 1, none⟩ x1).heap[b]? = some (.cells #[x0, x1] T (0, 0)) := set_field (set_field h x0) x1
/-- A net that is being made: P: its box; its row lies behind the box. -/
structure NetSt (w0 : World) (N : Int) (l : List (Int × Int × Int)) (X : World) (V : Value) : Prop where
  bel : Below w0.heap.size w0 X
  box : X.heap[w0.heap.size]? = some (.cells #[.int .i64 N, V] 44 (0, 0))
  row : X.ownsRow (w0.heap.size + 1) 67 3 V l.length (v5.cellsA l)
section
variable {w0 X Y : World} {N : Int} {l : List (Int × Int × Int)} {V : Value}
theorem NetSt.lt (h : NetSt w0 N l X V) : w0.heap.size < X.heap.size := at_lt h.box
theorem NetSt.on (h : NetSt w0 N l X V) (b : Below X.heap.size X Y) : NetSt w0 N l Y V := ⟨below_join h.bel b h.bel.size, box_on h.box b (Nat.le_refl _), own_on h.row b (Nat.le_refl _)⟩
theorem NetSt.own (h : NetSt w0 N l X V) {g : Nat} (hg : V.ownBlock = some g) : w0.heap.size < g ∧ g < X.heap.size := by
  have := ownsRow_lt h.row hg; omega
/-- Behind with, and the store of what it returns. -/
theorem NetSt.next (h : NetSt w0 N l X V) {m : List (Int × Int × Int)} {g cap : Nat} (ho : ArcO Y (w0.heap.size + 1) g cap m) (hat : V.ownBlock = some g ∨ X.heap.size ≤ g) (hg : X.grownBy Y V.ownBlock) :
    NetSt w0 N m ((Y.setCell ⟨w0.heap.size, 0, none⟩ (.int .i64 N)).setCell ⟨w0.heap.size, 1, none⟩ (.slice (some ⟨g, 0, none⟩) m.length cap)) (.slice (some ⟨g, 0, none⟩) m.length cap) := by
  have hlt := h.lt
  have hgP : w0.heap.size < g := by
    rcases hat with e | e
    · exact (h.own e).1
    · omega
  refine ⟨?_, ?_, own_else (own_else ho (by omega)) (by omega)⟩
  · have b1 : Below w0.heap.size w0 Y := h.bel.grown hg h.bel.size (fun k e => by have := (h.own e).1; omega)
    exact (b1.setCell (p := ⟨w0.heap.size, 0, none⟩) (Nat.le_refl _) _).setCell (p := ⟨w0.heap.size, 1, none⟩) (Nat.le_refl _) _
  · have e1 : Y.heap[w0.heap.size]? = some (.cells #[.int .i64 N, V] 44 (0, 0)) := (hg.block _ hlt (fun e => by have := (h.own e.symm).1; omega)).trans h.box
    exact row_store2n e1 _ _
/-- Behind an append to another row. -/
theorem NetSt.grown (h : NetSt w0 N l X V) {row : Option Nat} (hg : X.grownBy Y row) (hr : ∀ q, row = some q → w0.heap.size + 1 ≤ q) (hne : ∀ q, V.ownBlock = some q → row ≠ some q) : NetSt w0 N l Y V :=
  ⟨h.bel.grown hg h.bel.size (fun k e => by have := hr k e; omega), (hg.block _ h.lt (fun e => by have := hr _ e.symm; omega)).trans h.box, own_kept h.row hg (fun q hq e => hne q hq e.symm)⟩
theorem NetSt.box_in (h : NetSt w0 N l X V) (hg : X.grownBy Y V.ownBlock) : Y.heap[w0.heap.size]? = some (.cells #[.int .i64 N, V] 44 (0, 0)) := (hg.block _ h.lt (fun e => by have := (h.own e.symm).1; omega)).trans h.box
end
theorem own_off2 {X : World} {base b i j : Nat} {e : TypeId} {size n : Nat} {v : Value} {xs : List Value} (h : X.ownsRow base e size v n xs) (hb : ∀ q, v.ownBlock = some q → q ≠ b) (x y : Value) : ((X.setCell ⟨b, i, none⟩ x).setCell ⟨b, j, none⟩ y).ownsRow base e size v n xs := by
  obtain ⟨va, vn, rfl⟩ := own_shape h
  obtain ⟨k1, ⟨e0, e1⟩ | ⟨g', cap', cur, e0, k3, k4, k5⟩⟩ := h
  · exact ⟨k1, .inl ⟨e0, e1⟩⟩
  · injection e0 with e1 _ e2
    subst e1 e2
    have := hb g' rfl
    exact ⟨k1, .inr ⟨g', _, cur, rfl, k3, set_else (set_else k4 this) this, k5⟩⟩
theorem rk_at4 {z : Sn} {w : World} (h : SnAt w z) {i : Nat} {x : Rk} (hx : z.s.racks[i]? = some x) : ∃ b o, z.p.a4 = some ⟨b, o, none⟩ ∧ b < w.heap.size ∧ w.cell? ⟨b, o + i * 4, none⟩ = some (.int .i64 x.row) ∧ w.cell? ⟨b, o + i * 4 + 1, none⟩ = some (.int .i64 x.brk) ∧ w.cell? ⟨b, o + i * 4 + 2, none⟩ = some (.int .i64 x.loop) ∧ w.cell? ⟨b, o + i * 4 + 3, none⟩ = some (.int .i64 x.sw) := by
  obtain ⟨b, o, e, hb, hc⟩ := h.si.racks.at_ hx
  exact ⟨b, o, e, hb, by simpa [rkF] using hc 0 (by omega), hc 1 (by omega), hc 2 (by omega), hc 3 (by omega)⟩
def netNV (z : Sn) (r0 : Bool) : Int := if r0 = true then (netN z.s : Int) else 0
def netLV (z : Sn) (r0 : Bool) : List (Int × Int × Int) := if r0 = true then netL z.s z.ss z.d else []
/-- What Net returns. -/
def NetPost (z : Sn) (r0 : Bool) (w : World) (e : Ending) (w' : World) : Prop :=
  ∃ v, e = .returned (.agg #[.int .i64 (netNV z r0), v]) ∧ v5.PtSl w' v (netLV z r0) ∧ Below w.heap.size w w'
set_option maxHeartbeats 32000000 in
theorem c_pwNet (z : Sn) (r0 : Bool) (hr0 : r0 = true ↔ z.Ok) (w : World) (hz : SnAt w z) :
    Calls Tryz.prog 19 #[.agg #[.slice z.p.a1 z.s.feeds.length z.p.c1, .slice z.p.a2 z.s.brks.length z.p.c2, .slice z.p.a3 z.s.loops.length z.p.c3, .slice z.p.a4 z.s.racks.length z.p.c4, .int .i64 z.s.sw, .slice z.p.a5 z.s.links.length z.p.c5, .slice z.p.a6 z.s.hosts.length z.p.c6], .agg #[.slice z.A z.xs.length z.c], .agg #[.slice z.q.a1 z.d.hosts.length z.q.c1, .slice z.q.a2 z.d.reps.length z.q.c2]] w (NetPost z r0 w) := by
  obtain ⟨W1, h1⟩ : ∃ W, W = w.alloc (.cells #[.slice z.p.a1 z.s.feeds.length z.p.c1, .slice z.p.a2 z.s.brks.length z.p.c2, .slice z.p.a3 z.s.loops.length z.p.c3, .slice z.p.a4 z.s.racks.length z.p.c4, .int .i64 z.s.sw, .slice z.p.a5 z.s.links.length z.p.c5, .slice z.p.a6 z.s.hosts.length z.p.c6] 29) := ⟨_, rfl⟩
  obtain ⟨W2, h2⟩ : ∃ W, W = W1.alloc (.cells #[.slice z.A z.xs.length z.c] 32) := ⟨_, rfl⟩
  obtain ⟨W3, h3⟩ : ∃ W, W = W2.alloc (.cells #[.slice z.q.a1 z.d.hosts.length z.q.c1, .slice z.q.a2 z.d.reps.length z.q.c2] 36) := ⟨_, rfl⟩
  obtain ⟨B0, X1⟩ := sn_boxes h1 h2 h3
  have z3 : W3.heap.size = w.heap.size + 1 + 1 + 1 := sn_size h1 h2 h3
  obtain ⟨W, h4⟩ : ∃ W, W = W3.alloc (.cells #[.int .i64 0, .slice none 0 0] 44) := ⟨_, rfl⟩
  have B1 : Below w.heap.size w W := by rw [h4]; exact B0.alloc B0.size _
  have M0 : W.heap[w.heap.size + 1 + 1 + 1]? = some (.cells #[.int .i64 0, .slice none 0 0] 44 (0, 0)) := by rw [h4, ← z3]; exact box_new _ _ _
  have z4 : W.heap.size = w.heap.size + 1 + 1 + 1 + 1 := by rw [h4, World.size_alloc, z3]
  have X2 : SnBx W w.heap.size z := by rw [h4]; exact X1.alloc _
  have HB := Lib.hid B1
  have Z0 := hz.on B1 (Nat.le_refl _)
  have HZ := Lib.hid (fun (X : World) (hX : Below W.heap.size W X) => Z0.on hX (Nat.le_refl _))
  have HF := Lib.hid (fun (X : World) (hX : Below W.heap.size W X) => ((X2.on hX (Nat.le_refl _)).cells : X.cell? ⟨w.heap.size, 0, none⟩ = some (.slice z.p.a1 z.s.feeds.length z.p.c1) ∧ X.cell? ⟨w.heap.size, 1, none⟩ = some (.slice z.p.a2 z.s.brks.length z.p.c2) ∧ X.cell? ⟨w.heap.size, 2, none⟩ = some (.slice z.p.a3 z.s.loops.length z.p.c3) ∧ X.cell? ⟨w.heap.size, 3, none⟩ = some (.slice z.p.a4 z.s.racks.length z.p.c4) ∧ X.cell? ⟨w.heap.size, 4, none⟩ = some (.int .i64 z.s.sw) ∧ X.cell? ⟨w.heap.size, 5, none⟩ = some (.slice z.p.a5 z.s.links.length z.p.c5) ∧ X.cell? ⟨w.heap.size, 6, none⟩ = some (.slice z.p.a6 z.s.hosts.length z.p.c6) ∧ X.cell? ⟨w.heap.size + 1, 0, none⟩ = some (.slice z.A z.xs.length z.c) ∧ X.cell? ⟨w.heap.size + 1 + 1, 0, none⟩ = some (.slice z.q.a1 z.d.hosts.length z.q.c1) ∧ X.cell? ⟨w.heap.size + 1 + 1, 1, none⟩ = some (.slice z.q.a2 z.d.reps.length z.q.c2)))
  have HX := Lib.hid (fun (X : World) (hX : Below W.heap.size W X) => X2.on hX (Nat.le_refl _))
  have HM0 := Lib.hid (fun (X : World) (hX : Below W.heap.size W X) => (box_on M0 hX (Nat.le_refl _) : X.heap[w.heap.size + 1 + 1 + 1]? = some (.cells #[.int .i64 0, .slice none 0 0] 44 (0, 0))))
  have HKW := Lib.hid (Below.refl W.heap.size W)
  have hle := HB.out.size
  obtain ⟨n1, n2, n3, n4, n5, n6, n7, n8⟩ := hz.bounds
  have HVV := Lib.hid (fun (X : World) (hX : SnAt X z) => c_vTo z r0 hr0 X hX)
  have HRK := Lib.hid (fun (i : Int) (X : World) (hX : SnAt X z) => c_pwOfRack z r0 hr0 i X hX _ rfl)
  have HR0 := Lib.hid hr0
  clear hr0
  clear hz B0 X1 z3 Z0 B1 M0 z4 X2
  generalize hA1 : z.p.a1 = A1 at *
  have HA1 := Lib.hid hA1
  clear hA1
  generalize hA2 : z.p.a2 = A2 at *
  have HA2 := Lib.hid hA2
  clear hA2
  generalize hA4 : z.p.a4 = A4 at *
  have HA4 := Lib.hid hA4
  clear hA4
  obtain ⟨f0, f1, f2, f3, f4, f5, f6, g0, g1, g2⟩ := HF.out W HKW.out
  have m00 := cell_of (HM0.out W HKW.out) (o := 0) rfl
  have m01 := cell_of (HM0.out W HKW.out) (o := 1) rfl
  rw [h4, h3, h2, h1] at f0 f1 f2 f3 f4 f5 f6 g0 g1 g2 m00 m01
  generalize hBB : w.heap.size = B at *
  go_enter Tryz.func19, Tryz.ntmps19
  go_wp2_with (fail)
  rw [← h1, ← h2, ← h3, ← h4]
  clear h1 h2 h3 h4 f0 f1 f2 f3 f4 f5 f6 g0 g1 g2 m00 m01
  go_at_call 36
  refine (HVV.out W (HZ.out W HKW.out)).mono ?_
  rintro e v1 ⟨rfl, bb⟩
  have HKv1 := Lib.hid (below_join HKW.out bb HKW.out.size)
  clear bb
  cases r0
  · have b6 := HM0.out v1 HKv1.out
    have c0 := cell_of (o := 0) b6 rfl
    have c1 := cell_of (o := 1) b6 rfl
    have f0 := frz b6 0
    have f1 := frz b6 1
    have HB6 := Lib.hid b6
    clear b6
    go_wp2_with (fail)
    refine retNet rfl rfl rfl (x0 := .int .i64 0) (x1 := .slice none 0 0) (row_store2n HB6.out _ _) ⟨_, rfl, ?_, ?_⟩
    · exact ⟨none, 0, rfl, Nat.le_refl _, Nat.zero_le _, fun h => absurd h (Nat.lt_irrefl _)⟩
    · rw [hBB]; exact ((below_join HB.out HKv1.out hle).setCell (p := ⟨B + 1 + 1 + 1, 0, none⟩) (by show B ≤ B + 1 + 1 + 1; omega) _).setCell (p := ⟨B + 1 + 1 + 1, 1, none⟩) (by show B ≤ B + 1 + 1 + 1; omega) _
  have HOK := Lib.hid (HR0.out.1 rfl)
  obtain ⟨⟨k1, k2⟩, ⟨k3, k4⟩, ⟨k5, k6⟩⟩ : (1 ≤ z.s.feeds.length ∧ z.s.feeds.length ≤ 4) ∧ (1 ≤ z.s.brks.length ∧ z.s.brks.length ≤ 8) ∧ (1 ≤ z.s.racks.length ∧ z.s.racks.length ≤ 8) := by
    have h := siteOk_iff.1 HOK.out.1
    exact ⟨h.nfeeds, h.nbrks, h.nracks⟩
  obtain ⟨N, hN⟩ : ∃ N : Int, (2 + (z.s.feeds.length : Int) + (z.s.brks.length : Int) + (z.s.racks.length : Int)) = N := ⟨_, rfl⟩
  have HN := Lib.hid hN
  obtain ⟨V, hV⟩ : ∃ X, X = v1.alloc (.cells #[.int .i64 N, .slice none 0 0] 44) := ⟨_, rfl⟩
  have HS0 := Lib.hid (show NetSt v1 N [] V (.slice none 0 0) by rw [hV]; exact ⟨(Below.refl _ _).alloc (Nat.le_refl _) _, box_new _ _ _, World.ownsRow_nil _ _ _ _⟩)
  have hle1 : W.heap.size ≤ v1.heap.size := HKv1.out.size
  have HSC := Lib.hid (fun l (X : World) U (h : NetSt v1 N l X U) => below_join HKv1.out h.bel hle1)
  obtain ⟨f0, f1, f2, f3, f4, f5, f6, g0, g1, g2⟩ := HF.out v1 HKv1.out
  have e0 := (HF.out V (HSC.out _ _ _ HS0.out)).1
  rw [hV] at e0
  go_wp2_with (fail)
  rw [← hV]
  clear hV f0 f1 f2 f3 f4 f5 f6 g0 g1 g2 e0
  have bndB : ∀ {i : Nat} {x : Int}, z.s.feeds[i]? = some x → True := fun _ => trivial
  go_loopw [42] (fun i wr => ∃ (k : Nat) (U : Value), k ≤ z.s.feeds.length ∧ i = .int .i64 (k : Int) ∧ Hid (NetSt v1 N (arcsN (arF z.s) k) wr U)) (fun i _ => z.s.feeds.length - (intOf i).toNat)
  case atStart => exact ⟨0, _, Nat.zero_le _, rfl, HS0⟩
  case round =>
    obtain ⟨k, U, hk, rfl, hS⟩ := hrel
    have hki : ((k : Nat) : Int).toNat = k := by omega
    by_cases hlt : k < z.s.feeds.length
    · obtain ⟨x, hx⟩ : ∃ x, z.s.feeds[k]? = some x := ⟨_, List.getElem?_eq_getElem hlt⟩
      have HXX := Lib.hid hx
      obtain ⟨pb, po, e1, hpb, x0⟩ := fd_at (HZ.out wr (HSC.out _ _ _ hS.out)) hx
      rw [HA1.out] at e1
      subst e1
      have hki2 : (k : Int) < (z.s.feeds.length : Int) := by omega
      have HARC := Lib.hid (show arF z.s k = (0, (2 + (k : Int)), x) by unfold arF fdL; rw [HXX.out]; rfl)
      have HLL := Lib.hid (show (arcsN (arF z.s) k) ++ [(0, (2 + (k : Int)), x)] = (arcsN (arF z.s) (k + 1)) by rw [← HARC.out, arcsN_succ])
      have bnd := bndB HXX.out
      clear hx
      obtain ⟨X1, hX1⟩ : ∃ X, X = wr.alloc (.cells #[.int .i64 x] 50) := ⟨_, rfl⟩
      obtain ⟨X2, hX2⟩ : ∃ X, X = X1.alloc (.cells #[.int .i64 0, .int .i64 (2 + (k : Int)), .int .i64 x] 67) := ⟨_, rfl⟩
      have bX1 : Below wr.heap.size wr X1 := by rw [hX1]; exact (Below.refl _ _).alloc (Nat.le_refl _) _
      have s1 : X1.heap.size = wr.heap.size + 1 := by rw [hX1, World.size_alloc]
      have bX2 : Below wr.heap.size wr X2 := by rw [hX2]; exact bX1.alloc bX1.size _
      have S2 := hS.out.on bX2
      have PT := pt_one X1 0 (2 + (k : Int)) x
      rw [← hX2, s1] at PT
      have bx := hS.out.box
      have c0 := cell_of (o := 0) bx rfl
      have c1 := cell_of (o := 1) bx rfl
      have d0 := cell_of (o := 0) (bX1.block _ hS.out.lt |>.trans bx) rfl
      have d1 := cell_of (o := 1) (bX1.block _ hS.out.lt |>.trans bx) rfl
      rw [hX1] at d0 d1
      have HS2 := Lib.hid S2
      have HCW := Lib.hid (c_with (v1.heap.size + 1) N U (arcsN (arF z.s) k) ⟨wr.heap.size + 1, 0, none⟩ 1 [(0, (2 + (k : Int)), x)] (by simp) (by simp [arcsN_len]; omega) X2 S2.row (by have := S2.lt; omega) PT)
      rw [HLL.out] at HCW
      clear bX1 bX2 S2 PT bx s1
      go_wp2_with (fail)
      rw [← hX1, ← hX2]
      clear hX1 hX2 c0 c1 d0 d1 x0
      go_at_call 37
      refine HCW.out.mono ?_
      rintro e v2 ⟨g, cap, rfl, ho, hat, hgr⟩
      have hbx := HS2.out.box_in hgr
      have c0 := cell_of (o := 0) hbx rfl
      have c1 := cell_of (o := 1) hbx rfl
      have f0 := frz hbx 0
      have f1 := frz hbx 1
      have HS3 := Lib.hid (HS2.out.next ho hat hgr)
      clear hbx ho hat hgr
      obtain ⟨ll, hll⟩ : ∃ n, (arcsN (arF z.s) (k + 1)).length = n := ⟨_, rfl⟩
      rw [hll] at HS3
      rw [hll]
      clear hll
      go_wp2_with (fail)
      exact ⟨⟨k + 1, _, by omega, by go_num, HS3⟩, by simp only [intOf]; omega⟩
    · obtain rfl : k = z.s.feeds.length := by omega
      have e0 := (HF.out wr (HSC.out _ _ _ hS.out)).2.1
      go_wp2_with (fail)
      clear e0
      obtain ⟨wA, hwA⟩ : ∃ X, X = wr := ⟨_, rfl⟩
      subst hwA
      have hS0 := hS
      clear bndB
      have bndB : ∀ {i : Nat} {x : Brk}, z.s.brks[i]? = some x → 0 ≤ x.feed ∧ x.feed < 4 := fun {i x} h => by
        have := (siteOk_iff.1 HOK.out.1).brks _ (List.mem_of_getElem? h); omega
      go_loopw [59] (fun i wr => ∃ (k : Nat) (U : Value), k ≤ z.s.brks.length ∧ i = .int .i64 (k : Int) ∧ Hid (NetSt v1 N (arcsN (arF z.s) z.s.feeds.length ++ arcsN (arB z.s) k) wr U)) (fun i _ => z.s.brks.length - (intOf i).toNat)
      case atStart => exact ⟨0, _, Nat.zero_le _, rfl, Lib.hid (by have h := hS0.out; simpa [arcsN] using h)⟩
      case round =>
        obtain ⟨k, U, hk, rfl, hS⟩ := hrel
        have hki : ((k : Nat) : Int).toNat = k := by omega
        by_cases hlt : k < z.s.brks.length
        · obtain ⟨x, hx⟩ : ∃ x, z.s.brks[k]? = some x := ⟨_, List.getElem?_eq_getElem hlt⟩
          have HXX := Lib.hid hx
          obtain ⟨pb, po, e1, hpb, x0, x1, x2, x3⟩ := bk_at (HZ.out wr (HSC.out _ _ _ hS.out)) hx
          rw [HA2.out] at e1
          subst e1
          have hki2 : (k : Int) < (z.s.brks.length : Int) := by omega
          have HARC := Lib.hid (show arB z.s k = ((2 + x.feed), (2 + (z.s.feeds.length : Int) + (k : Int)), x.limit) by unfold arB bkF bkL nF; rw [HXX.out]; rfl)
          have HLL := Lib.hid (show (arcsN (arF z.s) z.s.feeds.length ++ arcsN (arB z.s) k) ++ [((2 + x.feed), (2 + (z.s.feeds.length : Int) + (k : Int)), x.limit)] = (arcsN (arF z.s) z.s.feeds.length ++ arcsN (arB z.s) (k + 1)) by rw [← HARC.out, arcsN_succ, List.append_assoc])
          have bnd := bndB HXX.out
          clear hx
          obtain ⟨X1, hX1⟩ : ∃ X, X = wr.alloc (.cells #[.int .i64 x.feed, .int .i64 x.limit, .int .i64 x.slow, .int .i64 x.fast] 48) := ⟨_, rfl⟩
          obtain ⟨X2, hX2⟩ : ∃ X, X = X1.alloc (.cells #[.int .i64 (2 + x.feed), .int .i64 (2 + (z.s.feeds.length : Int) + (k : Int)), .int .i64 x.limit] 67) := ⟨_, rfl⟩
          have bX1 : Below wr.heap.size wr X1 := by rw [hX1]; exact (Below.refl _ _).alloc (Nat.le_refl _) _
          have s1 : X1.heap.size = wr.heap.size + 1 := by rw [hX1, World.size_alloc]
          have bX2 : Below wr.heap.size wr X2 := by rw [hX2]; exact bX1.alloc bX1.size _
          have S2 := hS.out.on bX2
          have PT := pt_one X1 (2 + x.feed) (2 + (z.s.feeds.length : Int) + (k : Int)) x.limit
          rw [← hX2, s1] at PT
          have bx := hS.out.box
          have c0 := cell_of (o := 0) bx rfl
          have c1 := cell_of (o := 1) bx rfl
          have d0 := cell_of (o := 0) (bX1.block _ hS.out.lt |>.trans bx) rfl
          have d1 := cell_of (o := 1) (bX1.block _ hS.out.lt |>.trans bx) rfl
          rw [hX1] at d0 d1
          have HS2 := Lib.hid S2
          have HCW := Lib.hid (c_with (v1.heap.size + 1) N U (arcsN (arF z.s) z.s.feeds.length ++ arcsN (arB z.s) k) ⟨wr.heap.size + 1, 0, none⟩ 1 [((2 + x.feed), (2 + (z.s.feeds.length : Int) + (k : Int)), x.limit)] (by simp) (by simp [arcsN_len]; omega) X2 S2.row (by have := S2.lt; omega) PT)
          rw [HLL.out] at HCW
          clear bX1 bX2 S2 PT bx s1
          go_wp2_with (fail)
          rw [← hX1, ← hX2]
          clear hX1 hX2 c0 c1 d0 d1 x0 x1 x2 x3
          go_at_call 37
          refine HCW.out.mono ?_
          rintro e v2 ⟨g, cap, rfl, ho, hat, hgr⟩
          have hbx := HS2.out.box_in hgr
          have c0 := cell_of (o := 0) hbx rfl
          have c1 := cell_of (o := 1) hbx rfl
          have f0 := frz hbx 0
          have f1 := frz hbx 1
          have HS3 := Lib.hid (HS2.out.next ho hat hgr)
          clear hbx ho hat hgr
          obtain ⟨ll, hll⟩ : ∃ n, (arcsN (arF z.s) z.s.feeds.length ++ arcsN (arB z.s) (k + 1)).length = n := ⟨_, rfl⟩
          rw [hll] at HS3
          rw [hll]
          clear hll
          go_wp2_with (fail)
          exact ⟨⟨k + 1, _, by omega, by go_num, HS3⟩, by simp only [intOf]; omega⟩
        · obtain rfl : k = z.s.brks.length := by omega
          have e3 := (HF.out wr (HSC.out _ _ _ hS.out)).2.2.2.1
          go_wp2_with (fail)
          clear e3
          obtain ⟨wA, hwA⟩ : ∃ X, X = wr := ⟨_, rfl⟩
          subst hwA
          have hS1 := hS
          clear bndB
          obtain ⟨i0, hi0, hz0, hz1, hz2⟩ := info_parts v5.arc_info
          have bndB : ∀ {i : Nat} {x : Rk}, z.s.racks[i]? = some x → 0 ≤ x.brk ∧ x.brk < 8 := fun {i x} h => by
            have := (siteOk_iff.1 HOK.out.1).racks _ (List.mem_of_getElem? h); omega
          go_loopw [14, 80] (fun o i wr => ∃ (k : Nat) (U O : Value), k ≤ z.s.racks.length ∧ o = O ∧ i = .int .i64 (k : Int) ∧ Hid (NetSt v1 N ((arcsN (arF z.s) z.s.feeds.length ++ arcsN (arB z.s) z.s.brks.length) ++ arcsN (arR z.s z.ss z.d) k) wr U) ∧ Hid (wr.ownsRow (v1.heap.size + 1) 67 3 O k (v5.cellsA (arcsN (arO z.s z.ss z.d) k))) ∧ Hid (∀ g, U.ownBlock = some g → O.ownBlock ≠ some g)) (fun _ i _ => z.s.racks.length - (intOf i).toNat)
          case atStart => exact ⟨0, _, _, Nat.zero_le _, rfl, rfl, Lib.hid (by have h := hS1.out; simpa [arcsN] using h), Lib.hid (World.ownsRow_nil _ _ _ _), Lib.hid (fun g hg => by simp [Value.ownBlock])⟩
          case round =>
            obtain ⟨k, U, O, hk, hoe, rfl, hS, hO, hne⟩ := hrel
            have hoe' := hoe.symm
            subst hoe'
            have hki : ((k : Nat) : Int).toNat = k := by omega
            by_cases hlt : k < z.s.racks.length
            · obtain ⟨x, hx⟩ : ∃ x, z.s.racks[k]? = some x := ⟨_, List.getElem?_eq_getElem hlt⟩
              have HXX := Lib.hid hx
              obtain ⟨pb, po, e1, hpb, x0⟩ := rk_at4 (HZ.out wr (HSC.out _ _ _ hS.out)) hx
              rw [HA4.out] at e1
              subst e1
              obtain ⟨x0, x1, x2, x3⟩ := x0
              have hki2 : (k : Int) < (z.s.racks.length : Int) := by omega
              obtain ⟨ld, hld⟩ : ∃ t, ldR z.s z.ss z.d k = t := ⟨_, rfl⟩
              have HARC := Lib.hid (show arR z.s z.ss z.d k = (2 + (z.s.feeds.length : Int) + x.brk, 2 + (z.s.feeds.length : Int) + (z.s.brks.length : Int) + (k : Int), ld) by unfold arR rkB nF nB; rw [HXX.out, hld]; rfl)
              have HARO := Lib.hid (show arO z.s z.ss z.d k = (2 + (z.s.feeds.length : Int) + (z.s.brks.length : Int) + (k : Int), 1, ld) by unfold arO nF nB; rw [hld])
              have HRC := Lib.hid (fun (X : World) (hX : SnAt X z) => HRK.out (k : Int) X hX)
              rw [show pwV z true (isRack z.s (k : Int)) = ld from hld] at HRC
              have HLL := Lib.hid (show ((arcsN (arF z.s) z.s.feeds.length ++ arcsN (arB z.s) z.s.brks.length) ++ arcsN (arR z.s z.ss z.d) k) ++ [(2 + (z.s.feeds.length : Int) + x.brk, 2 + (z.s.feeds.length : Int) + (z.s.brks.length : Int) + (k : Int), ld)] = ((arcsN (arF z.s) z.s.feeds.length ++ arcsN (arB z.s) z.s.brks.length) ++ arcsN (arR z.s z.ss z.d) (k + 1)) by rw [← HARC.out, arcsN_succ, List.append_assoc])
              have bnd := bndB HXX.out
              clear hx hld
              obtain ⟨X1, hX1⟩ : ∃ X, X = wr.alloc (.cells #[.int .i64 x.row, .int .i64 x.brk, .int .i64 x.loop, .int .i64 x.sw] 65) := ⟨_, rfl⟩
              have bX1 : Below wr.heap.size wr X1 := by rw [hX1]; exact (Below.refl _ _).alloc (Nat.le_refl _) _
              have HR1 := Lib.hid (show X1.heap[wr.heap.size]? = some (.cells #[.int .i64 x.row, .int .i64 x.brk, .int .i64 x.loop, .int .i64 x.sw] 65 (0, 0)) by rw [hX1]; exact box_new _ _ _)
              have HS1 := Lib.hid (hS.out.on bX1)
              have HO1 := Lib.hid (own_on hO.out bX1 (Nat.le_refl _))
              obtain ⟨f0, f1, f2, f3, f4, f5, f6, g0, g1, g2⟩ := HF.out X1 (HSC.out _ _ _ HS1.out)
              rw [hX1] at f0 f1 f2 f3 f4 f5 f6 g0 g1 g2
              clear bX1
              go_wp2_with (fail)
              rw [← hX1]
              clear hX1 f0 f1 f2 f3 f4 f5 f6 g0 g1 g2 x0 x1 x2 x3
              go_at_call 12
              refine (HRC.out X1 (HZ.out X1 (HSC.out _ _ _ HS1.out))).mono ?_
              rintro e v2 ⟨rfl, bb⟩
              have HS2 := Lib.hid (HS1.out.on bb)
              have HO2 := Lib.hid (own_on HO1.out bb (Nat.le_refl _))
              have hr2 := box_on HR1.out bb (Nat.le_refl _)
              clear bb
              have r1 := cell_of (o := 1) hr2 rfl
              have c0 := cell_of (o := 0) HS2.out.box rfl
              have c1 := cell_of (o := 1) HS2.out.box rfl
              obtain ⟨X3, hX3⟩ : ∃ X, X = v2.alloc (.cells #[.int .i64 (2 + (z.s.feeds.length : Int) + x.brk), .int .i64 (2 + (z.s.feeds.length : Int) + (z.s.brks.length : Int) + (k : Int)), .int .i64 ld] 67) := ⟨_, rfl⟩
              have bX3 : Below v2.heap.size v2 X3 := by rw [hX3]; exact (Below.refl _ _).alloc (Nat.le_refl _) _
              have HS3 := Lib.hid (HS2.out.on bX3)
              have HO3 := Lib.hid (own_on HO2.out bX3 (Nat.le_refl _))
              have PT := pt_one v2 (2 + (z.s.feeds.length : Int) + x.brk) (2 + (z.s.feeds.length : Int) + (z.s.brks.length : Int) + (k : Int)) ld
              rw [← hX3] at PT
              have HCW := Lib.hid (c_with (v1.heap.size + 1) N U ((arcsN (arF z.s) z.s.feeds.length ++ arcsN (arB z.s) z.s.brks.length) ++ arcsN (arR z.s z.ss z.d) k) ⟨v2.heap.size, 0, none⟩ 1 [(2 + (z.s.feeds.length : Int) + x.brk, 2 + (z.s.feeds.length : Int) + (z.s.brks.length : Int) + (k : Int), ld)] (by simp) (by simp [arcsN_len]; omega) X3 HS3.out.row (by have := HS3.out.lt; omega) PT)
              rw [HLL.out] at HCW
              clear bX3 PT hr2
              go_wp2_with (fail)
              rw [← hX3]
              clear hX3 r1 c0 c1
              go_at_call 37
              refine HCW.out.mono ?_
              rintro e v4 ⟨g, cap, rfl, ho, hat, hgr⟩
              have hbx := HS3.out.box_in hgr
              have c0 := cell_of (o := 0) hbx rfl
              have c1 := cell_of (o := 1) hbx rfl
              have f0 := frz hbx 0
              have f1 := frz hbx 1
              have HS4 := Lib.hid (HS3.out.next ho hat hgr)
              have HNE := Lib.hid (show O.ownBlock ≠ some g by
                rcases hat with h | h
                · exact hne.out g h
                · intro h2; have := (ownsRow_lt HO3.out h2).2; omega)
              have HO4 := Lib.hid (own_off2 (own_kept HO3.out hgr (fun q hq => fun h2 => hne.out q h2.symm hq)) (b := v1.heap.size) (i := 0) (j := 1) (fun q hq => by have := (ownsRow_lt HO3.out hq).1; omega) (.int .i64 N) (.slice (some ⟨g, 0, none⟩) ((arcsN (arF z.s) z.s.feeds.length ++ arcsN (arB z.s) z.s.brks.length) ++ arcsN (arR z.s z.ss z.d) (k + 1)).length cap))
              clear hbx ho hat hgr
              obtain ⟨ll, hll⟩ : ∃ n, ((arcsN (arF z.s) z.s.feeds.length ++ arcsN (arB z.s) z.s.brks.length) ++ arcsN (arR z.s z.ss z.d) (k + 1)).length = n := ⟨_, rfl⟩
              rw [hll] at HS4 HO4
              rw [hll]
              clear hll
              obtain ⟨oa, on, hsh⟩ := own_shape HO4.out
              subst hsh
              obtain ⟨X4, hX4⟩ : ∃ X, X = (v4.setCell ⟨v1.heap.size, 0, none⟩ (.int .i64 N)).setCell ⟨v1.heap.size, 1, none⟩ (.slice (some ⟨g, 0, none⟩) ll cap) := ⟨_, rfl⟩
              obtain ⟨X5, hX5⟩ : ∃ X, X = X4.alloc (.cells #[.int .i64 (2 + (z.s.feeds.length : Int) + (z.s.brks.length : Int) + (k : Int)), .int .i64 1, .int .i64 ld] 67) := ⟨_, rfl⟩
              have bX5 : Below X4.heap.size X4 X5 := by rw [hX5]; exact (Below.refl _ _).alloc (Nat.le_refl _) _
              rw [← hX4] at HS4 HO4
              have HS5 := Lib.hid (HS4.out.on bX5)
              have HO5 := Lib.hid (own_on HO4.out bX5 (Nat.le_refl _))
              have PT := pt_one X4 (2 + (z.s.feeds.length : Int) + (z.s.brks.length : Int) + (k : Int)) 1 ld
              rw [← hX5] at PT
              have HN5 := Lib.hid (pt_news PT)
              have HSZ := Lib.hid (show X4.heap.size = v4.heap.size by rw [hX4]; simp [World.setCell])
              have HX5 := Lib.hid (show X5.heap.size = X4.heap.size + 1 by rw [hX5, World.size_alloc])
              clear bX5 PT
              have HVB4 := Lib.hid (fun q (hq : (Value.slice oa k on).ownBlock = some q) => ownsRow_lt HO5.out hq)
              go_wp2_with (at_builtin; rw [← hX4, ← hX5]; refine wpList_append_lies _ rfl _ _ 42 rfl (v1.heap.size + 1) 67 i0 (.agg #[.int .i64 0, .int .i64 0, .int .i64 0]) 3 24 Tryz.underlying42 hi0 hz0 hz1 hz2 rfl (by decide) (.slice oa k on) k _ rfl HO5.out ⟨v4.heap.size, 0, none⟩ 1 1 (v5.cellsA [(2 + (z.s.feeds.length : Int) + (z.s.brks.length : Int) + (k : Int), 1, ld)]) rfl rfl (by have h := HN5.out; rw [HSZ.out] at h; exact h) v5.cellsA_one (by decide) (by unfold maxLen; omega) (by omega) (by have := HS5.out.lt; omega) (v4.heap.size + 1) (by rw [HX5.out, HSZ.out]) ?_; intro g5 cap5 Z hown hgrow hat5 hlt5; have HS6 := Lib.hid (HS5.out.grown hgrow (fun q hq => (HVB4.out q hq).1) (fun q hq h2 => HNE.out (by simp only [Value.ownBlock] at hq h2 ⊢; rw [hq]; exact h2.symm ▸ rfl))); have HO6 := Lib.hid hown; have HAT5 := Lib.hid hat5; clear hown hgrow hat5)
              have HO7 := Lib.hid (show Z.ownsRow (v1.heap.size + 1) 67 3 (.slice (some ⟨g5, 0, none⟩) (k + 1) cap5) (k + 1) (v5.cellsA (arcsN (arO z.s z.ss z.d) (k + 1))) by
                rw [arcsN_succ, cellsA_append, HARO.out]; exact HO6.out)
              have HNE7 := Lib.hid (show ∀ q, (Value.slice (some ⟨g, 0, none⟩) ll cap).ownBlock = some q → (Value.slice (some ⟨g5, 0, none⟩) (k + 1) cap5).ownBlock ≠ some q from fun q hq h2 => by
                simp only [Value.ownBlock, Option.some.injEq] at hq h2
                subst hq
                rcases HAT5.out with h | h
                · exact HNE.out (by rw [← h2]; exact h)
                · have := (HS4.out.own (g := g) rfl).2
                  have := HSZ.out
                  omega)
              exact ⟨⟨k + 1, _, _, by omega, rfl, by go_num, HS6, HO7, HNE7⟩, by simp only [intOf]; omega⟩
            · obtain rfl : k = z.s.racks.length := by omega
              obtain ⟨g0, cap0, hO0, -, -⟩ := hO.out.form (by omega)
              subst hO0
              have c0 := cell_of (o := 0) hS.out.box rfl
              have c1 := cell_of (o := 1) hS.out.box rfl
              have PT := v5.own_ptSl (l := arcsN (arO z.s z.ss z.d) z.s.racks.length) (by rw [arcsN_len]; exact hO.out)
              have HCW := Lib.hid (c_with (v1.heap.size + 1) N U ((arcsN (arF z.s) z.s.feeds.length ++ arcsN (arB z.s) z.s.brks.length) ++ arcsN (arR z.s z.ss z.d) z.s.racks.length) ⟨g0, 0, none⟩ cap0 (arcsN (arO z.s z.ss z.d) z.s.racks.length) (by rw [arcsN_len]; omega) (by simp [arcsN_len]; omega) wr hS.out.row (by have := hS.out.lt; omega) (by rw [arcsN_len]; exact PT))
              rw [arcsN_len (arO z.s z.ss z.d) z.s.racks.length] at HCW
              obtain ⟨LL, hLL⟩ : ∃ l, (arcsN (arF z.s) z.s.feeds.length ++ arcsN (arB z.s) z.s.brks.length) ++ arcsN (arR z.s z.ss z.d) z.s.racks.length ++ arcsN (arO z.s z.ss z.d) z.s.racks.length = l := ⟨_, rfl⟩
              have HLE := Lib.hid (show netLV z true = LL from hLL)
              rw [hLL] at HCW
              clear PT hLL
              go_wp2_with (fail)
              clear c0 c1
              go_at_call 37
              refine HCW.out.mono ?_
              rintro e v9 ⟨g, cap, rfl, ho, hat, hgr⟩
              have b9 : Below v1.heap.size v1 v9 := hS.out.bel.grown hgr hS.out.bel.size (fun q e => by have := (hS.out.own e).1; omega)
              have K9 := below_join HKv1.out b9 hle1
              have q9 := HM0.out v9 K9
              have c0 := cell_of (o := 0) q9 rfl
              have c1 := cell_of (o := 1) q9 rfl
              have f0 := frz q9 0
              have f1 := frz q9 1
              have HQ9 := Lib.hid q9
              have HK9 := Lib.hid K9
              have HO9 := Lib.hid ho
              have hB3 : B + 1 + 1 + 1 < W.heap.size := at_lt (HM0.out W HKW.out)
              have HG9 := Lib.hid (show g ≠ B + 1 + 1 + 1 by
                rcases hat with h | h
                · have := (hS.out.own h).1; omega
                · have := hS.out.lt; omega)
              clear b9 K9 q9 ho hat hgr
              go_wp2_with (fail)
              refine retNet rfl rfl rfl (x0 := .int .i64 N) (x1 := .slice (some ⟨g, 0, none⟩) LL.length cap) (row_store2n HQ9.out _ _) ⟨_, by rw [show netNV z true = N by rw [← HN.out]; show ((2 + nF z.s + nB z.s + nR z.s : Nat) : Int) = _; unfold nF nB nR; omega], ?_, ?_⟩
              · rw [HLE.out]; exact (show ArcO _ _ _ _ _ from own_else (own_else HO9.out HG9.out) HG9.out).pt
              · rw [hBB]; exact ((below_join HB.out HK9.out hle).setCell (p := ⟨B + 1 + 1 + 1, 0, none⟩) (by show B ≤ B + 1 + 1 + 1; omega) _).setCell (p := ⟨B + 1 + 1 + 1, 1, none⟩) (by show B ≤ B + 1 + 1 + 1; omega) _
end Go.Proofs.YtidpiokkfnhobaaGreat

namespace Go.Proofs.YtidpiokkfnhobaaGreat
open Go.RowKit
set_option maxRecDepth 100000
set_option linter.unusedVariables false
set_option linter.unusedSimpArgs false

section
variable {w0 X Y : World} {N : Int} {l : List (Int × Int × Int)} {V : Value}
theorem NetSt.drew (h : NetSt w0 N l X V) : NetSt w0 N l X.drew V := h.on (Below.refl _ _).drew
theorem NetSt.push (h : NetSt w0 N l X V) {m : List (Int × Int × Int)} {g cap : Nat} (ho : Y.ownsRow (w0.heap.size + 1) 67 3 (.slice (some ⟨g, 0, none⟩) m.length cap) m.length (v5.cellsA m)) (hat : V.ownBlock = some g ∨ X.heap.size ≤ g) (hg : X.grownBy Y V.ownBlock) :
    NetSt w0 N m (Y.setCell ⟨w0.heap.size, 1, none⟩ (.slice (some ⟨g, 0, none⟩) m.length cap)) (.slice (some ⟨g, 0, none⟩) m.length cap) := by
  have hlt := h.lt
  have hgP : w0.heap.size < g := by
    rcases hat with e | e
    · exact (h.own e).1
    · omega
  refine ⟨?_, ?_, own_else ho (by omega)⟩
  · exact (h.bel.grown hg h.bel.size (fun k e => by have := (h.own e).1; omega)).setCell (p := ⟨w0.heap.size, 1, none⟩) (Nat.le_refl _) _
  · exact set_field (h.box_in hg) _
end
set_option maxHeartbeats 64000000 in
theorem d_Net (z : Sn) (r0 : Bool) (hr0 : r0 = true ↔ z.Ok) (w : World) (hz : SnAt w z) :
    Calls Tryz.prog 20 #[.agg #[.slice z.p.a1 z.s.feeds.length z.p.c1, .slice z.p.a2 z.s.brks.length z.p.c2, .slice z.p.a3 z.s.loops.length z.p.c3, .slice z.p.a4 z.s.racks.length z.p.c4, .int .i64 z.s.sw, .slice z.p.a5 z.s.links.length z.p.c5, .slice z.p.a6 z.s.hosts.length z.p.c6], .agg #[.slice z.A z.xs.length z.c], .agg #[.slice z.q.a1 z.d.hosts.length z.q.c1, .slice z.q.a2 z.d.reps.length z.q.c2]] w (NetPost z r0 w) := by
  obtain ⟨W1, h1⟩ : ∃ W, W = w.alloc (.cells #[.slice z.p.a1 z.s.feeds.length z.p.c1, .slice z.p.a2 z.s.brks.length z.p.c2, .slice z.p.a3 z.s.loops.length z.p.c3, .slice z.p.a4 z.s.racks.length z.p.c4, .int .i64 z.s.sw, .slice z.p.a5 z.s.links.length z.p.c5, .slice z.p.a6 z.s.hosts.length z.p.c6] 29) := ⟨_, rfl⟩
  obtain ⟨W2, h2⟩ : ∃ W, W = W1.alloc (.cells #[.slice z.A z.xs.length z.c] 32) := ⟨_, rfl⟩
  obtain ⟨W3, h3⟩ : ∃ W, W = W2.alloc (.cells #[.slice z.q.a1 z.d.hosts.length z.q.c1, .slice z.q.a2 z.d.reps.length z.q.c2] 36) := ⟨_, rfl⟩
  obtain ⟨B0, X1⟩ := sn_boxes h1 h2 h3
  have z3 : W3.heap.size = w.heap.size + 1 + 1 + 1 := sn_size h1 h2 h3
  obtain ⟨W, h4⟩ : ∃ W, W = W3.alloc (.cells #[.int .i64 0, .slice none 0 0] 44) := ⟨_, rfl⟩
  have B1 : Below w.heap.size w W := by rw [h4]; exact B0.alloc B0.size _
  have M0 : W.heap[w.heap.size + 1 + 1 + 1]? = some (.cells #[.int .i64 0, .slice none 0 0] 44 (0, 0)) := by rw [h4, ← z3]; exact box_new _ _ _
  have z4 : W.heap.size = w.heap.size + 1 + 1 + 1 + 1 := by rw [h4, World.size_alloc, z3]
  have X2 : SnBx W w.heap.size z := by rw [h4]; exact X1.alloc _
  have HB := Lib.hid B1
  have Z0 := hz.on B1 (Nat.le_refl _)
  have HZ := Lib.hid (fun (X : World) (hX : Below W.heap.size W X) => Z0.on hX (Nat.le_refl _))
  have HF := Lib.hid (fun (X : World) (hX : Below W.heap.size W X) => ((X2.on hX (Nat.le_refl _)).cells : X.cell? ⟨w.heap.size, 0, none⟩ = some (.slice z.p.a1 z.s.feeds.length z.p.c1) ∧ X.cell? ⟨w.heap.size, 1, none⟩ = some (.slice z.p.a2 z.s.brks.length z.p.c2) ∧ X.cell? ⟨w.heap.size, 2, none⟩ = some (.slice z.p.a3 z.s.loops.length z.p.c3) ∧ X.cell? ⟨w.heap.size, 3, none⟩ = some (.slice z.p.a4 z.s.racks.length z.p.c4) ∧ X.cell? ⟨w.heap.size, 4, none⟩ = some (.int .i64 z.s.sw) ∧ X.cell? ⟨w.heap.size, 5, none⟩ = some (.slice z.p.a5 z.s.links.length z.p.c5) ∧ X.cell? ⟨w.heap.size, 6, none⟩ = some (.slice z.p.a6 z.s.hosts.length z.p.c6) ∧ X.cell? ⟨w.heap.size + 1, 0, none⟩ = some (.slice z.A z.xs.length z.c) ∧ X.cell? ⟨w.heap.size + 1 + 1, 0, none⟩ = some (.slice z.q.a1 z.d.hosts.length z.q.c1) ∧ X.cell? ⟨w.heap.size + 1 + 1, 1, none⟩ = some (.slice z.q.a2 z.d.reps.length z.q.c2)))
  have HX := Lib.hid (fun (X : World) (hX : Below W.heap.size W X) => X2.on hX (Nat.le_refl _))
  have HM0 := Lib.hid (fun (X : World) (hX : Below W.heap.size W X) => (box_on M0 hX (Nat.le_refl _) : X.heap[w.heap.size + 1 + 1 + 1]? = some (.cells #[.int .i64 0, .slice none 0 0] 44 (0, 0))))
  have HKW := Lib.hid (Below.refl W.heap.size W)
  have hle := HB.out.size
  obtain ⟨n1, n2, n3, n4, n5, n6, n7, n8⟩ := hz.bounds
  have HVV := Lib.hid (fun (X : World) (hX : SnAt X z) => c_wvTo z r0 hr0 X hX)
  have HRK := Lib.hid (fun (i : Int) (X : World) (hX : SnAt X z) => d_OfRack z r0 hr0 i X hX _ rfl)
  have HR0 := Lib.hid hr0
  have hfm : Tryz.prog.follows Departure.mixedOrders = true := by kernel_rfl
  clear hr0
  clear hz B0 X1 z3 Z0 B1 M0 z4 X2
  generalize hA1 : z.p.a1 = A1 at *
  have HA1 := Lib.hid hA1
  clear hA1
  generalize hA2 : z.p.a2 = A2 at *
  have HA2 := Lib.hid hA2
  clear hA2
  generalize hA4 : z.p.a4 = A4 at *
  have HA4 := Lib.hid hA4
  clear hA4
  obtain ⟨f0, f1, f2, f3, f4, f5, f6, g0, g1, g2⟩ := HF.out W HKW.out
  have m00 := cell_of (HM0.out W HKW.out) (o := 0) rfl
  have m01 := cell_of (HM0.out W HKW.out) (o := 1) rfl
  rw [h4, h3, h2, h1] at f0 f1 f2 f3 f4 f5 f6 g0 g1 g2 m00 m01
  generalize hBB : w.heap.size = B at *
  go_enter Tryz.func20, Tryz.ntmps20
  go_wp2_with (fail)
  rw [← h1, ← h2, ← h3, ← h4]
  clear h1 h2 h3 h4 f0 f1 f2 f3 f4 f5 f6 g0 g1 g2 m00 m01
  go_at_call 25
  refine (HVV.out W (HZ.out W HKW.out)).mono ?_
  rintro e v1 ⟨rfl, bb⟩
  have HKv1 := Lib.hid (below_join HKW.out bb HKW.out.size)
  clear bb
  cases r0
  · have b6 := HM0.out v1 HKv1.out
    have c0 := cell_of (o := 0) b6 rfl
    have c1 := cell_of (o := 1) b6 rfl
    have f0 := frz b6 0
    have f1 := frz b6 1
    have HB6 := Lib.hid b6
    clear b6
    go_wp2_with (fail)
    refine retNet rfl rfl rfl (x0 := .int .i64 0) (x1 := .slice none 0 0) (row_store2n HB6.out _ _) ⟨_, rfl, ?_, ?_⟩
    · exact ⟨none, 0, rfl, Nat.le_refl _, Nat.zero_le _, fun h => absurd h (Nat.lt_irrefl _)⟩
    · rw [hBB]; exact ((below_join HB.out HKv1.out hle).setCell (p := ⟨B + 1 + 1 + 1, 0, none⟩) (by show B ≤ B + 1 + 1 + 1; omega) _).setCell (p := ⟨B + 1 + 1 + 1, 1, none⟩) (by show B ≤ B + 1 + 1 + 1; omega) _
  have HOK := Lib.hid (HR0.out.1 rfl)
  obtain ⟨⟨k1, k2⟩, ⟨k3, k4⟩, ⟨k5, k6⟩⟩ : (1 ≤ z.s.feeds.length ∧ z.s.feeds.length ≤ 4) ∧ (1 ≤ z.s.brks.length ∧ z.s.brks.length ≤ 8) ∧ (1 ≤ z.s.racks.length ∧ z.s.racks.length ≤ 8) := by
    have h := siteOk_iff.1 HOK.out.1
    exact ⟨h.nfeeds, h.nbrks, h.nracks⟩
  obtain ⟨N, hN⟩ : ∃ N : Int, (2 + (z.s.feeds.length : Int) + (z.s.brks.length : Int) + (z.s.racks.length : Int)) = N := ⟨_, rfl⟩
  have HN := Lib.hid hN
  obtain ⟨V, hV⟩ : ∃ X, X = v1.alloc (.cells #[.int .i64 N, .slice none 0 0] 44) := ⟨_, rfl⟩
  have HS0 := Lib.hid (show NetSt v1 N [] V (.slice none 0 0) by rw [hV]; exact ⟨(Below.refl _ _).alloc (Nat.le_refl _) _, box_new _ _ _, World.ownsRow_nil _ _ _ _⟩)
  have hle1 : W.heap.size ≤ v1.heap.size := HKv1.out.size
  have HSC := Lib.hid (fun l (X : World) U (h : NetSt v1 N l X U) => below_join HKv1.out h.bel hle1)
  obtain ⟨i0, hi0, hz0, hz1, hz2⟩ := info_parts v5.arc_info
  obtain ⟨f0, f1, f2, f3, f4, f5, f6, g0, g1, g2⟩ := HF.out v1 HKv1.out
  go_wp2_with (fail)
  rw [← hV]
  clear hV f0 f1 f2 f3 f4 f5 f6 g0 g1 g2
  have bndB : ∀ {i : Nat} {x : Int}, z.s.feeds[i]? = some x → True := fun _ => trivial
  go_loopw [11] (fun i wr => ∃ (k : Nat) (U : Value), k ≤ z.s.feeds.length ∧ i = .int .i64 (k : Int) ∧ Hid (NetSt v1 N (arcsN (arF z.s) k) wr U)) (fun i _ => z.s.feeds.length - (intOf i).toNat)
  case atStart => exact ⟨0, _, Nat.zero_le _, rfl, HS0⟩
  case round =>
    obtain ⟨k, U, hk, rfl, hS⟩ := hrel
    have hki : ((k : Nat) : Int).toNat = k := by omega
    obtain ⟨f0, f1, f2, f3, f4, f5, f6, g0, g1, g2⟩ := HF.out wr (HSC.out _ _ _ hS.out)
    by_cases hlt : k < z.s.feeds.length
    · obtain ⟨x, hx⟩ : ∃ x, z.s.feeds[k]? = some x := ⟨_, List.getElem?_eq_getElem hlt⟩
      have HXX := Lib.hid hx
      obtain ⟨pb, po, e1, hpb, x0⟩ := fd_at (HZ.out W HKW.out) hx
      rw [HA1.out] at e1
      subst e1
      have hki2 : (k : Int) < (z.s.feeds.length : Int) := by omega
      have HARC := Lib.hid (show arF z.s k = (0, (2 + (k : Int)), x) by unfold arF fdL; rw [HXX.out]; rfl)
      have HLL := Lib.hid (show (arcsN (arF z.s) k) ++ [(0, (2 + (k : Int)), x)] = (arcsN (arF z.s) (k + 1)) by rw [← HARC.out, arcsN_succ])
      have bnd := bndB HXX.out
      obtain ⟨ua, uc, hsh⟩ := own_shape hS.out.row
      subst hsh
      obtain ⟨un, hun⟩ : ∃ n, (arcsN (arF z.s) k).length = n := ⟨_, rfl⟩
      have hun2 : un ≤ 100 := by rw [← hun]; simp [arcsN_len]; omega
      have HUN := Lib.hid (show (arcsN (arF z.s) (k + 1)).length = un + 1 by rw [← HLL.out, List.length_append, hun]; rfl)
      have HRW := Lib.hid (show wr.ownsRow (v1.heap.size + 1) 67 3 (.slice ua un uc) un (v5.cellsA (arcsN (arF z.s) k)) by have h := hS.out.row; rwa [hun] at h)
      rw [hun] at hS
      have HX0 := Lib.hid (fun (X : World) (h : Below W.heap.size W X) => ((h.cell (p := ⟨pb, po + k, none⟩) hpb).trans x0 : X.cell? ⟨pb, po + k, none⟩ = some (.int .i64 x)))
      have HSS := Lib.hid (fun (X : World) (h : Below W.heap.size W X) (hb : X.heap[v1.heap.size]? = some (.cells #[.int .i64 N, .slice ua un uc] 44 (0, 0))) => (by
        obtain ⟨f0, f1, f2, f3, f4, f5, f6, g0, g1, g2⟩ := HF.out X h
        exact ⟨f0, f1, f2, f3, f4, f5, f6, g0, g1, g2, cell_of hb rfl, HX0.out X h⟩ : (fun (X : World) => X.cell? ⟨B, 0, none⟩ = some (.slice (some ⟨pb, po, none⟩) z.s.feeds.length z.p.c1) ∧ X.cell? ⟨B, 1, none⟩ = some (.slice A2 z.s.brks.length z.p.c2) ∧ X.cell? ⟨B, 2, none⟩ = some (.slice z.p.a3 z.s.loops.length z.p.c3) ∧ X.cell? ⟨B, 3, none⟩ = some (.slice A4 z.s.racks.length z.p.c4) ∧ X.cell? ⟨B, 4, none⟩ = some (.int .i64 z.s.sw) ∧ X.cell? ⟨B, 5, none⟩ = some (.slice z.p.a5 z.s.links.length z.p.c5) ∧ X.cell? ⟨B, 6, none⟩ = some (.slice z.p.a6 z.s.hosts.length z.p.c6) ∧ X.cell? ⟨B + 1, 0, none⟩ = some (.slice z.A z.xs.length z.c) ∧ X.cell? ⟨B + 1 + 1, 0, none⟩ = some (.slice z.q.a1 z.d.hosts.length z.q.c1) ∧ X.cell? ⟨B + 1 + 1, 1, none⟩ = some (.slice z.q.a2 z.d.reps.length z.q.c2) ∧ X.cell? ⟨v1.heap.size, 1, none⟩ = some (.slice ua un uc) ∧ X.cell? ⟨pb, po + k, none⟩ = some (.int .i64 x)) X))
      have hw0 : IntKind.i64.wrap (2 + (k : Int)) = (2 + (k : Int)) := wrap_in (by omega) (by omega)
      have hH0 := HSS.out wr.drew (HSC.out _ _ _ hS.out.drew) hS.out.drew.box
      clear hx hun x0
      go_wp2_with (fail)
      clear f0 f1 f2 f3 f4 f5 f6 g0 g1 g2
      refine v5.region_z 15 hfm (S := fun (X : World) => X.cell? ⟨B, 0, none⟩ = some (.slice (some ⟨pb, po, none⟩) z.s.feeds.length z.p.c1) ∧ X.cell? ⟨B, 1, none⟩ = some (.slice A2 z.s.brks.length z.p.c2) ∧ X.cell? ⟨B, 2, none⟩ = some (.slice z.p.a3 z.s.loops.length z.p.c3) ∧ X.cell? ⟨B, 3, none⟩ = some (.slice A4 z.s.racks.length z.p.c4) ∧ X.cell? ⟨B, 4, none⟩ = some (.int .i64 z.s.sw) ∧ X.cell? ⟨B, 5, none⟩ = some (.slice z.p.a5 z.s.links.length z.p.c5) ∧ X.cell? ⟨B, 6, none⟩ = some (.slice z.p.a6 z.s.hosts.length z.p.c6) ∧ X.cell? ⟨B + 1, 0, none⟩ = some (.slice z.A z.xs.length z.c) ∧ X.cell? ⟨B + 1 + 1, 0, none⟩ = some (.slice z.q.a1 z.d.hosts.length z.q.c1) ∧ X.cell? ⟨B + 1 + 1, 1, none⟩ = some (.slice z.q.a2 z.d.reps.length z.q.c2) ∧ X.cell? ⟨v1.heap.size, 1, none⟩ = some (.slice ua un uc) ∧ X.cell? ⟨pb, po + k, none⟩ = some (.int .i64 x)) hH0 (fun hHeld => ?_)
      refine v5.takeZ 0 (some 44) (by kernel_rfl) rfl rfl (by kernel_rfl) (by kernel_rfl) (by kernel_rfl) (fun _ _ _ h => h) (by rfl) (by intro w ⟨g0, g1, g2, g3, g4, g5, g6, g7, g8, g9, g10, g11⟩; go_simp; try with_reducible rfl) hHeld ?_
      simp only [Act.put, List.setIfInBounds_toArray, List.set_cons_zero, List.set_cons_succ]
      refine v5.takeZ 1 (some 45) (by kernel_rfl) rfl rfl (by kernel_rfl) (by kernel_rfl) (by kernel_rfl) (fun _ _ _ h => h) (by rfl) (by intro w ⟨g0, g1, g2, g3, g4, g5, g6, g7, g8, g9, g10, g11⟩; go_simp; try with_reducible rfl) hHeld ?_
      simp only [Act.put, List.setIfInBounds_toArray, List.set_cons_zero, List.set_cons_succ]
      refine v5.takeZ 2 (some 46) (by kernel_rfl) rfl rfl (by kernel_rfl) (by kernel_rfl) (by kernel_rfl) (fun _ _ _ h => h) (by rfl) (by intro w ⟨g0, g1, g2, g3, g4, g5, g6, g7, g8, g9, g10, g11⟩; go_simp; try with_reducible rfl) hHeld ?_
      simp only [Act.put, List.setIfInBounds_toArray, List.set_cons_zero, List.set_cons_succ]
      refine v5.takeZ 3 (some 47) (by kernel_rfl) rfl rfl (by kernel_rfl) (by kernel_rfl) (by kernel_rfl) (fun _ _ _ h => h) (by rfl) (by intro w ⟨g0, g1, g2, g3, g4, g5, g6, g7, g8, g9, g10, g11⟩; go_simp; try with_reducible rfl) hHeld ?_
      simp only [Act.put, List.setIfInBounds_toArray, List.set_cons_zero, List.set_cons_succ]
      refine v5.takeZ 4 (some 48) (by kernel_rfl) rfl rfl (by kernel_rfl) (by kernel_rfl) (by kernel_rfl) (fun _ _ _ h => h) (by rfl) (by intro w ⟨g0, g1, g2, g3, g4, g5, g6, g7, g8, g9, g10, g11⟩; go_simp; try with_reducible rfl) hHeld ?_
      simp only [Act.put, List.setIfInBounds_toArray, List.set_cons_zero, List.set_cons_succ]
      refine v5.takeZ 5 (some 49) (by kernel_rfl) rfl rfl (by kernel_rfl) (by kernel_rfl) (by kernel_rfl) (fun _ _ _ h => h) (by rfl) (by intro w ⟨g0, g1, g2, g3, g4, g5, g6, g7, g8, g9, g10, g11⟩; go_simp; try with_reducible rfl) hHeld ?_
      simp only [Act.put, List.setIfInBounds_toArray, List.set_cons_zero, List.set_cons_succ]
      refine v5.takeZ 6 (some 50) (by kernel_rfl) rfl rfl (by kernel_rfl) (by kernel_rfl) (by kernel_rfl) (fun _ _ _ h => h) (by rfl) (by intro w ⟨g0, g1, g2, g3, g4, g5, g6, g7, g8, g9, g10, g11⟩; go_simp; try with_reducible rfl) hHeld ?_
      simp only [Act.put, List.setIfInBounds_toArray, List.set_cons_zero, List.set_cons_succ]
      refine v5.takeZ 7 (some 51) (by kernel_rfl) rfl rfl (by kernel_rfl) (by kernel_rfl) (by kernel_rfl) (fun _ _ _ h => h) (by rfl) (by intro w ⟨g0, g1, g2, g3, g4, g5, g6, g7, g8, g9, g10, g11⟩; go_simp; try with_reducible rfl) hHeld ?_
      simp only [Act.put, List.setIfInBounds_toArray, List.set_cons_zero, List.set_cons_succ]
      refine v5.takeZ 8 (some 52) (by kernel_rfl) rfl rfl (by kernel_rfl) (by kernel_rfl) (by kernel_rfl) (fun _ _ _ h => h) (by rfl) (by intro w ⟨g0, g1, g2, g3, g4, g5, g6, g7, g8, g9, g10, g11⟩; go_simp; try with_reducible rfl) hHeld ?_
      simp only [Act.put, List.setIfInBounds_toArray, List.set_cons_zero, List.set_cons_succ]
      refine v5.takeZ 9 (some 53) (by kernel_rfl) rfl rfl (by kernel_rfl) (by kernel_rfl) (by kernel_rfl) (fun _ _ _ h => h) (by rfl) (by intro w ⟨g0, g1, g2, g3, g4, g5, g6, g7, g8, g9, g10, g11⟩; go_simp; try with_reducible rfl) hHeld ?_
      simp only [Act.put, List.setIfInBounds_toArray, List.set_cons_zero, List.set_cons_succ]
      refine v5.takeZ 10 (some 54) (by kernel_rfl) rfl rfl (by kernel_rfl) (by kernel_rfl) (by kernel_rfl) (fun _ _ _ h => h) (by rfl) (by intro w ⟨g0, g1, g2, g3, g4, g5, g6, g7, g8, g9, g10, g11⟩; go_simp; try with_reducible rfl) hHeld ?_
      simp only [Act.put, List.setIfInBounds_toArray, List.set_cons_zero, List.set_cons_succ]
      refine v5.takeZ 11 (some 55) (by kernel_rfl) rfl rfl (by kernel_rfl) (by kernel_rfl) (by kernel_rfl) (fun _ _ _ h => h) (by rfl) (by intro w ⟨g0, g1, g2, g3, g4, g5, g6, g7, g8, g9, g10, g11⟩; go_simp; try with_reducible rfl) hHeld ?_
      simp only [Act.put, List.setIfInBounds_toArray, List.set_cons_zero, List.set_cons_succ]
      obtain ⟨X1, hX1⟩ : ∃ X, X = wr.alloc (.cells #[.int .i64 0, .int .i64 (2 + (k : Int)), .int .i64 x] 67) := ⟨_, rfl⟩
      have bX1 : Below wr.heap.size wr X1 := by rw [hX1]; exact (Below.refl _ _).alloc (Nat.le_refl _) _
      have HZ1 := Lib.hid (show X1.heap.size = wr.heap.size + 1 by rw [hX1, World.size_alloc])
      have PT := pt_one wr 0 (2 + (k : Int)) x
      rw [← hX1] at PT
      have HN1 := Lib.hid (pt_news PT)
      have HS2 := Lib.hid (hS.out.on bX1)
      have HRW2 := Lib.hid (own_on HRW.out bX1 (Nat.le_refl _))
      clear bX1 PT hH0
      refine v5.oneZ 12 rfl (by kernel_rfl) (fun K hK => ?_)
      go_simp
      rw [← hX1]
      refine hK.out _ _ (.inr (HSS.out _ (HSC.out _ _ _ HS2.out.drew) HS2.out.drew.box)) ?_
      clear hK K hHeld hX1
      try simp only [Act.put, List.setIfInBounds_toArray, List.set_cons_zero, List.set_cons_succ]
      refine v5.oneZ 13 rfl (by kernel_rfl) (fun K hK => ?_)
      refine step_append_lies _ rfl (.tmp 45) (.tmp 56) 42 rfl (v1.heap.size + 1) 67 i0 (.agg #[.int .i64 0, .int .i64 0, .int .i64 0]) 3 24 Tryz.underlying42 hi0 hz0 hz1 hz2 rfl (by decide) (.slice ua un uc) un (v5.cellsA (arcsN (arF z.s) k)) (by simp [Act.eval, Act.put]) (show World.ownsRow X1.drew _ _ _ _ _ _ from HRW2.out) ⟨wr.heap.size, 0, none⟩ 1 1 (v5.cellsA [(0, (2 + (k : Int)), x)]) (by simp [Act.eval, Act.put]) rfl (show ∀ j u, _ → World.cell? X1.drew _ = _ from HN1.out) v5.cellsA_one (by decide) (by unfold maxLen; omega) (by omega) (show v1.heap.size + 1 ≤ X1.drew.heap.size from by have := HS2.out.lt; exact this) (wr.heap.size + 1) (show X1.drew.heap.size = _ from HZ1.out) ?_
      intro g cap Z hown hgrow hat hlt5
      have hgrow2 : X1.grownBy Z (Value.slice ua un uc).ownBlock := ⟨hgrow.os, hgrow.tape, hgrow.output, hgrow.size, hgrow.block⟩
      rw [← cellsA_append, HLL.out] at hown
      have HP := Lib.hid (HS2.out.push (m := (arcsN (arF z.s) (k + 1))) (g := g) (cap := cap) (by rw [HUN.out]; exact hown) (by rcases hat with h | h; exact .inl h; exact .inr (by have := HZ1.out; omega)) hgrow2)
      rw [HUN.out] at HP
      have hbx := HS2.out.box_in hgrow2
      have KZ : Below W.heap.size W Z := (HSC.out _ _ _ HS2.out).grown hgrow2 (by have := HS2.out.lt; omega) (fun q e => by have := (HS2.out.own e).1; omega)
      have hHeld := HSS.out Z KZ hbx
      have d1 := cell_of (o := 1) hbx rfl
      have q1 := frz hbx 1
      clear hown hgrow hgrow2 hat KZ hbx
      refine hK.out _ _ (.inr hHeld) ?_
      clear hK K
      try simp only [Act.put, List.setIfInBounds_toArray, List.set_cons_zero, List.set_cons_succ]
      refine v5.takeZ 14 (some 58) (by kernel_rfl) rfl rfl (by kernel_rfl) (by kernel_rfl) (by kernel_rfl) (fun _ _ _ h => h) (by rfl) (by intro w ⟨g0, g1, g2, g3, g4, g5, g6, g7, g8, g9, g10, g11⟩; go_simp; try with_reducible rfl) hHeld ?_
      simp only [Act.put, List.setIfInBounds_toArray, List.set_cons_zero, List.set_cons_succ]
      clear hHeld
      refine v5.oneZ 15 rfl (by kernel_rfl) (fun K hK => ?_)
      go_simp
      refine hK.out _ _ (.inl rfl) ?_
      clear hK K d1 q1
      refine v5.doneZ (by kernel_rfl) ?_ _
      go_wp2_with (fail)
      exact ⟨⟨k + 1, _, by omega, by go_num, HP⟩, by simp only [intOf]; omega⟩
    · obtain rfl : k = z.s.feeds.length := by omega
      skip
      go_wp2_with (fail)
      clear f0 f1 f2 f3 f4 f5 f6 g0 g1 g2
      obtain ⟨wA, hwA⟩ : ∃ X, X = wr := ⟨_, rfl⟩
      subst hwA
      have hS0 := hS
      clear bndB
      have bndB : ∀ {i : Nat} {x : Brk}, z.s.brks[i]? = some x → 0 ≤ x.feed ∧ x.feed < 4 := fun {i x} h => by
              have := (siteOk_iff.1 HOK.out.1).brks _ (List.mem_of_getElem? h); omega
      go_loopw [12] (fun i wr => ∃ (k : Nat) (U : Value), k ≤ z.s.brks.length ∧ i = .int .i64 (k : Int) ∧ Hid (NetSt v1 N (arcsN (arF z.s) z.s.feeds.length ++ arcsN (arB z.s) k) wr U)) (fun i _ => z.s.brks.length - (intOf i).toNat)
      case atStart => exact ⟨0, _, Nat.zero_le _, rfl, Lib.hid (by have h := hS0.out; simpa [arcsN] using h)⟩
      case round =>
        obtain ⟨k, U, hk, rfl, hS⟩ := hrel
        have hki : ((k : Nat) : Int).toNat = k := by omega
        obtain ⟨f0, f1, f2, f3, f4, f5, f6, g0, g1, g2⟩ := HF.out wr (HSC.out _ _ _ hS.out)
        by_cases hlt : k < z.s.brks.length
        · obtain ⟨x, hx⟩ : ∃ x, z.s.brks[k]? = some x := ⟨_, List.getElem?_eq_getElem hlt⟩
          have HXX := Lib.hid hx
          obtain ⟨pb, po, e1, hpb, x0, x1, -, -⟩ := bk_at (HZ.out W HKW.out) hx
          rw [HA2.out] at e1
          subst e1
          have hki2 : (k : Int) < (z.s.brks.length : Int) := by omega
          have HARC := Lib.hid (show arB z.s k = ((2 + x.feed), (2 + (z.s.feeds.length : Int) + (k : Int)), x.limit) by unfold arB bkF bkL nF; rw [HXX.out]; rfl)
          have HLL := Lib.hid (show (arcsN (arF z.s) z.s.feeds.length ++ arcsN (arB z.s) k) ++ [((2 + x.feed), (2 + (z.s.feeds.length : Int) + (k : Int)), x.limit)] = (arcsN (arF z.s) z.s.feeds.length ++ arcsN (arB z.s) (k + 1)) by rw [← HARC.out, arcsN_succ, List.append_assoc])
          have bnd := bndB HXX.out
          obtain ⟨ua, uc, hsh⟩ := own_shape hS.out.row
          subst hsh
          obtain ⟨un, hun⟩ : ∃ n, (arcsN (arF z.s) z.s.feeds.length ++ arcsN (arB z.s) k).length = n := ⟨_, rfl⟩
          have hun2 : un ≤ 100 := by rw [← hun]; simp [arcsN_len]; omega
          have HUN := Lib.hid (show (arcsN (arF z.s) z.s.feeds.length ++ arcsN (arB z.s) (k + 1)).length = un + 1 by rw [← HLL.out, List.length_append, hun]; rfl)
          have HRW := Lib.hid (show wr.ownsRow (v1.heap.size + 1) 67 3 (.slice ua un uc) un (v5.cellsA (arcsN (arF z.s) z.s.feeds.length ++ arcsN (arB z.s) k)) by have h := hS.out.row; rwa [hun] at h)
          rw [hun] at hS
          have HX0 := Lib.hid (fun (X : World) (h : Below W.heap.size W X) => ((h.cell (p := ⟨pb, po + k * 4, none⟩) hpb).trans x0 : X.cell? ⟨pb, po + k * 4, none⟩ = some (.int .i64 x.feed)))
          have HX1 := Lib.hid (fun (X : World) (h : Below W.heap.size W X) => ((h.cell (p := ⟨pb, po + k * 4 + 1, none⟩) hpb).trans x1 : X.cell? ⟨pb, po + k * 4 + 1, none⟩ = some (.int .i64 x.limit)))
          have HSS := Lib.hid (fun (X : World) (h : Below W.heap.size W X) (hb : X.heap[v1.heap.size]? = some (.cells #[.int .i64 N, .slice ua un uc] 44 (0, 0))) => (by
            obtain ⟨f0, f1, f2, f3, f4, f5, f6, g0, g1, g2⟩ := HF.out X h
            exact ⟨f0, f1, f2, f3, f4, f5, f6, g0, g1, g2, cell_of hb rfl, HX0.out X h, HX1.out X h⟩ : (fun (X : World) => X.cell? ⟨B, 0, none⟩ = some (.slice A1 z.s.feeds.length z.p.c1) ∧ X.cell? ⟨B, 1, none⟩ = some (.slice (some ⟨pb, po, none⟩) z.s.brks.length z.p.c2) ∧ X.cell? ⟨B, 2, none⟩ = some (.slice z.p.a3 z.s.loops.length z.p.c3) ∧ X.cell? ⟨B, 3, none⟩ = some (.slice A4 z.s.racks.length z.p.c4) ∧ X.cell? ⟨B, 4, none⟩ = some (.int .i64 z.s.sw) ∧ X.cell? ⟨B, 5, none⟩ = some (.slice z.p.a5 z.s.links.length z.p.c5) ∧ X.cell? ⟨B, 6, none⟩ = some (.slice z.p.a6 z.s.hosts.length z.p.c6) ∧ X.cell? ⟨B + 1, 0, none⟩ = some (.slice z.A z.xs.length z.c) ∧ X.cell? ⟨B + 1 + 1, 0, none⟩ = some (.slice z.q.a1 z.d.hosts.length z.q.c1) ∧ X.cell? ⟨B + 1 + 1, 1, none⟩ = some (.slice z.q.a2 z.d.reps.length z.q.c2) ∧ X.cell? ⟨v1.heap.size, 1, none⟩ = some (.slice ua un uc) ∧ X.cell? ⟨pb, po + k * 4, none⟩ = some (.int .i64 x.feed) ∧ X.cell? ⟨pb, po + k * 4 + 1, none⟩ = some (.int .i64 x.limit)) X))
          have hw0 : IntKind.i64.wrap (2 + x.feed) = (2 + x.feed) := wrap_in (by omega) (by omega)
          have hw1 : IntKind.i64.wrap (2 + (z.s.feeds.length : Int) + (k : Int)) = (2 + (z.s.feeds.length : Int) + (k : Int)) := wrap_in (by omega) (by omega)
          have hH0 := HSS.out wr.drew (HSC.out _ _ _ hS.out.drew) hS.out.drew.box
          clear hx hun x0 x1
          go_wp2_with (fail)
          clear f0 f1 f2 f3 f4 f5 f6 g0 g1 g2
          refine v5.region_z 23 hfm (S := fun (X : World) => X.cell? ⟨B, 0, none⟩ = some (.slice A1 z.s.feeds.length z.p.c1) ∧ X.cell? ⟨B, 1, none⟩ = some (.slice (some ⟨pb, po, none⟩) z.s.brks.length z.p.c2) ∧ X.cell? ⟨B, 2, none⟩ = some (.slice z.p.a3 z.s.loops.length z.p.c3) ∧ X.cell? ⟨B, 3, none⟩ = some (.slice A4 z.s.racks.length z.p.c4) ∧ X.cell? ⟨B, 4, none⟩ = some (.int .i64 z.s.sw) ∧ X.cell? ⟨B, 5, none⟩ = some (.slice z.p.a5 z.s.links.length z.p.c5) ∧ X.cell? ⟨B, 6, none⟩ = some (.slice z.p.a6 z.s.hosts.length z.p.c6) ∧ X.cell? ⟨B + 1, 0, none⟩ = some (.slice z.A z.xs.length z.c) ∧ X.cell? ⟨B + 1 + 1, 0, none⟩ = some (.slice z.q.a1 z.d.hosts.length z.q.c1) ∧ X.cell? ⟨B + 1 + 1, 1, none⟩ = some (.slice z.q.a2 z.d.reps.length z.q.c2) ∧ X.cell? ⟨v1.heap.size, 1, none⟩ = some (.slice ua un uc) ∧ X.cell? ⟨pb, po + k * 4, none⟩ = some (.int .i64 x.feed) ∧ X.cell? ⟨pb, po + k * 4 + 1, none⟩ = some (.int .i64 x.limit)) hH0 (fun hHeld => ?_)
          refine v5.takeZ 0 (some 66) (by kernel_rfl) rfl rfl (by kernel_rfl) (by kernel_rfl) (by kernel_rfl) (fun _ _ _ h => h) (by rfl) (by intro w ⟨g0, g1, g2, g3, g4, g5, g6, g7, g8, g9, g10, g11, g12⟩; go_simp; try with_reducible rfl) hHeld ?_
          simp only [Act.put, List.setIfInBounds_toArray, List.set_cons_zero, List.set_cons_succ]
          refine v5.takeZ 1 (some 67) (by kernel_rfl) rfl rfl (by kernel_rfl) (by kernel_rfl) (by kernel_rfl) (fun _ _ _ h => h) (by rfl) (by intro w ⟨g0, g1, g2, g3, g4, g5, g6, g7, g8, g9, g10, g11, g12⟩; go_simp; try with_reducible rfl) hHeld ?_
          simp only [Act.put, List.setIfInBounds_toArray, List.set_cons_zero, List.set_cons_succ]
          refine v5.takeZ 2 (some 68) (by kernel_rfl) rfl rfl (by kernel_rfl) (by kernel_rfl) (by kernel_rfl) (fun _ _ _ h => h) (by rfl) (by intro w ⟨g0, g1, g2, g3, g4, g5, g6, g7, g8, g9, g10, g11, g12⟩; go_simp; try with_reducible rfl) hHeld ?_
          simp only [Act.put, List.setIfInBounds_toArray, List.set_cons_zero, List.set_cons_succ]
          refine v5.takeZ 3 (some 69) (by kernel_rfl) rfl rfl (by kernel_rfl) (by kernel_rfl) (by kernel_rfl) (fun _ _ _ h => h) (by rfl) (by intro w ⟨g0, g1, g2, g3, g4, g5, g6, g7, g8, g9, g10, g11, g12⟩; go_simp; try with_reducible rfl) hHeld ?_
          simp only [Act.put, List.setIfInBounds_toArray, List.set_cons_zero, List.set_cons_succ]
          refine v5.takeZ 4 (some 70) (by kernel_rfl) rfl rfl (by kernel_rfl) (by kernel_rfl) (by kernel_rfl) (fun _ _ _ h => h) (by rfl) (by intro w ⟨g0, g1, g2, g3, g4, g5, g6, g7, g8, g9, g10, g11, g12⟩; go_simp; try with_reducible rfl) hHeld ?_
          simp only [Act.put, List.setIfInBounds_toArray, List.set_cons_zero, List.set_cons_succ]
          refine v5.takeZ 5 (some 71) (by kernel_rfl) rfl rfl (by kernel_rfl) (by kernel_rfl) (by kernel_rfl) (fun _ _ _ h => h) (by rfl) (by intro w ⟨g0, g1, g2, g3, g4, g5, g6, g7, g8, g9, g10, g11, g12⟩; go_simp; try with_reducible rfl) hHeld ?_
          simp only [Act.put, List.setIfInBounds_toArray, List.set_cons_zero, List.set_cons_succ]
          refine v5.takeZ 6 (some 72) (by kernel_rfl) rfl rfl (by kernel_rfl) (by kernel_rfl) (by kernel_rfl) (fun _ _ _ h => h) (by rfl) (by intro w ⟨g0, g1, g2, g3, g4, g5, g6, g7, g8, g9, g10, g11, g12⟩; go_simp; try with_reducible rfl) hHeld ?_
          simp only [Act.put, List.setIfInBounds_toArray, List.set_cons_zero, List.set_cons_succ]
          refine v5.takeZ 7 (some 73) (by kernel_rfl) rfl rfl (by kernel_rfl) (by kernel_rfl) (by kernel_rfl) (fun _ _ _ h => h) (by rfl) (by intro w ⟨g0, g1, g2, g3, g4, g5, g6, g7, g8, g9, g10, g11, g12⟩; go_simp; try with_reducible rfl) hHeld ?_
          simp only [Act.put, List.setIfInBounds_toArray, List.set_cons_zero, List.set_cons_succ]
          refine v5.takeZ 8 (some 74) (by kernel_rfl) rfl rfl (by kernel_rfl) (by kernel_rfl) (by kernel_rfl) (fun _ _ _ h => h) (by rfl) (by intro w ⟨g0, g1, g2, g3, g4, g5, g6, g7, g8, g9, g10, g11, g12⟩; go_simp; try with_reducible rfl) hHeld ?_
          simp only [Act.put, List.setIfInBounds_toArray, List.set_cons_zero, List.set_cons_succ]
          refine v5.takeZ 9 (some 75) (by kernel_rfl) rfl rfl (by kernel_rfl) (by kernel_rfl) (by kernel_rfl) (fun _ _ _ h => h) (by rfl) (by intro w ⟨g0, g1, g2, g3, g4, g5, g6, g7, g8, g9, g10, g11, g12⟩; go_simp; try with_reducible rfl) hHeld ?_
          simp only [Act.put, List.setIfInBounds_toArray, List.set_cons_zero, List.set_cons_succ]
          refine v5.takeZ 10 (some 76) (by kernel_rfl) rfl rfl (by kernel_rfl) (by kernel_rfl) (by kernel_rfl) (fun _ _ _ h => h) (by rfl) (by intro w ⟨g0, g1, g2, g3, g4, g5, g6, g7, g8, g9, g10, g11, g12⟩; go_simp; try with_reducible rfl) hHeld ?_
          simp only [Act.put, List.setIfInBounds_toArray, List.set_cons_zero, List.set_cons_succ]
          refine v5.takeZ 11 (some 77) (by kernel_rfl) rfl rfl (by kernel_rfl) (by kernel_rfl) (by kernel_rfl) (fun _ _ _ h => h) (by rfl) (by intro w ⟨g0, g1, g2, g3, g4, g5, g6, g7, g8, g9, g10, g11, g12⟩; go_simp; try with_reducible rfl) hHeld ?_
          simp only [Act.put, List.setIfInBounds_toArray, List.set_cons_zero, List.set_cons_succ]
          refine v5.takeZ 12 (some 78) (by kernel_rfl) rfl rfl (by kernel_rfl) (by kernel_rfl) (by kernel_rfl) (fun _ _ _ h => h) (by rfl) (by intro w ⟨g0, g1, g2, g3, g4, g5, g6, g7, g8, g9, g10, g11, g12⟩; go_simp; try with_reducible rfl) hHeld ?_
          simp only [Act.put, List.setIfInBounds_toArray, List.set_cons_zero, List.set_cons_succ]
          refine v5.takeZ 13 (some 79) (by kernel_rfl) rfl rfl (by kernel_rfl) (by kernel_rfl) (by kernel_rfl) (fun _ _ _ h => h) (by rfl) (by intro w ⟨g0, g1, g2, g3, g4, g5, g6, g7, g8, g9, g10, g11, g12⟩; go_simp; try with_reducible rfl) hHeld ?_
          simp only [Act.put, List.setIfInBounds_toArray, List.set_cons_zero, List.set_cons_succ]
          refine v5.takeZ 14 (some 80) (by kernel_rfl) rfl rfl (by kernel_rfl) (by kernel_rfl) (by kernel_rfl) (fun _ _ _ h => h) (by rfl) (by intro w ⟨g0, g1, g2, g3, g4, g5, g6, g7, g8, g9, g10, g11, g12⟩; go_simp; try with_reducible rfl) hHeld ?_
          simp only [Act.put, List.setIfInBounds_toArray, List.set_cons_zero, List.set_cons_succ]
          refine v5.takeZ 15 (some 81) (by kernel_rfl) rfl rfl (by kernel_rfl) (by kernel_rfl) (by kernel_rfl) (fun _ _ _ h => h) (by rfl) (by intro w ⟨g0, g1, g2, g3, g4, g5, g6, g7, g8, g9, g10, g11, g12⟩; go_simp; try with_reducible rfl) hHeld ?_
          simp only [Act.put, List.setIfInBounds_toArray, List.set_cons_zero, List.set_cons_succ]
          refine v5.takeZ 16 (some 82) (by kernel_rfl) rfl rfl (by kernel_rfl) (by kernel_rfl) (by kernel_rfl) (fun _ _ _ h => h) (by rfl) (by intro w ⟨g0, g1, g2, g3, g4, g5, g6, g7, g8, g9, g10, g11, g12⟩; go_simp; try with_reducible rfl) hHeld ?_
          simp only [Act.put, List.setIfInBounds_toArray, List.set_cons_zero, List.set_cons_succ]
          refine v5.takeZ 17 (some 83) (by kernel_rfl) rfl rfl (by kernel_rfl) (by kernel_rfl) (by kernel_rfl) (fun _ _ _ h => h) (by rfl) (by intro w ⟨g0, g1, g2, g3, g4, g5, g6, g7, g8, g9, g10, g11, g12⟩; go_simp; try with_reducible rfl) hHeld ?_
          simp only [Act.put, List.setIfInBounds_toArray, List.set_cons_zero, List.set_cons_succ]
          refine v5.takeZ 18 (some 84) (by kernel_rfl) rfl rfl (by kernel_rfl) (by kernel_rfl) (by kernel_rfl) (fun _ _ _ h => h) (by rfl) (by intro w ⟨g0, g1, g2, g3, g4, g5, g6, g7, g8, g9, g10, g11, g12⟩; go_simp; try with_reducible rfl) hHeld ?_
          simp only [Act.put, List.setIfInBounds_toArray, List.set_cons_zero, List.set_cons_succ]
          refine v5.takeZ 19 (some 85) (by kernel_rfl) rfl rfl (by kernel_rfl) (by kernel_rfl) (by kernel_rfl) (fun _ _ _ h => h) (by rfl) (by intro w ⟨g0, g1, g2, g3, g4, g5, g6, g7, g8, g9, g10, g11, g12⟩; go_simp; try with_reducible rfl) hHeld ?_
          simp only [Act.put, List.setIfInBounds_toArray, List.set_cons_zero, List.set_cons_succ]
          obtain ⟨X1, hX1⟩ : ∃ X, X = wr.alloc (.cells #[.int .i64 (2 + x.feed), .int .i64 (2 + (z.s.feeds.length : Int) + (k : Int)), .int .i64 x.limit] 67) := ⟨_, rfl⟩
          have bX1 : Below wr.heap.size wr X1 := by rw [hX1]; exact (Below.refl _ _).alloc (Nat.le_refl _) _
          have HZ1 := Lib.hid (show X1.heap.size = wr.heap.size + 1 by rw [hX1, World.size_alloc])
          have PT := pt_one wr (2 + x.feed) (2 + (z.s.feeds.length : Int) + (k : Int)) x.limit
          rw [← hX1] at PT
          have HN1 := Lib.hid (pt_news PT)
          have HS2 := Lib.hid (hS.out.on bX1)
          have HRW2 := Lib.hid (own_on HRW.out bX1 (Nat.le_refl _))
          clear bX1 PT hH0
          refine v5.oneZ 20 rfl (by kernel_rfl) (fun K hK => ?_)
          go_simp
          rw [← hX1]
          refine hK.out _ _ (.inr (HSS.out _ (HSC.out _ _ _ HS2.out.drew) HS2.out.drew.box)) ?_
          clear hK K hHeld hX1
          try simp only [Act.put, List.setIfInBounds_toArray, List.set_cons_zero, List.set_cons_succ]
          refine v5.oneZ 21 rfl (by kernel_rfl) (fun K hK => ?_)
          refine step_append_lies _ rfl (.tmp 67) (.tmp 86) 42 rfl (v1.heap.size + 1) 67 i0 (.agg #[.int .i64 0, .int .i64 0, .int .i64 0]) 3 24 Tryz.underlying42 hi0 hz0 hz1 hz2 rfl (by decide) (.slice ua un uc) un (v5.cellsA (arcsN (arF z.s) z.s.feeds.length ++ arcsN (arB z.s) k)) (by simp [Act.eval, Act.put]) (show World.ownsRow X1.drew _ _ _ _ _ _ from HRW2.out) ⟨wr.heap.size, 0, none⟩ 1 1 (v5.cellsA [((2 + x.feed), (2 + (z.s.feeds.length : Int) + (k : Int)), x.limit)]) (by simp [Act.eval, Act.put]) rfl (show ∀ j u, _ → World.cell? X1.drew _ = _ from HN1.out) v5.cellsA_one (by decide) (by unfold maxLen; omega) (by omega) (show v1.heap.size + 1 ≤ X1.drew.heap.size from by have := HS2.out.lt; exact this) (wr.heap.size + 1) (show X1.drew.heap.size = _ from HZ1.out) ?_
          intro g cap Z hown hgrow hat hlt5
          have hgrow2 : X1.grownBy Z (Value.slice ua un uc).ownBlock := ⟨hgrow.os, hgrow.tape, hgrow.output, hgrow.size, hgrow.block⟩
          rw [← cellsA_append, HLL.out] at hown
          have HP := Lib.hid (HS2.out.push (m := (arcsN (arF z.s) z.s.feeds.length ++ arcsN (arB z.s) (k + 1))) (g := g) (cap := cap) (by rw [HUN.out]; exact hown) (by rcases hat with h | h; exact .inl h; exact .inr (by have := HZ1.out; omega)) hgrow2)
          rw [HUN.out] at HP
          have hbx := HS2.out.box_in hgrow2
          have KZ : Below W.heap.size W Z := (HSC.out _ _ _ HS2.out).grown hgrow2 (by have := HS2.out.lt; omega) (fun q e => by have := (HS2.out.own e).1; omega)
          have hHeld := HSS.out Z KZ hbx
          have d1 := cell_of (o := 1) hbx rfl
          have q1 := frz hbx 1
          clear hown hgrow hgrow2 hat KZ hbx
          refine hK.out _ _ (.inr hHeld) ?_
          clear hK K
          try simp only [Act.put, List.setIfInBounds_toArray, List.set_cons_zero, List.set_cons_succ]
          refine v5.takeZ 22 (some 88) (by kernel_rfl) rfl rfl (by kernel_rfl) (by kernel_rfl) (by kernel_rfl) (fun _ _ _ h => h) (by rfl) (by intro w ⟨g0, g1, g2, g3, g4, g5, g6, g7, g8, g9, g10, g11, g12⟩; go_simp; try with_reducible rfl) hHeld ?_
          simp only [Act.put, List.setIfInBounds_toArray, List.set_cons_zero, List.set_cons_succ]
          clear hHeld
          refine v5.oneZ 23 rfl (by kernel_rfl) (fun K hK => ?_)
          go_simp
          refine hK.out _ _ (.inl rfl) ?_
          clear hK K d1 q1
          refine v5.doneZ (by kernel_rfl) ?_ _
          go_wp2_with (fail)
          exact ⟨⟨k + 1, _, by omega, by go_num, HP⟩, by simp only [intOf]; omega⟩
        · obtain rfl : k = z.s.brks.length := by omega
          skip
          go_wp2_with (fail)
          clear f0 f1 f2 f3 f4 f5 f6 g0 g1 g2
          obtain ⟨wA, hwA⟩ : ∃ X, X = wr := ⟨_, rfl⟩
          subst hwA
          have hS0 := hS
          clear bndB
          have bndB : ∀ {i : Nat} {x : Rk}, z.s.racks[i]? = some x → 0 ≤ x.brk ∧ x.brk < 8 := fun {i x} h => by
                      have := (siteOk_iff.1 HOK.out.1).racks _ (List.mem_of_getElem? h); omega
          go_loopw [13] (fun i wr => ∃ (k : Nat) (U : Value), k ≤ z.s.racks.length ∧ i = .int .i64 (k : Int) ∧ Hid (NetSt v1 N (arcsN (arF z.s) z.s.feeds.length ++ arcsN (arB z.s) z.s.brks.length ++ arcsN (arR z.s z.ss z.d) k) wr U)) (fun i _ => z.s.racks.length - (intOf i).toNat)
          case atStart => exact ⟨0, _, Nat.zero_le _, rfl, Lib.hid (by have h := hS0.out; simpa [arcsN] using h)⟩
          case round =>
            obtain ⟨k, U, hk, rfl, hS⟩ := hrel
            have hki : ((k : Nat) : Int).toNat = k := by omega
            obtain ⟨f0, f1, f2, f3, f4, f5, f6, g0, g1, g2⟩ := HF.out wr (HSC.out _ _ _ hS.out)
            by_cases hlt : k < z.s.racks.length
            · obtain ⟨x, hx⟩ : ∃ x, z.s.racks[k]? = some x := ⟨_, List.getElem?_eq_getElem hlt⟩
              have HXX := Lib.hid hx
              obtain ⟨pb, po, e1, hpb, x0⟩ := rk_at (HZ.out W HKW.out) hx
              rw [HA4.out] at e1
              subst e1
              have hki2 : (k : Int) < (z.s.racks.length : Int) := by omega
              obtain ⟨ld, hld⟩ : ∃ t, ldR z.s z.ss z.d k = t := ⟨_, rfl⟩
              have HRC := Lib.hid (fun (X : World) (hX : SnAt X z) => HRK.out (k : Int) X hX)
              rw [show pwV z true (isRack z.s (k : Int)) = ld from hld] at HRC
              have HARC := Lib.hid (show arR z.s z.ss z.d k = ((2 + (z.s.feeds.length : Int) + x.brk), (2 + (z.s.feeds.length : Int) + (z.s.brks.length : Int) + (k : Int)), ld) by unfold arR rkB nF nB; rw [HXX.out, hld]; rfl)
              have HLL := Lib.hid (show (arcsN (arF z.s) z.s.feeds.length ++ arcsN (arB z.s) z.s.brks.length ++ arcsN (arR z.s z.ss z.d) k) ++ [((2 + (z.s.feeds.length : Int) + x.brk), (2 + (z.s.feeds.length : Int) + (z.s.brks.length : Int) + (k : Int)), ld)] = (arcsN (arF z.s) z.s.feeds.length ++ arcsN (arB z.s) z.s.brks.length ++ arcsN (arR z.s z.ss z.d) (k + 1)) by rw [← HARC.out, arcsN_succ, List.append_assoc])
              have bnd := bndB HXX.out
              obtain ⟨ua, uc, hsh⟩ := own_shape hS.out.row
              subst hsh
              obtain ⟨un, hun⟩ : ∃ n, (arcsN (arF z.s) z.s.feeds.length ++ arcsN (arB z.s) z.s.brks.length ++ arcsN (arR z.s z.ss z.d) k).length = n := ⟨_, rfl⟩
              have hun2 : un ≤ 100 := by rw [← hun]; simp [arcsN_len]; omega
              have HUN := Lib.hid (show (arcsN (arF z.s) z.s.feeds.length ++ arcsN (arB z.s) z.s.brks.length ++ arcsN (arR z.s z.ss z.d) (k + 1)).length = un + 1 by rw [← HLL.out, List.length_append, hun]; rfl)
              have HRW := Lib.hid (show wr.ownsRow (v1.heap.size + 1) 67 3 (.slice ua un uc) un (v5.cellsA (arcsN (arF z.s) z.s.feeds.length ++ arcsN (arB z.s) z.s.brks.length ++ arcsN (arR z.s z.ss z.d) k)) by have h := hS.out.row; rwa [hun] at h)
              rw [hun] at hS
              have HX0 := Lib.hid (fun (X : World) (h : Below W.heap.size W X) => ((h.cell (p := ⟨pb, po + k * 4 + 1, none⟩) hpb).trans x0 : X.cell? ⟨pb, po + k * 4 + 1, none⟩ = some (.int .i64 x.brk)))
              have HSS := Lib.hid (fun (X : World) (h : Below W.heap.size W X) (hb : X.heap[v1.heap.size]? = some (.cells #[.int .i64 N, .slice ua un uc] 44 (0, 0))) => (by
                obtain ⟨f0, f1, f2, f3, f4, f5, f6, g0, g1, g2⟩ := HF.out X h
                exact ⟨f0, f1, f2, f3, f4, f5, f6, g0, g1, g2, cell_of hb rfl, HX0.out X h⟩ : (fun (X : World) => X.cell? ⟨B, 0, none⟩ = some (.slice A1 z.s.feeds.length z.p.c1) ∧ X.cell? ⟨B, 1, none⟩ = some (.slice A2 z.s.brks.length z.p.c2) ∧ X.cell? ⟨B, 2, none⟩ = some (.slice z.p.a3 z.s.loops.length z.p.c3) ∧ X.cell? ⟨B, 3, none⟩ = some (.slice (some ⟨pb, po, none⟩) z.s.racks.length z.p.c4) ∧ X.cell? ⟨B, 4, none⟩ = some (.int .i64 z.s.sw) ∧ X.cell? ⟨B, 5, none⟩ = some (.slice z.p.a5 z.s.links.length z.p.c5) ∧ X.cell? ⟨B, 6, none⟩ = some (.slice z.p.a6 z.s.hosts.length z.p.c6) ∧ X.cell? ⟨B + 1, 0, none⟩ = some (.slice z.A z.xs.length z.c) ∧ X.cell? ⟨B + 1 + 1, 0, none⟩ = some (.slice z.q.a1 z.d.hosts.length z.q.c1) ∧ X.cell? ⟨B + 1 + 1, 1, none⟩ = some (.slice z.q.a2 z.d.reps.length z.q.c2) ∧ X.cell? ⟨v1.heap.size, 1, none⟩ = some (.slice ua un uc) ∧ X.cell? ⟨pb, po + k * 4 + 1, none⟩ = some (.int .i64 x.brk)) X))
              have hw0 : IntKind.i64.wrap (2 + (z.s.feeds.length : Int) + x.brk) = (2 + (z.s.feeds.length : Int) + x.brk) := wrap_in (by omega) (by omega)
              have hw1 : IntKind.i64.wrap (2 + (z.s.feeds.length : Int) + (z.s.brks.length : Int) + (k : Int)) = (2 + (z.s.feeds.length : Int) + (z.s.brks.length : Int) + (k : Int)) := wrap_in (by omega) (by omega)
              have hH0 := HSS.out wr.drew (HSC.out _ _ _ hS.out.drew) hS.out.drew.box
              clear hx hun hld x0
              go_wp2_with (fail)
              clear f0 f1 f2 f3 f4 f5 f6 g0 g1 g2
              refine v5.region_z 22 hfm (S := fun (X : World) => X.cell? ⟨B, 0, none⟩ = some (.slice A1 z.s.feeds.length z.p.c1) ∧ X.cell? ⟨B, 1, none⟩ = some (.slice A2 z.s.brks.length z.p.c2) ∧ X.cell? ⟨B, 2, none⟩ = some (.slice z.p.a3 z.s.loops.length z.p.c3) ∧ X.cell? ⟨B, 3, none⟩ = some (.slice (some ⟨pb, po, none⟩) z.s.racks.length z.p.c4) ∧ X.cell? ⟨B, 4, none⟩ = some (.int .i64 z.s.sw) ∧ X.cell? ⟨B, 5, none⟩ = some (.slice z.p.a5 z.s.links.length z.p.c5) ∧ X.cell? ⟨B, 6, none⟩ = some (.slice z.p.a6 z.s.hosts.length z.p.c6) ∧ X.cell? ⟨B + 1, 0, none⟩ = some (.slice z.A z.xs.length z.c) ∧ X.cell? ⟨B + 1 + 1, 0, none⟩ = some (.slice z.q.a1 z.d.hosts.length z.q.c1) ∧ X.cell? ⟨B + 1 + 1, 1, none⟩ = some (.slice z.q.a2 z.d.reps.length z.q.c2) ∧ X.cell? ⟨v1.heap.size, 1, none⟩ = some (.slice ua un uc) ∧ X.cell? ⟨pb, po + k * 4 + 1, none⟩ = some (.int .i64 x.brk)) hH0 (fun hHeld => ?_)
              refine v5.takeZ 0 (some 96) (by kernel_rfl) rfl rfl (by kernel_rfl) (by kernel_rfl) (by kernel_rfl) (fun _ _ _ h => h) (by rfl) (by intro w ⟨g0, g1, g2, g3, g4, g5, g6, g7, g8, g9, g10, g11⟩; go_simp; try with_reducible rfl) hHeld ?_
              simp only [Act.put, List.setIfInBounds_toArray, List.set_cons_zero, List.set_cons_succ]
              refine v5.takeZ 1 (some 97) (by kernel_rfl) rfl rfl (by kernel_rfl) (by kernel_rfl) (by kernel_rfl) (fun _ _ _ h => h) (by rfl) (by intro w ⟨g0, g1, g2, g3, g4, g5, g6, g7, g8, g9, g10, g11⟩; go_simp; try with_reducible rfl) hHeld ?_
              simp only [Act.put, List.setIfInBounds_toArray, List.set_cons_zero, List.set_cons_succ]
              refine v5.takeZ 2 (some 98) (by kernel_rfl) rfl rfl (by kernel_rfl) (by kernel_rfl) (by kernel_rfl) (fun _ _ _ h => h) (by rfl) (by intro w ⟨g0, g1, g2, g3, g4, g5, g6, g7, g8, g9, g10, g11⟩; go_simp; try with_reducible rfl) hHeld ?_
              simp only [Act.put, List.setIfInBounds_toArray, List.set_cons_zero, List.set_cons_succ]
              refine v5.takeZ 3 (some 99) (by kernel_rfl) rfl rfl (by kernel_rfl) (by kernel_rfl) (by kernel_rfl) (fun _ _ _ h => h) (by rfl) (by intro w ⟨g0, g1, g2, g3, g4, g5, g6, g7, g8, g9, g10, g11⟩; go_simp; try with_reducible rfl) hHeld ?_
              simp only [Act.put, List.setIfInBounds_toArray, List.set_cons_zero, List.set_cons_succ]
              refine v5.takeZ 4 (some 100) (by kernel_rfl) rfl rfl (by kernel_rfl) (by kernel_rfl) (by kernel_rfl) (fun _ _ _ h => h) (by rfl) (by intro w ⟨g0, g1, g2, g3, g4, g5, g6, g7, g8, g9, g10, g11⟩; go_simp; try with_reducible rfl) hHeld ?_
              simp only [Act.put, List.setIfInBounds_toArray, List.set_cons_zero, List.set_cons_succ]
              refine v5.takeZ 5 (some 101) (by kernel_rfl) rfl rfl (by kernel_rfl) (by kernel_rfl) (by kernel_rfl) (fun _ _ _ h => h) (by rfl) (by intro w ⟨g0, g1, g2, g3, g4, g5, g6, g7, g8, g9, g10, g11⟩; go_simp; try with_reducible rfl) hHeld ?_
              simp only [Act.put, List.setIfInBounds_toArray, List.set_cons_zero, List.set_cons_succ]
              refine v5.takeZ 6 (some 102) (by kernel_rfl) rfl rfl (by kernel_rfl) (by kernel_rfl) (by kernel_rfl) (fun _ _ _ h => h) (by rfl) (by intro w ⟨g0, g1, g2, g3, g4, g5, g6, g7, g8, g9, g10, g11⟩; go_simp; try with_reducible rfl) hHeld ?_
              simp only [Act.put, List.setIfInBounds_toArray, List.set_cons_zero, List.set_cons_succ]
              refine v5.takeZ 7 (some 103) (by kernel_rfl) rfl rfl (by kernel_rfl) (by kernel_rfl) (by kernel_rfl) (fun _ _ _ h => h) (by rfl) (by intro w ⟨g0, g1, g2, g3, g4, g5, g6, g7, g8, g9, g10, g11⟩; go_simp; try with_reducible rfl) hHeld ?_
              simp only [Act.put, List.setIfInBounds_toArray, List.set_cons_zero, List.set_cons_succ]
              refine v5.takeZ 8 (some 104) (by kernel_rfl) rfl rfl (by kernel_rfl) (by kernel_rfl) (by kernel_rfl) (fun _ _ _ h => h) (by rfl) (by intro w ⟨g0, g1, g2, g3, g4, g5, g6, g7, g8, g9, g10, g11⟩; go_simp; try with_reducible rfl) hHeld ?_
              simp only [Act.put, List.setIfInBounds_toArray, List.set_cons_zero, List.set_cons_succ]
              refine v5.takeZ 9 (some 105) (by kernel_rfl) rfl rfl (by kernel_rfl) (by kernel_rfl) (by kernel_rfl) (fun _ _ _ h => h) (by rfl) (by intro w ⟨g0, g1, g2, g3, g4, g5, g6, g7, g8, g9, g10, g11⟩; go_simp; try with_reducible rfl) hHeld ?_
              simp only [Act.put, List.setIfInBounds_toArray, List.set_cons_zero, List.set_cons_succ]
              refine v5.takeZ 10 (some 106) (by kernel_rfl) rfl rfl (by kernel_rfl) (by kernel_rfl) (by kernel_rfl) (fun _ _ _ h => h) (by rfl) (by intro w ⟨g0, g1, g2, g3, g4, g5, g6, g7, g8, g9, g10, g11⟩; go_simp; try with_reducible rfl) hHeld ?_
              simp only [Act.put, List.setIfInBounds_toArray, List.set_cons_zero, List.set_cons_succ]
              refine v5.takeZ 11 (some 107) (by kernel_rfl) rfl rfl (by kernel_rfl) (by kernel_rfl) (by kernel_rfl) (fun _ _ _ h => h) (by rfl) (by intro w ⟨g0, g1, g2, g3, g4, g5, g6, g7, g8, g9, g10, g11⟩; go_simp; try with_reducible rfl) hHeld ?_
              simp only [Act.put, List.setIfInBounds_toArray, List.set_cons_zero, List.set_cons_succ]
              refine v5.takeZ 12 (some 108) (by kernel_rfl) rfl rfl (by kernel_rfl) (by kernel_rfl) (by kernel_rfl) (fun _ _ _ h => h) (by rfl) (by intro w ⟨g0, g1, g2, g3, g4, g5, g6, g7, g8, g9, g10, g11⟩; go_simp; try with_reducible rfl) hHeld ?_
              simp only [Act.put, List.setIfInBounds_toArray, List.set_cons_zero, List.set_cons_succ]
              refine v5.takeZ 13 (some 109) (by kernel_rfl) rfl rfl (by kernel_rfl) (by kernel_rfl) (by kernel_rfl) (fun _ _ _ h => h) (by rfl) (by intro w ⟨g0, g1, g2, g3, g4, g5, g6, g7, g8, g9, g10, g11⟩; go_simp; try with_reducible rfl) hHeld ?_
              simp only [Act.put, List.setIfInBounds_toArray, List.set_cons_zero, List.set_cons_succ]
              refine v5.takeZ 14 (some 110) (by kernel_rfl) rfl rfl (by kernel_rfl) (by kernel_rfl) (by kernel_rfl) (fun _ _ _ h => h) (by rfl) (by intro w ⟨g0, g1, g2, g3, g4, g5, g6, g7, g8, g9, g10, g11⟩; go_simp; try with_reducible rfl) hHeld ?_
              simp only [Act.put, List.setIfInBounds_toArray, List.set_cons_zero, List.set_cons_succ]
              refine v5.takeZ 15 (some 111) (by kernel_rfl) rfl rfl (by kernel_rfl) (by kernel_rfl) (by kernel_rfl) (fun _ _ _ h => h) (by rfl) (by intro w ⟨g0, g1, g2, g3, g4, g5, g6, g7, g8, g9, g10, g11⟩; go_simp; try with_reducible rfl) hHeld ?_
              simp only [Act.put, List.setIfInBounds_toArray, List.set_cons_zero, List.set_cons_succ]
              refine v5.takeZ 16 (some 112) (by kernel_rfl) rfl rfl (by kernel_rfl) (by kernel_rfl) (by kernel_rfl) (fun _ _ _ h => h) (by rfl) (by intro w ⟨g0, g1, g2, g3, g4, g5, g6, g7, g8, g9, g10, g11⟩; go_simp; try with_reducible rfl) hHeld ?_
              simp only [Act.put, List.setIfInBounds_toArray, List.set_cons_zero, List.set_cons_succ]
              refine v5.oneZ 17 rfl (by kernel_rfl) (fun K hK => ?_)
              go_simp
              go_at_call 13
              refine (HRC.out wr.drew (HZ.out wr.drew (HSC.out _ _ _ hS.out.drew))).mono ?_
              rintro e v2 ⟨rfl, bb⟩
              have HS1 := Lib.hid (hS.out.drew.on bb)
              have HRW1 := Lib.hid (own_on (own_on HRW.out (Below.refl wr.heap.size wr).drew (Nat.le_refl _)) bb (Nat.le_refl _))
              clear bb hHeld hH0
              have hHeld := HSS.out v2 (HSC.out _ _ _ HS1.out) HS1.out.box
              refine hK.out _ _ (.inr hHeld) ?_
              clear hK K
              try simp only [Act.put, List.setIfInBounds_toArray, List.set_cons_zero, List.set_cons_succ]
              refine v5.takeZ 18 (some 114) (by kernel_rfl) rfl rfl (by kernel_rfl) (by kernel_rfl) (by kernel_rfl) (fun _ _ _ h => h) (by rfl) (by intro w ⟨g0, g1, g2, g3, g4, g5, g6, g7, g8, g9, g10, g11⟩; go_simp; try with_reducible rfl) hHeld ?_
              simp only [Act.put, List.setIfInBounds_toArray, List.set_cons_zero, List.set_cons_succ]
              obtain ⟨X1, hX1⟩ : ∃ X, X = v2.alloc (.cells #[.int .i64 (2 + (z.s.feeds.length : Int) + x.brk), .int .i64 (2 + (z.s.feeds.length : Int) + (z.s.brks.length : Int) + (k : Int)), .int .i64 ld] 67) := ⟨_, rfl⟩
              have bX1 : Below v2.heap.size v2 X1 := by rw [hX1]; exact (Below.refl _ _).alloc (Nat.le_refl _) _
              have HZ1 := Lib.hid (show X1.heap.size = v2.heap.size + 1 by rw [hX1, World.size_alloc])
              have PT := pt_one v2 (2 + (z.s.feeds.length : Int) + x.brk) (2 + (z.s.feeds.length : Int) + (z.s.brks.length : Int) + (k : Int)) ld
              rw [← hX1] at PT
              have HN1 := Lib.hid (pt_news PT)
              have HS2 := Lib.hid (HS1.out.on bX1)
              have HRW2 := Lib.hid (own_on HRW1.out bX1 (Nat.le_refl _))
              clear bX1 PT
              refine v5.oneZ 19 rfl (by kernel_rfl) (fun K hK => ?_)
              go_simp
              rw [← hX1]
              refine hK.out _ _ (.inr (HSS.out _ (HSC.out _ _ _ HS2.out) HS2.out.box)) ?_
              clear hK K hHeld hX1
              try simp only [Act.put, List.setIfInBounds_toArray, List.set_cons_zero, List.set_cons_succ]
              refine v5.oneZ 20 rfl (by kernel_rfl) (fun K hK => ?_)
              refine step_append_lies _ rfl (.tmp 97) (.tmp 115) 42 rfl (v1.heap.size + 1) 67 i0 (.agg #[.int .i64 0, .int .i64 0, .int .i64 0]) 3 24 Tryz.underlying42 hi0 hz0 hz1 hz2 rfl (by decide) (.slice ua un uc) un (v5.cellsA (arcsN (arF z.s) z.s.feeds.length ++ arcsN (arB z.s) z.s.brks.length ++ arcsN (arR z.s z.ss z.d) k)) (by simp [Act.eval, Act.put]) (show World.ownsRow X1 _ _ _ _ _ _ from HRW2.out) ⟨v2.heap.size, 0, none⟩ 1 1 (v5.cellsA [((2 + (z.s.feeds.length : Int) + x.brk), (2 + (z.s.feeds.length : Int) + (z.s.brks.length : Int) + (k : Int)), ld)]) (by simp [Act.eval, Act.put]) rfl (show ∀ j u, _ → World.cell? X1 _ = _ from HN1.out) v5.cellsA_one (by decide) (by unfold maxLen; omega) (by omega) (show v1.heap.size + 1 ≤ X1.heap.size from by have := HS2.out.lt; exact this) (v2.heap.size + 1) (show X1.heap.size = _ from HZ1.out) ?_
              intro g cap Z hown hgrow hat hlt5
              have hgrow2 : X1.grownBy Z (Value.slice ua un uc).ownBlock := ⟨hgrow.os, hgrow.tape, hgrow.output, hgrow.size, hgrow.block⟩
              rw [← cellsA_append, HLL.out] at hown
              have HP := Lib.hid (HS2.out.push (m := (arcsN (arF z.s) z.s.feeds.length ++ arcsN (arB z.s) z.s.brks.length ++ arcsN (arR z.s z.ss z.d) (k + 1))) (g := g) (cap := cap) (by rw [HUN.out]; exact hown) (by rcases hat with h | h; exact .inl h; exact .inr (by have := HZ1.out; omega)) hgrow2)
              rw [HUN.out] at HP
              have hbx := HS2.out.box_in hgrow2
              have KZ : Below W.heap.size W Z := (HSC.out _ _ _ HS2.out).grown hgrow2 (by have := HS2.out.lt; omega) (fun q e => by have := (HS2.out.own e).1; omega)
              have hHeld := HSS.out Z KZ hbx
              have d1 := cell_of (o := 1) hbx rfl
              have q1 := frz hbx 1
              clear hown hgrow hgrow2 hat KZ hbx
              refine hK.out _ _ (.inr hHeld) ?_
              clear hK K
              try simp only [Act.put, List.setIfInBounds_toArray, List.set_cons_zero, List.set_cons_succ]
              refine v5.takeZ 21 (some 117) (by kernel_rfl) rfl rfl (by kernel_rfl) (by kernel_rfl) (by kernel_rfl) (fun _ _ _ h => h) (by rfl) (by intro w ⟨g0, g1, g2, g3, g4, g5, g6, g7, g8, g9, g10, g11⟩; go_simp; try with_reducible rfl) hHeld ?_
              simp only [Act.put, List.setIfInBounds_toArray, List.set_cons_zero, List.set_cons_succ]
              clear hHeld
              refine v5.oneZ 22 rfl (by kernel_rfl) (fun K hK => ?_)
              go_simp
              refine hK.out _ _ (.inl rfl) ?_
              clear hK K d1 q1
              refine v5.doneZ (by kernel_rfl) ?_ _
              go_wp2_with (fail)
              exact ⟨⟨k + 1, _, by omega, by go_num, HP⟩, by simp only [intOf]; omega⟩
            · obtain rfl : k = z.s.racks.length := by omega
              skip
              go_wp2_with (fail)
              clear f0 f1 f2 f3 f4 f5 f6 g0 g1 g2
              obtain ⟨wA, hwA⟩ : ∃ X, X = wr := ⟨_, rfl⟩
              subst hwA
              have hS0 := hS
              clear bndB
              have bndB : ∀ {i : Nat} {x : Rk}, z.s.racks[i]? = some x → True := fun _ => trivial
              go_loopw [14] (fun i wr => ∃ (k : Nat) (U : Value), k ≤ z.s.racks.length ∧ i = .int .i64 (k : Int) ∧ Hid (NetSt v1 N (arcsN (arF z.s) z.s.feeds.length ++ arcsN (arB z.s) z.s.brks.length ++ arcsN (arR z.s z.ss z.d) z.s.racks.length ++ arcsN (arO z.s z.ss z.d) k) wr U)) (fun i _ => z.s.racks.length - (intOf i).toNat)
              case atStart => exact ⟨0, _, Nat.zero_le _, rfl, Lib.hid (by have h := hS0.out; simpa [arcsN] using h)⟩
              case round =>
                obtain ⟨k, U, hk, rfl, hS⟩ := hrel
                have hki : ((k : Nat) : Int).toNat = k := by omega
                obtain ⟨f0, f1, f2, f3, f4, f5, f6, g0, g1, g2⟩ := HF.out wr (HSC.out _ _ _ hS.out)
                by_cases hlt : k < z.s.racks.length
                · obtain ⟨x, hx⟩ : ∃ x, z.s.racks[k]? = some x := ⟨_, List.getElem?_eq_getElem hlt⟩
                  have HXX := Lib.hid hx
                  have hki2 : (k : Int) < (z.s.racks.length : Int) := by omega
                  obtain ⟨ld, hld⟩ : ∃ t, ldR z.s z.ss z.d k = t := ⟨_, rfl⟩
                  have HRC := Lib.hid (fun (X : World) (hX : SnAt X z) => HRK.out (k : Int) X hX)
                  rw [show pwV z true (isRack z.s (k : Int)) = ld from hld] at HRC
                  have HARC := Lib.hid (show arO z.s z.ss z.d k = ((2 + (z.s.feeds.length : Int) + (z.s.brks.length : Int) + (k : Int)), 1, ld) by unfold arO nF nB; rw [hld])
                  have HLL := Lib.hid (show (arcsN (arF z.s) z.s.feeds.length ++ arcsN (arB z.s) z.s.brks.length ++ arcsN (arR z.s z.ss z.d) z.s.racks.length ++ arcsN (arO z.s z.ss z.d) k) ++ [((2 + (z.s.feeds.length : Int) + (z.s.brks.length : Int) + (k : Int)), 1, ld)] = (arcsN (arF z.s) z.s.feeds.length ++ arcsN (arB z.s) z.s.brks.length ++ arcsN (arR z.s z.ss z.d) z.s.racks.length ++ arcsN (arO z.s z.ss z.d) (k + 1)) by rw [← HARC.out, arcsN_succ, List.append_assoc])
                  have bnd := bndB HXX.out
                  obtain ⟨ua, uc, hsh⟩ := own_shape hS.out.row
                  subst hsh
                  obtain ⟨un, hun⟩ : ∃ n, (arcsN (arF z.s) z.s.feeds.length ++ arcsN (arB z.s) z.s.brks.length ++ arcsN (arR z.s z.ss z.d) z.s.racks.length ++ arcsN (arO z.s z.ss z.d) k).length = n := ⟨_, rfl⟩
                  have hun2 : un ≤ 100 := by rw [← hun]; simp [arcsN_len]; omega
                  have HUN := Lib.hid (show (arcsN (arF z.s) z.s.feeds.length ++ arcsN (arB z.s) z.s.brks.length ++ arcsN (arR z.s z.ss z.d) z.s.racks.length ++ arcsN (arO z.s z.ss z.d) (k + 1)).length = un + 1 by rw [← HLL.out, List.length_append, hun]; rfl)
                  have HRW := Lib.hid (show wr.ownsRow (v1.heap.size + 1) 67 3 (.slice ua un uc) un (v5.cellsA (arcsN (arF z.s) z.s.feeds.length ++ arcsN (arB z.s) z.s.brks.length ++ arcsN (arR z.s z.ss z.d) z.s.racks.length ++ arcsN (arO z.s z.ss z.d) k)) by have h := hS.out.row; rwa [hun] at h)
                  rw [hun] at hS
                  have HSS := Lib.hid (fun (X : World) (h : Below W.heap.size W X) (hb : X.heap[v1.heap.size]? = some (.cells #[.int .i64 N, .slice ua un uc] 44 (0, 0))) => (by
                    obtain ⟨f0, f1, f2, f3, f4, f5, f6, g0, g1, g2⟩ := HF.out X h
                    exact ⟨f0, f1, f2, f3, f4, f5, f6, g0, g1, g2, cell_of hb rfl⟩ : (fun (X : World) => X.cell? ⟨B, 0, none⟩ = some (.slice A1 z.s.feeds.length z.p.c1) ∧ X.cell? ⟨B, 1, none⟩ = some (.slice A2 z.s.brks.length z.p.c2) ∧ X.cell? ⟨B, 2, none⟩ = some (.slice z.p.a3 z.s.loops.length z.p.c3) ∧ X.cell? ⟨B, 3, none⟩ = some (.slice A4 z.s.racks.length z.p.c4) ∧ X.cell? ⟨B, 4, none⟩ = some (.int .i64 z.s.sw) ∧ X.cell? ⟨B, 5, none⟩ = some (.slice z.p.a5 z.s.links.length z.p.c5) ∧ X.cell? ⟨B, 6, none⟩ = some (.slice z.p.a6 z.s.hosts.length z.p.c6) ∧ X.cell? ⟨B + 1, 0, none⟩ = some (.slice z.A z.xs.length z.c) ∧ X.cell? ⟨B + 1 + 1, 0, none⟩ = some (.slice z.q.a1 z.d.hosts.length z.q.c1) ∧ X.cell? ⟨B + 1 + 1, 1, none⟩ = some (.slice z.q.a2 z.d.reps.length z.q.c2) ∧ X.cell? ⟨v1.heap.size, 1, none⟩ = some (.slice ua un uc)) X))
                  have hw0 : IntKind.i64.wrap (2 + (z.s.feeds.length : Int) + (z.s.brks.length : Int) + (k : Int)) = (2 + (z.s.feeds.length : Int) + (z.s.brks.length : Int) + (k : Int)) := wrap_in (by omega) (by omega)
                  have hH0 := HSS.out wr.drew (HSC.out _ _ _ hS.out.drew) hS.out.drew.box
                  clear hx hun hld
                  go_wp2_with (fail)
                  clear f0 f1 f2 f3 f4 f5 f6 g0 g1 g2
                  refine v5.region_z 14 hfm (S := fun (X : World) => X.cell? ⟨B, 0, none⟩ = some (.slice A1 z.s.feeds.length z.p.c1) ∧ X.cell? ⟨B, 1, none⟩ = some (.slice A2 z.s.brks.length z.p.c2) ∧ X.cell? ⟨B, 2, none⟩ = some (.slice z.p.a3 z.s.loops.length z.p.c3) ∧ X.cell? ⟨B, 3, none⟩ = some (.slice A4 z.s.racks.length z.p.c4) ∧ X.cell? ⟨B, 4, none⟩ = some (.int .i64 z.s.sw) ∧ X.cell? ⟨B, 5, none⟩ = some (.slice z.p.a5 z.s.links.length z.p.c5) ∧ X.cell? ⟨B, 6, none⟩ = some (.slice z.p.a6 z.s.hosts.length z.p.c6) ∧ X.cell? ⟨B + 1, 0, none⟩ = some (.slice z.A z.xs.length z.c) ∧ X.cell? ⟨B + 1 + 1, 0, none⟩ = some (.slice z.q.a1 z.d.hosts.length z.q.c1) ∧ X.cell? ⟨B + 1 + 1, 1, none⟩ = some (.slice z.q.a2 z.d.reps.length z.q.c2) ∧ X.cell? ⟨v1.heap.size, 1, none⟩ = some (.slice ua un uc)) hH0 (fun hHeld => ?_)
                  refine v5.takeZ 0 (some 125) (by kernel_rfl) rfl rfl (by kernel_rfl) (by kernel_rfl) (by kernel_rfl) (fun _ _ _ h => h) (by rfl) (by intro w ⟨g0, g1, g2, g3, g4, g5, g6, g7, g8, g9, g10⟩; go_simp; try with_reducible rfl) hHeld ?_
                  simp only [Act.put, List.setIfInBounds_toArray, List.set_cons_zero, List.set_cons_succ]
                  refine v5.takeZ 1 (some 126) (by kernel_rfl) rfl rfl (by kernel_rfl) (by kernel_rfl) (by kernel_rfl) (fun _ _ _ h => h) (by rfl) (by intro w ⟨g0, g1, g2, g3, g4, g5, g6, g7, g8, g9, g10⟩; go_simp; try with_reducible rfl) hHeld ?_
                  simp only [Act.put, List.setIfInBounds_toArray, List.set_cons_zero, List.set_cons_succ]
                  refine v5.takeZ 2 (some 127) (by kernel_rfl) rfl rfl (by kernel_rfl) (by kernel_rfl) (by kernel_rfl) (fun _ _ _ h => h) (by rfl) (by intro w ⟨g0, g1, g2, g3, g4, g5, g6, g7, g8, g9, g10⟩; go_simp; try with_reducible rfl) hHeld ?_
                  simp only [Act.put, List.setIfInBounds_toArray, List.set_cons_zero, List.set_cons_succ]
                  refine v5.takeZ 3 (some 128) (by kernel_rfl) rfl rfl (by kernel_rfl) (by kernel_rfl) (by kernel_rfl) (fun _ _ _ h => h) (by rfl) (by intro w ⟨g0, g1, g2, g3, g4, g5, g6, g7, g8, g9, g10⟩; go_simp; try with_reducible rfl) hHeld ?_
                  simp only [Act.put, List.setIfInBounds_toArray, List.set_cons_zero, List.set_cons_succ]
                  refine v5.takeZ 4 (some 129) (by kernel_rfl) rfl rfl (by kernel_rfl) (by kernel_rfl) (by kernel_rfl) (fun _ _ _ h => h) (by rfl) (by intro w ⟨g0, g1, g2, g3, g4, g5, g6, g7, g8, g9, g10⟩; go_simp; try with_reducible rfl) hHeld ?_
                  simp only [Act.put, List.setIfInBounds_toArray, List.set_cons_zero, List.set_cons_succ]
                  refine v5.takeZ 5 (some 130) (by kernel_rfl) rfl rfl (by kernel_rfl) (by kernel_rfl) (by kernel_rfl) (fun _ _ _ h => h) (by rfl) (by intro w ⟨g0, g1, g2, g3, g4, g5, g6, g7, g8, g9, g10⟩; go_simp; try with_reducible rfl) hHeld ?_
                  simp only [Act.put, List.setIfInBounds_toArray, List.set_cons_zero, List.set_cons_succ]
                  refine v5.takeZ 6 (some 131) (by kernel_rfl) rfl rfl (by kernel_rfl) (by kernel_rfl) (by kernel_rfl) (fun _ _ _ h => h) (by rfl) (by intro w ⟨g0, g1, g2, g3, g4, g5, g6, g7, g8, g9, g10⟩; go_simp; try with_reducible rfl) hHeld ?_
                  simp only [Act.put, List.setIfInBounds_toArray, List.set_cons_zero, List.set_cons_succ]
                  refine v5.takeZ 7 (some 132) (by kernel_rfl) rfl rfl (by kernel_rfl) (by kernel_rfl) (by kernel_rfl) (fun _ _ _ h => h) (by rfl) (by intro w ⟨g0, g1, g2, g3, g4, g5, g6, g7, g8, g9, g10⟩; go_simp; try with_reducible rfl) hHeld ?_
                  simp only [Act.put, List.setIfInBounds_toArray, List.set_cons_zero, List.set_cons_succ]
                  refine v5.takeZ 8 (some 133) (by kernel_rfl) rfl rfl (by kernel_rfl) (by kernel_rfl) (by kernel_rfl) (fun _ _ _ h => h) (by rfl) (by intro w ⟨g0, g1, g2, g3, g4, g5, g6, g7, g8, g9, g10⟩; go_simp; try with_reducible rfl) hHeld ?_
                  simp only [Act.put, List.setIfInBounds_toArray, List.set_cons_zero, List.set_cons_succ]
                  refine v5.oneZ 9 rfl (by kernel_rfl) (fun K hK => ?_)
                  go_simp
                  go_at_call 13
                  refine (HRC.out wr.drew (HZ.out wr.drew (HSC.out _ _ _ hS.out.drew))).mono ?_
                  rintro e v2 ⟨rfl, bb⟩
                  have HS1 := Lib.hid (hS.out.drew.on bb)
                  have HRW1 := Lib.hid (own_on (own_on HRW.out (Below.refl wr.heap.size wr).drew (Nat.le_refl _)) bb (Nat.le_refl _))
                  clear bb hHeld hH0
                  have hHeld := HSS.out v2 (HSC.out _ _ _ HS1.out) HS1.out.box
                  refine hK.out _ _ (.inr hHeld) ?_
                  clear hK K
                  try simp only [Act.put, List.setIfInBounds_toArray, List.set_cons_zero, List.set_cons_succ]
                  refine v5.takeZ 10 (some 135) (by kernel_rfl) rfl rfl (by kernel_rfl) (by kernel_rfl) (by kernel_rfl) (fun _ _ _ h => h) (by rfl) (by intro w ⟨g0, g1, g2, g3, g4, g5, g6, g7, g8, g9, g10⟩; go_simp; try with_reducible rfl) hHeld ?_
                  simp only [Act.put, List.setIfInBounds_toArray, List.set_cons_zero, List.set_cons_succ]
                  obtain ⟨X1, hX1⟩ : ∃ X, X = v2.alloc (.cells #[.int .i64 (2 + (z.s.feeds.length : Int) + (z.s.brks.length : Int) + (k : Int)), .int .i64 1, .int .i64 ld] 67) := ⟨_, rfl⟩
                  have bX1 : Below v2.heap.size v2 X1 := by rw [hX1]; exact (Below.refl _ _).alloc (Nat.le_refl _) _
                  have HZ1 := Lib.hid (show X1.heap.size = v2.heap.size + 1 by rw [hX1, World.size_alloc])
                  have PT := pt_one v2 (2 + (z.s.feeds.length : Int) + (z.s.brks.length : Int) + (k : Int)) 1 ld
                  rw [← hX1] at PT
                  have HN1 := Lib.hid (pt_news PT)
                  have HS2 := Lib.hid (HS1.out.on bX1)
                  have HRW2 := Lib.hid (own_on HRW1.out bX1 (Nat.le_refl _))
                  clear bX1 PT
                  refine v5.oneZ 11 rfl (by kernel_rfl) (fun K hK => ?_)
                  go_simp
                  rw [← hX1]
                  refine hK.out _ _ (.inr (HSS.out _ (HSC.out _ _ _ HS2.out) HS2.out.box)) ?_
                  clear hK K hHeld hX1
                  try simp only [Act.put, List.setIfInBounds_toArray, List.set_cons_zero, List.set_cons_succ]
                  refine v5.oneZ 12 rfl (by kernel_rfl) (fun K hK => ?_)
                  refine step_append_lies _ rfl (.tmp 126) (.tmp 136) 42 rfl (v1.heap.size + 1) 67 i0 (.agg #[.int .i64 0, .int .i64 0, .int .i64 0]) 3 24 Tryz.underlying42 hi0 hz0 hz1 hz2 rfl (by decide) (.slice ua un uc) un (v5.cellsA (arcsN (arF z.s) z.s.feeds.length ++ arcsN (arB z.s) z.s.brks.length ++ arcsN (arR z.s z.ss z.d) z.s.racks.length ++ arcsN (arO z.s z.ss z.d) k)) (by simp [Act.eval, Act.put]) (show World.ownsRow X1 _ _ _ _ _ _ from HRW2.out) ⟨v2.heap.size, 0, none⟩ 1 1 (v5.cellsA [((2 + (z.s.feeds.length : Int) + (z.s.brks.length : Int) + (k : Int)), 1, ld)]) (by simp [Act.eval, Act.put]) rfl (show ∀ j u, _ → World.cell? X1 _ = _ from HN1.out) v5.cellsA_one (by decide) (by unfold maxLen; omega) (by omega) (show v1.heap.size + 1 ≤ X1.heap.size from by have := HS2.out.lt; exact this) (v2.heap.size + 1) (show X1.heap.size = _ from HZ1.out) ?_
                  intro g cap Z hown hgrow hat hlt5
                  have hgrow2 : X1.grownBy Z (Value.slice ua un uc).ownBlock := ⟨hgrow.os, hgrow.tape, hgrow.output, hgrow.size, hgrow.block⟩
                  rw [← cellsA_append, HLL.out] at hown
                  have HP := Lib.hid (HS2.out.push (m := (arcsN (arF z.s) z.s.feeds.length ++ arcsN (arB z.s) z.s.brks.length ++ arcsN (arR z.s z.ss z.d) z.s.racks.length ++ arcsN (arO z.s z.ss z.d) (k + 1))) (g := g) (cap := cap) (by rw [HUN.out]; exact hown) (by rcases hat with h | h; exact .inl h; exact .inr (by have := HZ1.out; omega)) hgrow2)
                  rw [HUN.out] at HP
                  have hbx := HS2.out.box_in hgrow2
                  have KZ : Below W.heap.size W Z := (HSC.out _ _ _ HS2.out).grown hgrow2 (by have := HS2.out.lt; omega) (fun q e => by have := (HS2.out.own e).1; omega)
                  have hHeld := HSS.out Z KZ hbx
                  have d1 := cell_of (o := 1) hbx rfl
                  have q1 := frz hbx 1
                  clear hown hgrow hgrow2 hat KZ hbx
                  refine hK.out _ _ (.inr hHeld) ?_
                  clear hK K
                  try simp only [Act.put, List.setIfInBounds_toArray, List.set_cons_zero, List.set_cons_succ]
                  refine v5.takeZ 13 (some 138) (by kernel_rfl) rfl rfl (by kernel_rfl) (by kernel_rfl) (by kernel_rfl) (fun _ _ _ h => h) (by rfl) (by intro w ⟨g0, g1, g2, g3, g4, g5, g6, g7, g8, g9, g10⟩; go_simp; try with_reducible rfl) hHeld ?_
                  simp only [Act.put, List.setIfInBounds_toArray, List.set_cons_zero, List.set_cons_succ]
                  clear hHeld
                  refine v5.oneZ 14 rfl (by kernel_rfl) (fun K hK => ?_)
                  go_simp
                  refine hK.out _ _ (.inl rfl) ?_
                  clear hK K d1 q1
                  refine v5.doneZ (by kernel_rfl) ?_ _
                  go_wp2_with (fail)
                  exact ⟨⟨k + 1, _, by omega, by go_num, HP⟩, by simp only [intOf]; omega⟩
                · obtain rfl : k = z.s.racks.length := by omega
                  obtain ⟨ua, uc, hsh⟩ := own_shape hS.out.row
                  subst hsh
                  obtain ⟨LL, hLL⟩ : ∃ l, (arcsN (arF z.s) z.s.feeds.length ++ arcsN (arB z.s) z.s.brks.length ++ arcsN (arR z.s z.ss z.d) z.s.racks.length ++ arcsN (arO z.s z.ss z.d) z.s.racks.length) = l := ⟨_, rfl⟩
                  have HLE := Lib.hid (show netLV z true = LL from hLL)
                  rw [hLL] at hS
                  clear hLL
                  have K9 := HSC.out _ _ _ hS.out
                  have q9 := HM0.out wr K9
                  have c0 := cell_of (o := 0) q9 rfl
                  have c1 := cell_of (o := 1) q9 rfl
                  have f0' := frz q9 0
                  have f1' := frz q9 1
                  have b0 := cell_of (o := 0) hS.out.box rfl
                  have b1 := cell_of (o := 1) hS.out.box rfl
                  have HQ9 := Lib.hid q9
                  have HK9 := Lib.hid K9
                  have hB3 : B + 1 + 1 + 1 < W.heap.size := at_lt (HM0.out W HKW.out)
                  have PT := v5.own_ptSl hS.out.row
                  have HOW := Lib.hid (own_off2 hS.out.row (b := B + 1 + 1 + 1) (i := 0) (j := 1) (fun q hq => by have := (hS.out.own hq).1; omega) (.int .i64 N) (.slice ua LL.length uc))
                  clear K9 q9 PT
                  go_wp2_with (fail)
                  refine retNet rfl rfl rfl (x0 := .int .i64 N) (x1 := .slice ua LL.length uc) (row_store2n HQ9.out _ _) ⟨_, by rw [show netNV z true = N by rw [← HN.out]; show ((2 + nF z.s + nB z.s + nR z.s : Nat) : Int) = _; unfold nF nB nR; omega], ?_, ?_⟩
                  · rw [HLE.out]; exact v5.own_ptSl HOW.out
                  · rw [hBB]; exact ((below_join HB.out HK9.out hle).setCell (p := ⟨B + 1 + 1 + 1, 0, none⟩) (by show B ≤ B + 1 + 1 + 1; omega) _).setCell (p := ⟨B + 1 + 1 + 1, 1, none⟩) (by show B ≤ B + 1 + 1 + 1; omega) _
end Go.Proofs.YtidpiokkfnhobaaGreat
