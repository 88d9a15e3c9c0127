/-
  DERIVED. The law RatioOps. (Written by gen/genVH.py.)
-/
import Derived.Test.YtfdkdloldjfnjaaGreatDoorVG
import Derived.Test.YtfdkdloldjfnjaaGreatDoorVE
import Derived.Test.YtfdkdloldjfnjaaGreatDoorTO
import Derived.Deep.RegionHeld3
import Derived.Deep.Cut
set_option linter.unusedVariables false
set_option linter.unusedSimpArgs false
namespace Go.Proofs.YtfdkdloldjfnjaaGreatDoor
open Go.RowKit
set_option maxRecDepth 100000

theorem RB.rc {W : World} {b : Nat} {v : Value} {s : Bool} {la lb : List Nat} (h : RB W b v s la lb) : Rc W v s la lb := by obtain ⟨_, _, _, _, h⟩ := h; exact h
theorem RB.cells {W : World} {b : Nat} {s s' : Bool} {la lb : List Nat} {va vb : Value} (h : RB W b (.agg #[.bool s', va, vb]) s la lb) : W.cell? ⟨b, 0, none⟩ = some (.bool s') ∧ W.cell? ⟨b, 1, none⟩ = some va ∧ W.cell? ⟨b, 2, none⟩ = some vb := by
  obtain ⟨ua, ub, e, h1, -⟩ := h
  injection e with e
  injection e with e
  simp only [List.cons.injEq, Value.bool.injEq, and_true] at e
  obtain ⟨rfl, rfl, rfl⟩ := e
  exact h1.cells
theorem Rc.ls2 {w : World} {s : Bool} {va vb : Value} {a b : List Nat} (h : Rc w (.agg #[.bool s, va, vb]) s a b) : Ls w va a ∧ Ls w vb b := by
  obtain ⟨ua, ub, e, h1, -, h2, -⟩ := h
  injection e with e
  injection e with e
  simp only [List.cons.injEq, and_true, true_and] at e
  obtain ⟨rfl, rfl⟩ := e
  exact ⟨h1, h2⟩
set_option maxHeartbeats 32000000 in
theorem ops_walk (s t : Bool) (a b c d la lb lc ld : List Nat) (hla : Hid (la = a.take 40)) (hlb : Hid (lb = b.take 40)) (hlc : Hid (lc = c.take 40)) (hld : Hid (ld = d.take 40)) (R0 R1 R2 R3 : Option (Bool × Nat × Nat)) (Z0 Z1 Z2 Z3 CV CE : Int)
    (hF0 : Hid (∀ X v u, Env X → Rc X v s la lb → Rc X u t lc ld → Calls Tryz.prog 24 #[v, u] X (ResPost R0 Z0 X))) (hG0 : Hid (∀ X v u, Rc X v s la lb → Rc X u t lc ld → Calls Tryz.prog 28 #[v, u] X (ResPost R0 Z0 X)))
    (hF1 : Hid (∀ X v u, Env X → Rc X v s la lb → Rc X u t lc ld → Calls Tryz.prog 25 #[v, u] X (ResPost R1 Z1 X))) (hG1 : Hid (∀ X v u, Rc X v s la lb → Rc X u t lc ld → Calls Tryz.prog 29 #[v, u] X (ResPost R1 Z1 X)))
    (hF2 : Hid (∀ X v u, Env X → Rc X v s la lb → Rc X u t lc ld → Calls Tryz.prog 26 #[v, u] X (ResPost R2 Z2 X))) (hG2 : Hid (∀ X v u, Rc X v s la lb → Rc X u t lc ld → Calls Tryz.prog 30 #[v, u] X (ResPost R2 Z2 X)))
    (hF3 : Hid (∀ X v u, Env X → Rc X v s la lb → Rc X u t lc ld → Calls Tryz.prog 27 #[v, u] X (ResPost R3 Z3 X))) (hG3 : Hid (∀ X v u, Rc X v s la lb → Rc X u t lc ld → Calls Tryz.prog 31 #[v, u] X (ResPost R3 Z3 X)))
    (hC : Hid (∀ X v u, Env X → Rc X v s la lb → Rc X u t lc ld → Calls Tryz.prog 32 #[v, u] X fun e w' => e = .returned (.tuple #[.int .i64 CV, .int .i64 CE]) ∧ Below X.heap.size X w')) (hD : Hid (∀ X v u, Rc X v s la lb → Rc X u t lc ld → Calls Tryz.prog 33 #[v, u] X fun e w' => e = .returned (.tuple #[.int .i64 CV, .int .i64 CE]) ∧ Below X.heap.size X w'))
    (x y : Value) (w : World) (he : Env w) (hx : Rc w x s a b) (hy : Rc w y t c d) :
    Calls Tryz.prog 4 #[x, y] w fun e w' => e = .returned (.bool true) ∧ Below w.heap.size w w' := by
  have HXC := Lib.hid hx
  have HYC := Lib.hid hy
  obtain ⟨va, vb, rfl, h1, -, h2, -⟩ := hx
  obtain ⟨A1, c1, rfl, -, -⟩ := h1.nilcap
  obtain ⟨A2, c2, rfl, -, -⟩ := h2.nilcap
  obtain ⟨vc, vd, rfl, h3, -, h4, -⟩ := hy
  obtain ⟨A3, c3, rfl, -, -⟩ := h3.nilcap
  obtain ⟨A4, c4, rfl, -, -⟩ := h4.nilcap
  have HE0 := Lib.hid he
  obtain ⟨W, hW⟩ : ∃ W, W = (w.alloc (.cells #[.bool s, .slice A1 a.length c1, .slice A2 b.length c2] 25)).alloc (.cells #[.bool t, .slice A3 c.length c3, .slice A4 d.length c4] 25) := ⟨_, rfl⟩
  have HBW := Lib.hid (show Below w.heap.size w W by subst hW; exact below_two _ _ _)
  have hz : w.heap.size + 1 < W.heap.size := by subst hW; simp
  have HRx := Lib.hid (show Rt W w.heap.size s (.slice A1 a.length c1) (.slice A2 b.length c2) by subst hW; exact two_new _ _ _ _ _)
  have HRy := Lib.hid (show Rt W (w.heap.size + 1) t (.slice A3 c.length c3) (.slice A4 d.length c4) by subst hW; exact rt_last _ _ _ _ _)
  have HO1 := Lib.hid (fun (X : World) (hX : Below w.heap.size w X) => (show Calls Tryz.prog 12 _ X (OwnP s la lb X) by rw [hla.out, hlb.out]; exact c_own (HXC.out.on hX)))
  have HO2 := Lib.hid (fun (X : World) (hX : Below w.heap.size w X) => (show Calls Tryz.prog 12 _ X (OwnP t lc ld X) by rw [hlc.out, hld.out]; exact c_own (HYC.out.on hX)))
  have h40a : Hid (la.take 40 = la) := Lib.hid (by rw [hla.out, List.take_take, Nat.min_self])
  have h40b : Hid (lb.take 40 = lb) := Lib.hid (by rw [hlb.out, List.take_take, Nat.min_self])
  have h40c : Hid (lc.take 40 = lc) := Lib.hid (by rw [hlc.out, List.take_take, Nat.min_self])
  have h40d : Hid (ld.take 40 = ld) := Lib.hid (by rw [hld.out, List.take_take, Nat.min_self])
  clear h1 h2 h3 h4 he hla hlb hlc hld
  go_enter Tryz.func4, Tryz.ntmps4
  go_wp2_with (fail)
  rw [← hW]
  clear hW
  obtain ⟨x0, x1, x2⟩ := HRx.out.cells
  obtain ⟨y0, y1, y2⟩ := HRy.out.cells
  apply wp_only8 (fun E1 j1 E2 j2 E3 j3 E4 j4 V => RB V w.heap.size (.agg #[.bool s, .slice E1 la.length j1, .slice E2 lb.length j2]) s la lb ∧ RB V (w.heap.size + 1) (.agg #[.bool t, .slice E3 lc.length j3, .slice E4 ld.length j4]) t lc ld ∧ Below w.heap.size w V)
  case h =>
   go_region_with (first
    | (go_at_call 12; (with_reducible refine (HO1.out _ HBW.out.drew).mono ?_); rintro e wa ⟨ra, rfl, hra, hba0⟩; obtain ⟨E1, j1, E2, j2, rfl⟩ := hra.open; have hba := Below.undrew hba0; have HBa := Lib.hid (below_join HBW.out hba HBW.out.size); have HCa := Lib.hid hra; have HRxa := Lib.hid (HRx.out.on hba (by omega)); have HRya := Lib.hid (HRy.out.on hba (by omega)); have hza := Nat.lt_of_lt_of_le hz hba.size; clear hra hba0 hba; obtain ⟨y3, y4, y5⟩ := HRya.out.cells)
    | (go_at_call 12; (with_reducible refine (HO2.out _ HBa.out).mono ?_); rintro e wb ⟨rb, rfl, hrb, hbb⟩; obtain ⟨E3, j3, E4, j4, rfl⟩ := hrb.open; have HBb := Lib.hid (below_join HBa.out hbb HBa.out.size); have HCb := Lib.hid hrb; have HCa2 := Lib.hid (HCa.out.on hbb); have HRxb := Lib.hid (HRxa.out.on hbb (by omega)); have HRyb := Lib.hid (HRya.out.on hbb (by omega)); clear hrb hbb; obtain ⟨p0, p1, p2⟩ := HRxb.out.cells; obtain ⟨p3, p4, p5⟩ := HRxb.out.frozen; obtain ⟨q0, q1, q2⟩ := HRyb.out.cells; obtain ⟨q3, q4, q5⟩ := HRyb.out.frozen)
    | fail)
   all_goals (
    have k1 : RB (((wb.setCell ⟨w.heap.size, 0, none⟩ (.bool s)).setCell ⟨w.heap.size, 1, none⟩ (.slice E1 la.length j1)).setCell ⟨w.heap.size, 2, none⟩ (.slice E2 lb.length j2)) w.heap.size (.agg #[.bool s, .slice E1 la.length j1, .slice E2 lb.length j2]) s la lb := RB.storeS HCa2.out HRxb.out
    have k2 := HCb.out.storeZ HRxb.out (.bool s) (.slice E1 la.length j1) (.slice E2 lb.length j2)
    have k3 : Rt (((wb.setCell ⟨w.heap.size, 0, none⟩ (.bool s)).setCell ⟨w.heap.size, 1, none⟩ (.slice E1 la.length j1)).setCell ⟨w.heap.size, 2, none⟩ (.slice E2 lb.length j2)) (w.heap.size + 1) t (.slice A3 c.length c3) (.slice A4 d.length c4) := row_keep3 HRyb.out (by omega) _ _ _
    have hbv := below_store3 (below_store3 HBb.out (Nat.le_refl _) (.bool s) (.slice E1 la.length j1) (.slice E2 lb.length j2)) (Nat.le_succ w.heap.size) (.bool t) (.slice E3 lc.length j3) (.slice E4 ld.length j4)
    go_simp
    exact only8_intro E1 j1 E2 j2 E3 j3 E4 j4 rfl ⟨k1.storeO k3 (by omega) _ _ _, RB.storeS k2 k3, hbv⟩)
  case k =>
    intro E1 j1 E2 j2 E3 j3 E4 j4 V ⟨hrx, hry, hbv⟩
    have HB := Lib.hid hbv
    have HT := Lib.hid (show TwoB w.heap.size (w.heap.size + 1) (.agg #[.bool s, .slice E1 la.length j1, .slice E2 lb.length j2]) (.agg #[.bool t, .slice E3 lc.length j3, .slice E4 ld.length j4]) s t la lb lc ld V from ⟨hrx, hry⟩)
    clear hrx hry hbv x0 x1 x2 y0 y1 y2 HRx HRy HO1 HO2 HBW HXC HYC
    go_wp2_with (fail)
    refine rgP _ _ _ w.heap.size (w.heap.size + 1) (.agg #[.bool s, .slice E1 la.length j1, .slice E2 lb.length j2]) (.agg #[.bool t, .slice E3 lc.length j3, .slice E4 ld.length j4]) s t la lb lc ld (by simp) (by simp [Act.eval]) (by simp [Act.eval]) HT.out (fun d v c b w h => (show _ from h)) (fun X h => ?_) (fun X h => ?_) ?_
    · obtain ⟨_, _, -, -, h⟩ := h.1
      have h := c_own h
      rw [h40a.out, h40b.out] at h
      exact h
    · obtain ⟨_, _, -, -, h⟩ := h.2
      have h := c_own h
      rw [h40c.out, h40d.out] at h
      exact h
    intro V1 ga gb v1 v2 hb hT2 f1 f2
    obtain ⟨u1, u2, rfl, hr1, hc1⟩ := f1
    obtain ⟨P1, i1, P2, i2, e1⟩ := hc1.open
    injection e1 with e1
    injection e1 with e1
    simp only [List.cons.injEq, and_true, true_and] at e1
    obtain ⟨rfl, rfl⟩ := e1
    obtain ⟨u3, u4, rfl, hr2, hc2⟩ := f2
    obtain ⟨P3, i3, P4, i4, e2⟩ := hc2.open
    injection e2 with e2
    injection e2 with e2
    simp only [List.cons.injEq, and_true, true_and] at e2
    obtain ⟨rfl, rfl⟩ := e2
    replace HB := Lib.hid (below_join HB.out hb HB.out.size)
    replace HT := Lib.hid hT2
    have HU := Lib.hid (show TwoB ga gb (.agg #[.bool s, .slice P1 la.length i1, .slice P2 lb.length i2]) (.agg #[.bool t, .slice P3 lc.length i3, .slice P4 ld.length i4]) s t la lb lc ld V1 from ⟨⟨_, _, rfl, hr1, hc1⟩, ⟨_, _, rfl, hr2, hc2⟩⟩)
    clear hb hT2 hr1 hr2 hc1 hc2 h40a h40b h40c h40d
    simp only [wpP4, wpP5, wpP1, wpP3, sqP]
    go_upto_region 5 with (fail)
    obtain ⟨U, hU⟩ : ∃ U, U = (V1.alloc (.cells #[.func (.func 24) #[] #[], .func (.func 25) #[] #[], .func (.func 26) #[] #[], .func (.func 27) #[] #[]] 37)).alloc (.cells #[.func (.func 28) #[] #[], .func (.func 29) #[] #[], .func (.func 30) #[] #[], .func (.func 31) #[] #[]] 37) := ⟨_, rfl⟩
    have bU : Below V1.heap.size V1 U := by subst hU; exact below_join (alloc_below _ _) (alloc_below _ _) (by simp)
    have HFF := Lib.hid (show U.heap[V1.heap.size]? = some (.cells #[.func (.func 24) #[] #[], .func (.func 25) #[] #[], .func (.func 26) #[] #[], .func (.func 27) #[] #[]] 37 (0, 0)) by subst hU; exact ((alloc_below _ _).block _ (by simp)).trans (heap_alloc_new _ _))
    have HGG := Lib.hid (show U.heap[V1.heap.size + 1]? = some (.cells #[.func (.func 28) #[] #[], .func (.func 29) #[] #[], .func (.func 30) #[] #[], .func (.func 31) #[] #[]] 37 (0, 0)) by
      subst hU
      have h1 := heap_alloc_new (V1.alloc (.cells #[.func (.func 24) #[] #[], .func (.func 25) #[] #[], .func (.func 26) #[] #[], .func (.func 27) #[] #[]] 37)) (.cells #[.func (.func 28) #[] #[], .func (.func 29) #[] #[], .func (.func 30) #[] #[], .func (.func 31) #[] #[]] 37)
      have e : (V1.alloc (.cells #[.func (.func 24) #[] #[], .func (.func 25) #[] #[], .func (.func 26) #[] #[], .func (.func 27) #[] #[]] 37)).heap.size = V1.heap.size + 1 := by simp
      rw [e] at h1
      exact h1)
    replace HT := Lib.hid (HT.out.on bU)
    replace HU := Lib.hid (HU.out.on bU)
    have HWU := Lib.hid (below_join HB.out bU HB.out.size)
    have hsF : V1.heap.size < U.heap.size := (Array.getElem?_eq_some_iff.1 HFF.out).1
    have hsG : V1.heap.size + 1 < U.heap.size := (Array.getElem?_eq_some_iff.1 HGG.out).1
    rw [← hU]
    clear hU bU HB
    have HEE := Lib.hid (show ∀ X, Below U.heap.size U X → Env X from fun X h => HE0.out.on (below_join HWU.out h HWU.out.size))
    have KF0 := Lib.hid (show ∀ X, Below U.heap.size U X → Calls Tryz.prog 24 #[(.agg #[.bool s, .slice E1 la.length j1, .slice E2 lb.length j2]), (.agg #[.bool t, .slice E3 lc.length j3, .slice E4 ld.length j4])] X (ResPost R0 Z0 X) from fun X h => hF0.out X _ _ (HEE.out X h) (HT.out.on h).1.rc (HT.out.on h).2.rc)
    have KG0 := Lib.hid (show ∀ X, Below U.heap.size U X → Calls Tryz.prog 28 #[(.agg #[.bool s, .slice P1 la.length i1, .slice P2 lb.length i2]), (.agg #[.bool t, .slice P3 lc.length i3, .slice P4 ld.length i4])] X (ResPost R0 Z0 X) from fun X h => hG0.out X _ _ (HU.out.on h).1.rc (HU.out.on h).2.rc)
    have CF0 := Lib.hid (show ∀ X, Below U.heap.size U X → X.cell? ⟨V1.heap.size, 0, none⟩ = some (.func (.func 24) #[] #[]) from fun X h => (by have := (h.block _ hsF).trans HFF.out; simp [World.cell?, this]))
    have CG0 := Lib.hid (show ∀ X, Below U.heap.size U X → X.cell? ⟨V1.heap.size + 1, 0, none⟩ = some (.func (.func 28) #[] #[]) from fun X h => (by have := (h.block _ hsG).trans HGG.out; simp [World.cell?, this]))
    have KF1 := Lib.hid (show ∀ X, Below U.heap.size U X → Calls Tryz.prog 25 #[(.agg #[.bool s, .slice E1 la.length j1, .slice E2 lb.length j2]), (.agg #[.bool t, .slice E3 lc.length j3, .slice E4 ld.length j4])] X (ResPost R1 Z1 X) from fun X h => hF1.out X _ _ (HEE.out X h) (HT.out.on h).1.rc (HT.out.on h).2.rc)
    have KG1 := Lib.hid (show ∀ X, Below U.heap.size U X → Calls Tryz.prog 29 #[(.agg #[.bool s, .slice P1 la.length i1, .slice P2 lb.length i2]), (.agg #[.bool t, .slice P3 lc.length i3, .slice P4 ld.length i4])] X (ResPost R1 Z1 X) from fun X h => hG1.out X _ _ (HU.out.on h).1.rc (HU.out.on h).2.rc)
    have CF1 := Lib.hid (show ∀ X, Below U.heap.size U X → X.cell? ⟨V1.heap.size, 1, none⟩ = some (.func (.func 25) #[] #[]) from fun X h => (by have := (h.block _ hsF).trans HFF.out; simp [World.cell?, this]))
    have CG1 := Lib.hid (show ∀ X, Below U.heap.size U X → X.cell? ⟨V1.heap.size + 1, 1, none⟩ = some (.func (.func 29) #[] #[]) from fun X h => (by have := (h.block _ hsG).trans HGG.out; simp [World.cell?, this]))
    have KF2 := Lib.hid (show ∀ X, Below U.heap.size U X → Calls Tryz.prog 26 #[(.agg #[.bool s, .slice E1 la.length j1, .slice E2 lb.length j2]), (.agg #[.bool t, .slice E3 lc.length j3, .slice E4 ld.length j4])] X (ResPost R2 Z2 X) from fun X h => hF2.out X _ _ (HEE.out X h) (HT.out.on h).1.rc (HT.out.on h).2.rc)
    have KG2 := Lib.hid (show ∀ X, Below U.heap.size U X → Calls Tryz.prog 30 #[(.agg #[.bool s, .slice P1 la.length i1, .slice P2 lb.length i2]), (.agg #[.bool t, .slice P3 lc.length i3, .slice P4 ld.length i4])] X (ResPost R2 Z2 X) from fun X h => hG2.out X _ _ (HU.out.on h).1.rc (HU.out.on h).2.rc)
    have CF2 := Lib.hid (show ∀ X, Below U.heap.size U X → X.cell? ⟨V1.heap.size, 2, none⟩ = some (.func (.func 26) #[] #[]) from fun X h => (by have := (h.block _ hsF).trans HFF.out; simp [World.cell?, this]))
    have CG2 := Lib.hid (show ∀ X, Below U.heap.size U X → X.cell? ⟨V1.heap.size + 1, 2, none⟩ = some (.func (.func 30) #[] #[]) from fun X h => (by have := (h.block _ hsG).trans HGG.out; simp [World.cell?, this]))
    have KF3 := Lib.hid (show ∀ X, Below U.heap.size U X → Calls Tryz.prog 27 #[(.agg #[.bool s, .slice E1 la.length j1, .slice E2 lb.length j2]), (.agg #[.bool t, .slice E3 lc.length j3, .slice E4 ld.length j4])] X (ResPost R3 Z3 X) from fun X h => hF3.out X _ _ (HEE.out X h) (HT.out.on h).1.rc (HT.out.on h).2.rc)
    have KG3 := Lib.hid (show ∀ X, Below U.heap.size U X → Calls Tryz.prog 31 #[(.agg #[.bool s, .slice P1 la.length i1, .slice P2 lb.length i2]), (.agg #[.bool t, .slice P3 lc.length i3, .slice P4 ld.length i4])] X (ResPost R3 Z3 X) from fun X h => hG3.out X _ _ (HU.out.on h).1.rc (HU.out.on h).2.rc)
    have CF3 := Lib.hid (show ∀ X, Below U.heap.size U X → X.cell? ⟨V1.heap.size, 3, none⟩ = some (.func (.func 27) #[] #[]) from fun X h => (by have := (h.block _ hsF).trans HFF.out; simp [World.cell?, this]))
    have CG3 := Lib.hid (show ∀ X, Below U.heap.size U X → X.cell? ⟨V1.heap.size + 1, 3, none⟩ = some (.func (.func 31) #[] #[]) from fun X h => (by have := (h.block _ hsG).trans HGG.out; simp [World.cell?, this]))
    have SX := Lib.hid (show ∀ X, Below U.heap.size U X → (X.cell? ⟨w.heap.size, 0, none⟩ = some (.bool s) ∧ X.cell? ⟨w.heap.size, 1, none⟩ = some (.slice E1 la.length j1) ∧ X.cell? ⟨w.heap.size, 2, none⟩ = some (.slice E2 lb.length j2)) ∧ (X.cell? ⟨w.heap.size + 1, 0, none⟩ = some (.bool t) ∧ X.cell? ⟨w.heap.size + 1, 1, none⟩ = some (.slice E3 lc.length j3) ∧ X.cell? ⟨w.heap.size + 1, 2, none⟩ = some (.slice E4 ld.length j4)) from fun X h => ⟨(HT.out.on h).1.cells, (HT.out.on h).2.cells⟩)
    have SA := Lib.hid (show ∀ X, Below U.heap.size U X → (X.cell? ⟨ga, 0, none⟩ = some (.bool s) ∧ X.cell? ⟨ga, 1, none⟩ = some (.slice P1 la.length i1) ∧ X.cell? ⟨ga, 2, none⟩ = some (.slice P2 lb.length i2)) ∧ (X.cell? ⟨gb, 0, none⟩ = some (.bool t) ∧ X.cell? ⟨gb, 1, none⟩ = some (.slice P3 lc.length i3) ∧ X.cell? ⟨gb, 2, none⟩ = some (.slice P4 ld.length i4)) from fun X h => ⟨(HU.out.on h).1.cells, (HU.out.on h).2.cells⟩)
    have KC := Lib.hid (show ∀ X, Below U.heap.size U X → Calls Tryz.prog 32 #[(.agg #[.bool s, .slice E1 la.length j1, .slice E2 lb.length j2]), (.agg #[.bool t, .slice E3 lc.length j3, .slice E4 ld.length j4])] X (fun e w' => e = .returned (.tuple #[.int .i64 CV, .int .i64 CE]) ∧ Below X.heap.size X w') from fun X h => hC.out X _ _ (HEE.out X h) (HT.out.on h).1.rc (HT.out.on h).2.rc)
    have KD := Lib.hid (show ∀ X, Below U.heap.size U X → Calls Tryz.prog 33 #[(.agg #[.bool s, .slice P1 la.length i1, .slice P2 lb.length i2]), (.agg #[.bool t, .slice P3 lc.length i3, .slice P4 ld.length i4])] X (fun e w' => e = .returned (.tuple #[.int .i64 CV, .int .i64 CE]) ∧ Below X.heap.size X w') from fun X h => hD.out X _ _ (HU.out.on h).1.rc (HU.out.on h).2.rc)
    have KX := Lib.hid (show ∀ X, Below U.heap.size U X → Calls Tryz.prog 22 #[(.agg #[.bool s, .slice E1 la.length j1, .slice E2 lb.length j2]), (.agg #[.bool s, .slice P1 la.length i1, .slice P2 lb.length i2])] X (fun e w' => e = .returned (.bool true) ∧ Below X.heap.size X w') from fun X h => c_eSame s s la lb la lb true (decide_eq_true ⟨rfl, rfl, rfl⟩) _ _ _ _ X (HT.out.on h).1.rc.ls2.1 (HT.out.on h).1.rc.ls2.2 (HU.out.on h).1.rc.ls2.1 (HU.out.on h).1.rc.ls2.2)
    have KY := Lib.hid (show ∀ X, Below U.heap.size U X → Calls Tryz.prog 22 #[(.agg #[.bool t, .slice E3 lc.length j3, .slice E4 ld.length j4]), (.agg #[.bool t, .slice P3 lc.length i3, .slice P4 ld.length i4])] X (fun e w' => e = .returned (.bool true) ∧ Below X.heap.size X w') from fun X h => c_eSame t t lc ld lc ld true (decide_eq_true ⟨rfl, rfl, rfl⟩) _ _ _ _ X (HT.out.on h).2.rc.ls2.1 (HT.out.on h).2.rc.ls2.2 (HU.out.on h).2.rc.ls2.1 (HU.out.on h).2.rc.ls2.2)
    clear HT HU HFF HGG hsF hsG hF0 hF1 hF2 hF3 hG0 hG1 hG2 hG3 hC hD HE0
    go_wp2_with (fail)
    go_loopw [9] (fun i wr => ∃ k : Nat, i = .int .i64 (k : Int) ∧ k ≤ 4 ∧ Hid (Below U.heap.size U wr)) (fun i _ => 4 - (intOf i).toNat)
    case atStart => exact ⟨0, rfl, by omega, Lib.hid (Below.refl _ _)⟩
    case round =>
      obtain ⟨k, rfl, hk, HB⟩ := hrel
      by_cases hk0 : k = 0
      · subst hk0
        go_wp2_with (fail)
        have HBd8 := Lib.hid (HB.out.drew)
        have HBa8 := Lib.hid ((HB.out.alloc HB.out.size (.cells #[.bool false, .slice none 0 0, .slice none 0 0] 25)).drew)
        have HZa8 := Lib.hid (show ResZ wr.heap.size (wr.alloc (.cells #[.bool false, .slice none 0 0, .slice none 0 0] 25)).drew from resz_mk wr)
        have hza8 : U.heap.size ≤ wr.heap.size := HB.out.size
        go_region_held3 (fun X => ((X.cell? ⟨w.heap.size, 0, none⟩ = some (.bool s) ∧ X.cell? ⟨w.heap.size, 1, none⟩ = some (.slice E1 la.length j1) ∧ X.cell? ⟨w.heap.size, 2, none⟩ = some (.slice E2 lb.length j2)) ∧ (X.cell? ⟨w.heap.size + 1, 0, none⟩ = some (.bool t) ∧ X.cell? ⟨w.heap.size + 1, 1, none⟩ = some (.slice E3 lc.length j3) ∧ X.cell? ⟨w.heap.size + 1, 2, none⟩ = some (.slice E4 ld.length j4))) ∧ X.cell? ⟨V1.heap.size, 0, none⟩ = some (.func (.func 24) #[] #[]))
          (first | exact ⟨SX.out _ (HBz8.out), CF0.out _ (HBz8.out)⟩ | exact ⟨SX.out _ (HBz8.out.alloc HBz8.out.size _), CF0.out _ (HBz8.out.alloc HBz8.out.size _)⟩ | exact ⟨SX.out _ (below_store3 HBz8.out hza8 _ _ _), CF0.out _ (below_store3 HBz8.out hza8 _ _ _)⟩ | exact ⟨SX.out _ (HBd8.out), CF0.out _ (HBd8.out)⟩ | exact ⟨SX.out _ (HBa8.out), CF0.out _ (HBa8.out)⟩ | exact ⟨SX.out _ (HB.out.drew.alloc HB.out.size _), CF0.out _ (HB.out.drew.alloc HB.out.size _)⟩ | exact ⟨SX.out _ (HB.out), CF0.out _ (HB.out)⟩)
          (first
            | (go_at_call 24; (with_reducible refine (KF0.out _ HBd8.out).mono ?_); rintro e z8 hh; obtain ⟨s8, P8, m8, g8, Q8, n8, f8, y8, rfl, hr, bb⟩ := res_open hh; have HS8 := Lib.hid hr; have HBz8 := Lib.hid (below_join HBd8.out bb HBd8.out.size); clear hh hr bb)
            | (go_at_call 24; (with_reducible refine (KF0.out _ HBa8.out).mono ?_); rintro e z8 hh; obtain ⟨s8, P8, m8, g8, Q8, n8, f8, y8, rfl, hr, bb⟩ := res_open hh; have HS8 := Lib.hid hr; have HBz8 := Lib.hid (below_join HBa8.out bb HBa8.out.size); have HZz8 := Lib.hid (HZa8.out.on bb HZa8.out.lt); clear hh hr bb; obtain ⟨c08, c18, c28⟩ := Rt.cells HZz8.out; obtain ⟨d08, d18, d28⟩ := Rt.frozen HZz8.out)
            | fail)
        all_goals first
          | (have HYn := Lib.hid (show Rt (((z8.setCell ⟨wr.heap.size, 0, none⟩ (.bool s8)).setCell ⟨wr.heap.size, 1, none⟩ (.slice P8 m8 g8)).setCell ⟨wr.heap.size, 2, none⟩ (.slice Q8 n8 f8)) wr.heap.size s8 (.slice P8 m8 g8) (.slice Q8 n8 f8) from row_store3 HZz8.out _ _ _)
             obtain ⟨X8, hX8⟩ : ∃ X, X = ((z8.setCell ⟨wr.heap.size, 0, none⟩ (.bool s8)).setCell ⟨wr.heap.size, 1, none⟩ (.slice P8 m8 g8)).setCell ⟨wr.heap.size, 2, none⟩ (.slice Q8 n8 f8) := ⟨_, rfl⟩
             rw [← hX8] at HYn
             have HBx8 := Lib.hid (show Below U.heap.size U X8 by subst hX8; exact below_store3 HBz8.out hza8 _ _ _)
             have HSx8 := Lib.hid (show Rs X8 (.agg #[.bool s8, .slice P8 m8 g8, .slice Q8 n8 f8]) y8 R0 Z0 by subst hX8; exact HS8.out.storeZ HZz8.out _ _ _)
             go_wp2_with (fail)
             rw [← hX8]
             clear hX8
             have HYp := HYn
             clear HYn
             have HSp := HSx8
             clear HSx8
             have HBd9 := Lib.hid (HBx8.out.drew)
             have HBa9 := Lib.hid ((HBx8.out.alloc HBx8.out.size (.cells #[.bool false, .slice none 0 0, .slice none 0 0] 25)).drew)
             have HZa9 := Lib.hid (show ResZ X8.heap.size (X8.alloc (.cells #[.bool false, .slice none 0 0, .slice none 0 0] 25)).drew from resz_mk X8)
             have hza9 : U.heap.size ≤ X8.heap.size := HBx8.out.size
             go_region_held3 (fun X => ((X.cell? ⟨ga, 0, none⟩ = some (.bool s) ∧ X.cell? ⟨ga, 1, none⟩ = some (.slice P1 la.length i1) ∧ X.cell? ⟨ga, 2, none⟩ = some (.slice P2 lb.length i2)) ∧ (X.cell? ⟨gb, 0, none⟩ = some (.bool t) ∧ X.cell? ⟨gb, 1, none⟩ = some (.slice P3 lc.length i3) ∧ X.cell? ⟨gb, 2, none⟩ = some (.slice P4 ld.length i4))) ∧ X.cell? ⟨V1.heap.size + 1, 0, none⟩ = some (.func (.func 28) #[] #[]))
               (first | exact ⟨SA.out _ (HBz9.out), CG0.out _ (HBz9.out)⟩ | exact ⟨SA.out _ (HBz9.out.alloc HBz9.out.size _), CG0.out _ (HBz9.out.alloc HBz9.out.size _)⟩ | exact ⟨SA.out _ (below_store3 HBz9.out hza9 _ _ _), CG0.out _ (below_store3 HBz9.out hza9 _ _ _)⟩ | exact ⟨SA.out _ (HBd9.out), CG0.out _ (HBd9.out)⟩ | exact ⟨SA.out _ (HBa9.out), CG0.out _ (HBa9.out)⟩ | exact ⟨SA.out _ (HBx8.out.drew.alloc HBx8.out.size _), CG0.out _ (HBx8.out.drew.alloc HBx8.out.size _)⟩ | exact ⟨SA.out _ (HBx8.out), CG0.out _ (HBx8.out)⟩)
               (first
                 | (go_at_call 28; (with_reducible refine (KG0.out _ HBd9.out).mono ?_); rintro e z9 hh; obtain ⟨s9, P9, m9, g9, Q9, n9, f9, y9, rfl, hr, bb⟩ := res_open hh; have HS9 := Lib.hid hr; have HYp9 := Lib.hid (HYp.out.on ((Below.refl X8.heap.size X8).drew) HYp.out.lt); have HSp9 := Lib.hid (HSp.out.on ((Below.refl X8.heap.size X8).drew)); have HYpz9 := Lib.hid (HYp9.out.on bb HYp9.out.lt); have HSpz9 := Lib.hid (HSp9.out.on bb); have HBz9 := Lib.hid (below_join HBd9.out bb HBd9.out.size); clear hh hr bb)
                 | (go_at_call 28; (with_reducible refine (KG0.out _ HBa9.out).mono ?_); rintro e z9 hh; obtain ⟨s9, P9, m9, g9, Q9, n9, f9, y9, rfl, hr, bb⟩ := res_open hh; have HS9 := Lib.hid hr; have HYp9 := Lib.hid (HYp.out.on ((alloc_below X8 (.cells #[.bool false, .slice none 0 0, .slice none 0 0] 25)).drew) HYp.out.lt); have HSp9 := Lib.hid (HSp.out.on ((alloc_below X8 (.cells #[.bool false, .slice none 0 0, .slice none 0 0] 25)).drew)); have HYpz9 := Lib.hid (HYp9.out.on bb HYp9.out.lt); have HSpz9 := Lib.hid (HSp9.out.on bb); have HBz9 := Lib.hid (below_join HBa9.out bb HBa9.out.size); have HZz9 := Lib.hid (HZa9.out.on bb HZa9.out.lt); clear hh hr bb; obtain ⟨c09, c19, c29⟩ := Rt.cells HZz9.out; obtain ⟨d09, d19, d29⟩ := Rt.frozen HZz9.out)
                 | fail)
             all_goals first
               | (have HYn := Lib.hid (show Rt (((z9.setCell ⟨X8.heap.size, 0, none⟩ (.bool s9)).setCell ⟨X8.heap.size, 1, none⟩ (.slice P9 m9 g9)).setCell ⟨X8.heap.size, 2, none⟩ (.slice Q9 n9 f9)) X8.heap.size s9 (.slice P9 m9 g9) (.slice Q9 n9 f9) from row_store3 HZz9.out _ _ _)
                  obtain ⟨X9, hX9⟩ : ∃ X, X = ((z9.setCell ⟨X8.heap.size, 0, none⟩ (.bool s9)).setCell ⟨X8.heap.size, 1, none⟩ (.slice P9 m9 g9)).setCell ⟨X8.heap.size, 2, none⟩ (.slice Q9 n9 f9) := ⟨_, rfl⟩
                  rw [← hX9] at HYn
                  have HBx9 := Lib.hid (show Below U.heap.size U X9 by subst hX9; exact below_store3 HBz9.out hza9 _ _ _)
                  have HSx9 := Lib.hid (show Rs X9 (.agg #[.bool s9, .slice P9 m9 g9, .slice Q9 n9 f9]) y9 R0 Z0 by subst hX9; exact HS9.out.storeZ HZz9.out _ _ _)
                  have HYpx := Lib.hid (show Rt X9 (wr.heap.size) s8 (.slice P8 m8 g8) (.slice Q8 n8 f8) by subst hX9; exact row_keep3 HYpz9.out (by have := HYp.out.lt; omega) _ _ _)
                  have HSpx := Lib.hid (show Rs X9 (.agg #[.bool s8, .slice P8 m8 g8, .slice Q8 n8 f8]) y8 R0 Z0 by subst hX9; exact HSpz9.out.storeZ HZz9.out _ _ _)
                  obtain ⟨w0, w1, w2⟩ := HYpx.out.cells
                  obtain ⟨w3, w4, w5⟩ := HYn.out.cells
                  rw [hX9] at w0 w1 w2 w3 w4 w5
                  go_wp2_with (fail)
                  rw [← hX9]
                  clear hX9 w0 w1 w2 w3 w4 w5
                  go_at_call 17
                  refine (c_lsame HSpx.out HSx9.out).mono ?_
                  rintro e zf ⟨rfl, bf⟩
                  have HBf := Lib.hid (below_join HBx9.out bf HBx9.out.size)
                  clear bf
                  go_wp2_with (fail)
                  go_roundw
                  case rel => exact ⟨1, rfl, by omega, HBf⟩
                  case measure => simp only [intOf]; omega)
               | (obtain ⟨X9, hX9⟩ : ∃ X, X = z9.alloc (.cells #[.bool s9, .slice P9 m9 g9, .slice Q9 n9 f9] 25) := ⟨_, rfl⟩
                  have HYn := Lib.hid (show Rt X9 z9.heap.size s9 (.slice P9 m9 g9) (.slice Q9 n9 f9) by subst hX9; exact rt_new' _ _ _ _)
                  have HBx9 := Lib.hid (show Below U.heap.size U X9 by subst hX9; exact HBz9.out.alloc HBz9.out.size _)
                  have HSx9 := Lib.hid (show Rs X9 (.agg #[.bool s9, .slice P9 m9 g9, .slice Q9 n9 f9]) y9 R0 Z0 by subst hX9; exact HS9.out.on (alloc_below _ _))
                  have HYpx := Lib.hid (show Rt X9 (wr.heap.size) s8 (.slice P8 m8 g8) (.slice Q8 n8 f8) by subst hX9; exact HYpz9.out.on (alloc_below _ _) HYpz9.out.lt)
                  have HSpx := Lib.hid (show Rs X9 (.agg #[.bool s8, .slice P8 m8 g8, .slice Q8 n8 f8]) y8 R0 Z0 by subst hX9; exact HSpz9.out.on (alloc_below _ _))
                  obtain ⟨w0, w1, w2⟩ := HYpx.out.cells
                  obtain ⟨w3, w4, w5⟩ := HYn.out.cells
                  rw [hX9] at w0 w1 w2 w3 w4 w5
                  go_wp2_with (fail)
                  rw [← hX9]
                  clear hX9 w0 w1 w2 w3 w4 w5
                  go_at_call 17
                  refine (c_lsame HSpx.out HSx9.out).mono ?_
                  rintro e zf ⟨rfl, bf⟩
                  have HBf := Lib.hid (below_join HBx9.out bf HBx9.out.size)
                  clear bf
                  go_wp2_with (fail)
                  go_roundw
                  case rel => exact ⟨1, rfl, by omega, HBf⟩
                  case measure => simp only [intOf]; omega))
          | (obtain ⟨X8, hX8⟩ : ∃ X, X = z8.alloc (.cells #[.bool s8, .slice P8 m8 g8, .slice Q8 n8 f8] 25) := ⟨_, rfl⟩
             have HYn := Lib.hid (show Rt X8 z8.heap.size s8 (.slice P8 m8 g8) (.slice Q8 n8 f8) by subst hX8; exact rt_new' _ _ _ _)
             have HBx8 := Lib.hid (show Below U.heap.size U X8 by subst hX8; exact HBz8.out.alloc HBz8.out.size _)
             have HSx8 := Lib.hid (show Rs X8 (.agg #[.bool s8, .slice P8 m8 g8, .slice Q8 n8 f8]) y8 R0 Z0 by subst hX8; exact HS8.out.on (alloc_below _ _))
             go_wp2_with (fail)
             rw [← hX8]
             clear hX8
             have HYp := HYn
             clear HYn
             have HSp := HSx8
             clear HSx8
             have HBd9 := Lib.hid (HBx8.out.drew)
             have HBa9 := Lib.hid ((HBx8.out.alloc HBx8.out.size (.cells #[.bool false, .slice none 0 0, .slice none 0 0] 25)).drew)
             have HZa9 := Lib.hid (show ResZ X8.heap.size (X8.alloc (.cells #[.bool false, .slice none 0 0, .slice none 0 0] 25)).drew from resz_mk X8)
             have hza9 : U.heap.size ≤ X8.heap.size := HBx8.out.size
             go_region_held3 (fun X => ((X.cell? ⟨ga, 0, none⟩ = some (.bool s) ∧ X.cell? ⟨ga, 1, none⟩ = some (.slice P1 la.length i1) ∧ X.cell? ⟨ga, 2, none⟩ = some (.slice P2 lb.length i2)) ∧ (X.cell? ⟨gb, 0, none⟩ = some (.bool t) ∧ X.cell? ⟨gb, 1, none⟩ = some (.slice P3 lc.length i3) ∧ X.cell? ⟨gb, 2, none⟩ = some (.slice P4 ld.length i4))) ∧ X.cell? ⟨V1.heap.size + 1, 0, none⟩ = some (.func (.func 28) #[] #[]))
               (first | exact ⟨SA.out _ (HBz9.out), CG0.out _ (HBz9.out)⟩ | exact ⟨SA.out _ (HBz9.out.alloc HBz9.out.size _), CG0.out _ (HBz9.out.alloc HBz9.out.size _)⟩ | exact ⟨SA.out _ (below_store3 HBz9.out hza9 _ _ _), CG0.out _ (below_store3 HBz9.out hza9 _ _ _)⟩ | exact ⟨SA.out _ (HBd9.out), CG0.out _ (HBd9.out)⟩ | exact ⟨SA.out _ (HBa9.out), CG0.out _ (HBa9.out)⟩ | exact ⟨SA.out _ (HBx8.out.drew.alloc HBx8.out.size _), CG0.out _ (HBx8.out.drew.alloc HBx8.out.size _)⟩ | exact ⟨SA.out _ (HBx8.out), CG0.out _ (HBx8.out)⟩)
               (first
                 | (go_at_call 28; (with_reducible refine (KG0.out _ HBd9.out).mono ?_); rintro e z9 hh; obtain ⟨s9, P9, m9, g9, Q9, n9, f9, y9, rfl, hr, bb⟩ := res_open hh; have HS9 := Lib.hid hr; have HYp9 := Lib.hid (HYp.out.on ((Below.refl X8.heap.size X8).drew) HYp.out.lt); have HSp9 := Lib.hid (HSp.out.on ((Below.refl X8.heap.size X8).drew)); have HYpz9 := Lib.hid (HYp9.out.on bb HYp9.out.lt); have HSpz9 := Lib.hid (HSp9.out.on bb); have HBz9 := Lib.hid (below_join HBd9.out bb HBd9.out.size); clear hh hr bb)
                 | (go_at_call 28; (with_reducible refine (KG0.out _ HBa9.out).mono ?_); rintro e z9 hh; obtain ⟨s9, P9, m9, g9, Q9, n9, f9, y9, rfl, hr, bb⟩ := res_open hh; have HS9 := Lib.hid hr; have HYp9 := Lib.hid (HYp.out.on ((alloc_below X8 (.cells #[.bool false, .slice none 0 0, .slice none 0 0] 25)).drew) HYp.out.lt); have HSp9 := Lib.hid (HSp.out.on ((alloc_below X8 (.cells #[.bool false, .slice none 0 0, .slice none 0 0] 25)).drew)); have HYpz9 := Lib.hid (HYp9.out.on bb HYp9.out.lt); have HSpz9 := Lib.hid (HSp9.out.on bb); have HBz9 := Lib.hid (below_join HBa9.out bb HBa9.out.size); have HZz9 := Lib.hid (HZa9.out.on bb HZa9.out.lt); clear hh hr bb; obtain ⟨c09, c19, c29⟩ := Rt.cells HZz9.out; obtain ⟨d09, d19, d29⟩ := Rt.frozen HZz9.out)
                 | fail)
             all_goals first
               | (have HYn := Lib.hid (show Rt (((z9.setCell ⟨X8.heap.size, 0, none⟩ (.bool s9)).setCell ⟨X8.heap.size, 1, none⟩ (.slice P9 m9 g9)).setCell ⟨X8.heap.size, 2, none⟩ (.slice Q9 n9 f9)) X8.heap.size s9 (.slice P9 m9 g9) (.slice Q9 n9 f9) from row_store3 HZz9.out _ _ _)
                  obtain ⟨X9, hX9⟩ : ∃ X, X = ((z9.setCell ⟨X8.heap.size, 0, none⟩ (.bool s9)).setCell ⟨X8.heap.size, 1, none⟩ (.slice P9 m9 g9)).setCell ⟨X8.heap.size, 2, none⟩ (.slice Q9 n9 f9) := ⟨_, rfl⟩
                  rw [← hX9] at HYn
                  have HBx9 := Lib.hid (show Below U.heap.size U X9 by subst hX9; exact below_store3 HBz9.out hza9 _ _ _)
                  have HSx9 := Lib.hid (show Rs X9 (.agg #[.bool s9, .slice P9 m9 g9, .slice Q9 n9 f9]) y9 R0 Z0 by subst hX9; exact HS9.out.storeZ HZz9.out _ _ _)
                  have HYpx := Lib.hid (show Rt X9 (z8.heap.size) s8 (.slice P8 m8 g8) (.slice Q8 n8 f8) by subst hX9; exact row_keep3 HYpz9.out (by have := HYp.out.lt; omega) _ _ _)
                  have HSpx := Lib.hid (show Rs X9 (.agg #[.bool s8, .slice P8 m8 g8, .slice Q8 n8 f8]) y8 R0 Z0 by subst hX9; exact HSpz9.out.storeZ HZz9.out _ _ _)
                  obtain ⟨w0, w1, w2⟩ := HYpx.out.cells
                  obtain ⟨w3, w4, w5⟩ := HYn.out.cells
                  rw [hX9] at w0 w1 w2 w3 w4 w5
                  go_wp2_with (fail)
                  rw [← hX9]
                  clear hX9 w0 w1 w2 w3 w4 w5
                  go_at_call 17
                  refine (c_lsame HSpx.out HSx9.out).mono ?_
                  rintro e zf ⟨rfl, bf⟩
                  have HBf := Lib.hid (below_join HBx9.out bf HBx9.out.size)
                  clear bf
                  go_wp2_with (fail)
                  go_roundw
                  case rel => exact ⟨1, rfl, by omega, HBf⟩
                  case measure => simp only [intOf]; omega)
               | (obtain ⟨X9, hX9⟩ : ∃ X, X = z9.alloc (.cells #[.bool s9, .slice P9 m9 g9, .slice Q9 n9 f9] 25) := ⟨_, rfl⟩
                  have HYn := Lib.hid (show Rt X9 z9.heap.size s9 (.slice P9 m9 g9) (.slice Q9 n9 f9) by subst hX9; exact rt_new' _ _ _ _)
                  have HBx9 := Lib.hid (show Below U.heap.size U X9 by subst hX9; exact HBz9.out.alloc HBz9.out.size _)
                  have HSx9 := Lib.hid (show Rs X9 (.agg #[.bool s9, .slice P9 m9 g9, .slice Q9 n9 f9]) y9 R0 Z0 by subst hX9; exact HS9.out.on (alloc_below _ _))
                  have HYpx := Lib.hid (show Rt X9 (z8.heap.size) s8 (.slice P8 m8 g8) (.slice Q8 n8 f8) by subst hX9; exact HYpz9.out.on (alloc_below _ _) HYpz9.out.lt)
                  have HSpx := Lib.hid (show Rs X9 (.agg #[.bool s8, .slice P8 m8 g8, .slice Q8 n8 f8]) y8 R0 Z0 by subst hX9; exact HSpz9.out.on (alloc_below _ _))
                  obtain ⟨w0, w1, w2⟩ := HYpx.out.cells
                  obtain ⟨w3, w4, w5⟩ := HYn.out.cells
                  rw [hX9] at w0 w1 w2 w3 w4 w5
                  go_wp2_with (fail)
                  rw [← hX9]
                  clear hX9 w0 w1 w2 w3 w4 w5
                  go_at_call 17
                  refine (c_lsame HSpx.out HSx9.out).mono ?_
                  rintro e zf ⟨rfl, bf⟩
                  have HBf := Lib.hid (below_join HBx9.out bf HBx9.out.size)
                  clear bf
                  go_wp2_with (fail)
                  go_roundw
                  case rel => exact ⟨1, rfl, by omega, HBf⟩
                  case measure => simp only [intOf]; omega))
      by_cases hk1 : k = 1
      · subst hk1
        go_wp2_with (fail)
        have HBd8 := Lib.hid (HB.out.drew)
        have HBa8 := Lib.hid ((HB.out.alloc HB.out.size (.cells #[.bool false, .slice none 0 0, .slice none 0 0] 25)).drew)
        have HZa8 := Lib.hid (show ResZ wr.heap.size (wr.alloc (.cells #[.bool false, .slice none 0 0, .slice none 0 0] 25)).drew from resz_mk wr)
        have hza8 : U.heap.size ≤ wr.heap.size := HB.out.size
        go_region_held3 (fun X => ((X.cell? ⟨w.heap.size, 0, none⟩ = some (.bool s) ∧ X.cell? ⟨w.heap.size, 1, none⟩ = some (.slice E1 la.length j1) ∧ X.cell? ⟨w.heap.size, 2, none⟩ = some (.slice E2 lb.length j2)) ∧ (X.cell? ⟨w.heap.size + 1, 0, none⟩ = some (.bool t) ∧ X.cell? ⟨w.heap.size + 1, 1, none⟩ = some (.slice E3 lc.length j3) ∧ X.cell? ⟨w.heap.size + 1, 2, none⟩ = some (.slice E4 ld.length j4))) ∧ X.cell? ⟨V1.heap.size, 1, none⟩ = some (.func (.func 25) #[] #[]))
          (first | exact ⟨SX.out _ (HBz8.out), CF1.out _ (HBz8.out)⟩ | exact ⟨SX.out _ (HBz8.out.alloc HBz8.out.size _), CF1.out _ (HBz8.out.alloc HBz8.out.size _)⟩ | exact ⟨SX.out _ (below_store3 HBz8.out hza8 _ _ _), CF1.out _ (below_store3 HBz8.out hza8 _ _ _)⟩ | exact ⟨SX.out _ (HBd8.out), CF1.out _ (HBd8.out)⟩ | exact ⟨SX.out _ (HBa8.out), CF1.out _ (HBa8.out)⟩ | exact ⟨SX.out _ (HB.out.drew.alloc HB.out.size _), CF1.out _ (HB.out.drew.alloc HB.out.size _)⟩ | exact ⟨SX.out _ (HB.out), CF1.out _ (HB.out)⟩)
          (first
            | (go_at_call 25; (with_reducible refine (KF1.out _ HBd8.out).mono ?_); rintro e z8 hh; obtain ⟨s8, P8, m8, g8, Q8, n8, f8, y8, rfl, hr, bb⟩ := res_open hh; have HS8 := Lib.hid hr; have HBz8 := Lib.hid (below_join HBd8.out bb HBd8.out.size); clear hh hr bb)
            | (go_at_call 25; (with_reducible refine (KF1.out _ HBa8.out).mono ?_); rintro e z8 hh; obtain ⟨s8, P8, m8, g8, Q8, n8, f8, y8, rfl, hr, bb⟩ := res_open hh; have HS8 := Lib.hid hr; have HBz8 := Lib.hid (below_join HBa8.out bb HBa8.out.size); have HZz8 := Lib.hid (HZa8.out.on bb HZa8.out.lt); clear hh hr bb; obtain ⟨c08, c18, c28⟩ := Rt.cells HZz8.out; obtain ⟨d08, d18, d28⟩ := Rt.frozen HZz8.out)
            | fail)
        all_goals first
          | (have HYn := Lib.hid (show Rt (((z8.setCell ⟨wr.heap.size, 0, none⟩ (.bool s8)).setCell ⟨wr.heap.size, 1, none⟩ (.slice P8 m8 g8)).setCell ⟨wr.heap.size, 2, none⟩ (.slice Q8 n8 f8)) wr.heap.size s8 (.slice P8 m8 g8) (.slice Q8 n8 f8) from row_store3 HZz8.out _ _ _)
             obtain ⟨X8, hX8⟩ : ∃ X, X = ((z8.setCell ⟨wr.heap.size, 0, none⟩ (.bool s8)).setCell ⟨wr.heap.size, 1, none⟩ (.slice P8 m8 g8)).setCell ⟨wr.heap.size, 2, none⟩ (.slice Q8 n8 f8) := ⟨_, rfl⟩
             rw [← hX8] at HYn
             have HBx8 := Lib.hid (show Below U.heap.size U X8 by subst hX8; exact below_store3 HBz8.out hza8 _ _ _)
             have HSx8 := Lib.hid (show Rs X8 (.agg #[.bool s8, .slice P8 m8 g8, .slice Q8 n8 f8]) y8 R1 Z1 by subst hX8; exact HS8.out.storeZ HZz8.out _ _ _)
             go_wp2_with (fail)
             rw [← hX8]
             clear hX8
             have HYp := HYn
             clear HYn
             have HSp := HSx8
             clear HSx8
             have HBd9 := Lib.hid (HBx8.out.drew)
             have HBa9 := Lib.hid ((HBx8.out.alloc HBx8.out.size (.cells #[.bool false, .slice none 0 0, .slice none 0 0] 25)).drew)
             have HZa9 := Lib.hid (show ResZ X8.heap.size (X8.alloc (.cells #[.bool false, .slice none 0 0, .slice none 0 0] 25)).drew from resz_mk X8)
             have hza9 : U.heap.size ≤ X8.heap.size := HBx8.out.size
             go_region_held3 (fun X => ((X.cell? ⟨ga, 0, none⟩ = some (.bool s) ∧ X.cell? ⟨ga, 1, none⟩ = some (.slice P1 la.length i1) ∧ X.cell? ⟨ga, 2, none⟩ = some (.slice P2 lb.length i2)) ∧ (X.cell? ⟨gb, 0, none⟩ = some (.bool t) ∧ X.cell? ⟨gb, 1, none⟩ = some (.slice P3 lc.length i3) ∧ X.cell? ⟨gb, 2, none⟩ = some (.slice P4 ld.length i4))) ∧ X.cell? ⟨V1.heap.size + 1, 1, none⟩ = some (.func (.func 29) #[] #[]))
               (first | exact ⟨SA.out _ (HBz9.out), CG1.out _ (HBz9.out)⟩ | exact ⟨SA.out _ (HBz9.out.alloc HBz9.out.size _), CG1.out _ (HBz9.out.alloc HBz9.out.size _)⟩ | exact ⟨SA.out _ (below_store3 HBz9.out hza9 _ _ _), CG1.out _ (below_store3 HBz9.out hza9 _ _ _)⟩ | exact ⟨SA.out _ (HBd9.out), CG1.out _ (HBd9.out)⟩ | exact ⟨SA.out _ (HBa9.out), CG1.out _ (HBa9.out)⟩ | exact ⟨SA.out _ (HBx8.out.drew.alloc HBx8.out.size _), CG1.out _ (HBx8.out.drew.alloc HBx8.out.size _)⟩ | exact ⟨SA.out _ (HBx8.out), CG1.out _ (HBx8.out)⟩)
               (first
                 | (go_at_call 29; (with_reducible refine (KG1.out _ HBd9.out).mono ?_); rintro e z9 hh; obtain ⟨s9, P9, m9, g9, Q9, n9, f9, y9, rfl, hr, bb⟩ := res_open hh; have HS9 := Lib.hid hr; have HYp9 := Lib.hid (HYp.out.on ((Below.refl X8.heap.size X8).drew) HYp.out.lt); have HSp9 := Lib.hid (HSp.out.on ((Below.refl X8.heap.size X8).drew)); have HYpz9 := Lib.hid (HYp9.out.on bb HYp9.out.lt); have HSpz9 := Lib.hid (HSp9.out.on bb); have HBz9 := Lib.hid (below_join HBd9.out bb HBd9.out.size); clear hh hr bb)
                 | (go_at_call 29; (with_reducible refine (KG1.out _ HBa9.out).mono ?_); rintro e z9 hh; obtain ⟨s9, P9, m9, g9, Q9, n9, f9, y9, rfl, hr, bb⟩ := res_open hh; have HS9 := Lib.hid hr; have HYp9 := Lib.hid (HYp.out.on ((alloc_below X8 (.cells #[.bool false, .slice none 0 0, .slice none 0 0] 25)).drew) HYp.out.lt); have HSp9 := Lib.hid (HSp.out.on ((alloc_below X8 (.cells #[.bool false, .slice none 0 0, .slice none 0 0] 25)).drew)); have HYpz9 := Lib.hid (HYp9.out.on bb HYp9.out.lt); have HSpz9 := Lib.hid (HSp9.out.on bb); have HBz9 := Lib.hid (below_join HBa9.out bb HBa9.out.size); have HZz9 := Lib.hid (HZa9.out.on bb HZa9.out.lt); clear hh hr bb; obtain ⟨c09, c19, c29⟩ := Rt.cells HZz9.out; obtain ⟨d09, d19, d29⟩ := Rt.frozen HZz9.out)
                 | fail)
             all_goals first
               | (have HYn := Lib.hid (show Rt (((z9.setCell ⟨X8.heap.size, 0, none⟩ (.bool s9)).setCell ⟨X8.heap.size, 1, none⟩ (.slice P9 m9 g9)).setCell ⟨X8.heap.size, 2, none⟩ (.slice Q9 n9 f9)) X8.heap.size s9 (.slice P9 m9 g9) (.slice Q9 n9 f9) from row_store3 HZz9.out _ _ _)
                  obtain ⟨X9, hX9⟩ : ∃ X, X = ((z9.setCell ⟨X8.heap.size, 0, none⟩ (.bool s9)).setCell ⟨X8.heap.size, 1, none⟩ (.slice P9 m9 g9)).setCell ⟨X8.heap.size, 2, none⟩ (.slice Q9 n9 f9) := ⟨_, rfl⟩
                  rw [← hX9] at HYn
                  have HBx9 := Lib.hid (show Below U.heap.size U X9 by subst hX9; exact below_store3 HBz9.out hza9 _ _ _)
                  have HSx9 := Lib.hid (show Rs X9 (.agg #[.bool s9, .slice P9 m9 g9, .slice Q9 n9 f9]) y9 R1 Z1 by subst hX9; exact HS9.out.storeZ HZz9.out _ _ _)
                  have HYpx := Lib.hid (show Rt X9 (wr.heap.size) s8 (.slice P8 m8 g8) (.slice Q8 n8 f8) by subst hX9; exact row_keep3 HYpz9.out (by have := HYp.out.lt; omega) _ _ _)
                  have HSpx := Lib.hid (show Rs X9 (.agg #[.bool s8, .slice P8 m8 g8, .slice Q8 n8 f8]) y8 R1 Z1 by subst hX9; exact HSpz9.out.storeZ HZz9.out _ _ _)
                  obtain ⟨w0, w1, w2⟩ := HYpx.out.cells
                  obtain ⟨w3, w4, w5⟩ := HYn.out.cells
                  rw [hX9] at w0 w1 w2 w3 w4 w5
                  go_wp2_with (fail)
                  rw [← hX9]
                  clear hX9 w0 w1 w2 w3 w4 w5
                  go_at_call 17
                  refine (c_lsame HSpx.out HSx9.out).mono ?_
                  rintro e zf ⟨rfl, bf⟩
                  have HBf := Lib.hid (below_join HBx9.out bf HBx9.out.size)
                  clear bf
                  go_wp2_with (fail)
                  go_roundw
                  case rel => exact ⟨2, rfl, by omega, HBf⟩
                  case measure => simp only [intOf]; omega)
               | (obtain ⟨X9, hX9⟩ : ∃ X, X = z9.alloc (.cells #[.bool s9, .slice P9 m9 g9, .slice Q9 n9 f9] 25) := ⟨_, rfl⟩
                  have HYn := Lib.hid (show Rt X9 z9.heap.size s9 (.slice P9 m9 g9) (.slice Q9 n9 f9) by subst hX9; exact rt_new' _ _ _ _)
                  have HBx9 := Lib.hid (show Below U.heap.size U X9 by subst hX9; exact HBz9.out.alloc HBz9.out.size _)
                  have HSx9 := Lib.hid (show Rs X9 (.agg #[.bool s9, .slice P9 m9 g9, .slice Q9 n9 f9]) y9 R1 Z1 by subst hX9; exact HS9.out.on (alloc_below _ _))
                  have HYpx := Lib.hid (show Rt X9 (wr.heap.size) s8 (.slice P8 m8 g8) (.slice Q8 n8 f8) by subst hX9; exact HYpz9.out.on (alloc_below _ _) HYpz9.out.lt)
                  have HSpx := Lib.hid (show Rs X9 (.agg #[.bool s8, .slice P8 m8 g8, .slice Q8 n8 f8]) y8 R1 Z1 by subst hX9; exact HSpz9.out.on (alloc_below _ _))
                  obtain ⟨w0, w1, w2⟩ := HYpx.out.cells
                  obtain ⟨w3, w4, w5⟩ := HYn.out.cells
                  rw [hX9] at w0 w1 w2 w3 w4 w5
                  go_wp2_with (fail)
                  rw [← hX9]
                  clear hX9 w0 w1 w2 w3 w4 w5
                  go_at_call 17
                  refine (c_lsame HSpx.out HSx9.out).mono ?_
                  rintro e zf ⟨rfl, bf⟩
                  have HBf := Lib.hid (below_join HBx9.out bf HBx9.out.size)
                  clear bf
                  go_wp2_with (fail)
                  go_roundw
                  case rel => exact ⟨2, rfl, by omega, HBf⟩
                  case measure => simp only [intOf]; omega))
          | (obtain ⟨X8, hX8⟩ : ∃ X, X = z8.alloc (.cells #[.bool s8, .slice P8 m8 g8, .slice Q8 n8 f8] 25) := ⟨_, rfl⟩
             have HYn := Lib.hid (show Rt X8 z8.heap.size s8 (.slice P8 m8 g8) (.slice Q8 n8 f8) by subst hX8; exact rt_new' _ _ _ _)
             have HBx8 := Lib.hid (show Below U.heap.size U X8 by subst hX8; exact HBz8.out.alloc HBz8.out.size _)
             have HSx8 := Lib.hid (show Rs X8 (.agg #[.bool s8, .slice P8 m8 g8, .slice Q8 n8 f8]) y8 R1 Z1 by subst hX8; exact HS8.out.on (alloc_below _ _))
             go_wp2_with (fail)
             rw [← hX8]
             clear hX8
             have HYp := HYn
             clear HYn
             have HSp := HSx8
             clear HSx8
             have HBd9 := Lib.hid (HBx8.out.drew)
             have HBa9 := Lib.hid ((HBx8.out.alloc HBx8.out.size (.cells #[.bool false, .slice none 0 0, .slice none 0 0] 25)).drew)
             have HZa9 := Lib.hid (show ResZ X8.heap.size (X8.alloc (.cells #[.bool false, .slice none 0 0, .slice none 0 0] 25)).drew from resz_mk X8)
             have hza9 : U.heap.size ≤ X8.heap.size := HBx8.out.size
             go_region_held3 (fun X => ((X.cell? ⟨ga, 0, none⟩ = some (.bool s) ∧ X.cell? ⟨ga, 1, none⟩ = some (.slice P1 la.length i1) ∧ X.cell? ⟨ga, 2, none⟩ = some (.slice P2 lb.length i2)) ∧ (X.cell? ⟨gb, 0, none⟩ = some (.bool t) ∧ X.cell? ⟨gb, 1, none⟩ = some (.slice P3 lc.length i3) ∧ X.cell? ⟨gb, 2, none⟩ = some (.slice P4 ld.length i4))) ∧ X.cell? ⟨V1.heap.size + 1, 1, none⟩ = some (.func (.func 29) #[] #[]))
               (first | exact ⟨SA.out _ (HBz9.out), CG1.out _ (HBz9.out)⟩ | exact ⟨SA.out _ (HBz9.out.alloc HBz9.out.size _), CG1.out _ (HBz9.out.alloc HBz9.out.size _)⟩ | exact ⟨SA.out _ (below_store3 HBz9.out hza9 _ _ _), CG1.out _ (below_store3 HBz9.out hza9 _ _ _)⟩ | exact ⟨SA.out _ (HBd9.out), CG1.out _ (HBd9.out)⟩ | exact ⟨SA.out _ (HBa9.out), CG1.out _ (HBa9.out)⟩ | exact ⟨SA.out _ (HBx8.out.drew.alloc HBx8.out.size _), CG1.out _ (HBx8.out.drew.alloc HBx8.out.size _)⟩ | exact ⟨SA.out _ (HBx8.out), CG1.out _ (HBx8.out)⟩)
               (first
                 | (go_at_call 29; (with_reducible refine (KG1.out _ HBd9.out).mono ?_); rintro e z9 hh; obtain ⟨s9, P9, m9, g9, Q9, n9, f9, y9, rfl, hr, bb⟩ := res_open hh; have HS9 := Lib.hid hr; have HYp9 := Lib.hid (HYp.out.on ((Below.refl X8.heap.size X8).drew) HYp.out.lt); have HSp9 := Lib.hid (HSp.out.on ((Below.refl X8.heap.size X8).drew)); have HYpz9 := Lib.hid (HYp9.out.on bb HYp9.out.lt); have HSpz9 := Lib.hid (HSp9.out.on bb); have HBz9 := Lib.hid (below_join HBd9.out bb HBd9.out.size); clear hh hr bb)
                 | (go_at_call 29; (with_reducible refine (KG1.out _ HBa9.out).mono ?_); rintro e z9 hh; obtain ⟨s9, P9, m9, g9, Q9, n9, f9, y9, rfl, hr, bb⟩ := res_open hh; have HS9 := Lib.hid hr; have HYp9 := Lib.hid (HYp.out.on ((alloc_below X8 (.cells #[.bool false, .slice none 0 0, .slice none 0 0] 25)).drew) HYp.out.lt); have HSp9 := Lib.hid (HSp.out.on ((alloc_below X8 (.cells #[.bool false, .slice none 0 0, .slice none 0 0] 25)).drew)); have HYpz9 := Lib.hid (HYp9.out.on bb HYp9.out.lt); have HSpz9 := Lib.hid (HSp9.out.on bb); have HBz9 := Lib.hid (below_join HBa9.out bb HBa9.out.size); have HZz9 := Lib.hid (HZa9.out.on bb HZa9.out.lt); clear hh hr bb; obtain ⟨c09, c19, c29⟩ := Rt.cells HZz9.out; obtain ⟨d09, d19, d29⟩ := Rt.frozen HZz9.out)
                 | fail)
             all_goals first
               | (have HYn := Lib.hid (show Rt (((z9.setCell ⟨X8.heap.size, 0, none⟩ (.bool s9)).setCell ⟨X8.heap.size, 1, none⟩ (.slice P9 m9 g9)).setCell ⟨X8.heap.size, 2, none⟩ (.slice Q9 n9 f9)) X8.heap.size s9 (.slice P9 m9 g9) (.slice Q9 n9 f9) from row_store3 HZz9.out _ _ _)
                  obtain ⟨X9, hX9⟩ : ∃ X, X = ((z9.setCell ⟨X8.heap.size, 0, none⟩ (.bool s9)).setCell ⟨X8.heap.size, 1, none⟩ (.slice P9 m9 g9)).setCell ⟨X8.heap.size, 2, none⟩ (.slice Q9 n9 f9) := ⟨_, rfl⟩
                  rw [← hX9] at HYn
                  have HBx9 := Lib.hid (show Below U.heap.size U X9 by subst hX9; exact below_store3 HBz9.out hza9 _ _ _)
                  have HSx9 := Lib.hid (show Rs X9 (.agg #[.bool s9, .slice P9 m9 g9, .slice Q9 n9 f9]) y9 R1 Z1 by subst hX9; exact HS9.out.storeZ HZz9.out _ _ _)
                  have HYpx := Lib.hid (show Rt X9 (z8.heap.size) s8 (.slice P8 m8 g8) (.slice Q8 n8 f8) by subst hX9; exact row_keep3 HYpz9.out (by have := HYp.out.lt; omega) _ _ _)
                  have HSpx := Lib.hid (show Rs X9 (.agg #[.bool s8, .slice P8 m8 g8, .slice Q8 n8 f8]) y8 R1 Z1 by subst hX9; exact HSpz9.out.storeZ HZz9.out _ _ _)
                  obtain ⟨w0, w1, w2⟩ := HYpx.out.cells
                  obtain ⟨w3, w4, w5⟩ := HYn.out.cells
                  rw [hX9] at w0 w1 w2 w3 w4 w5
                  go_wp2_with (fail)
                  rw [← hX9]
                  clear hX9 w0 w1 w2 w3 w4 w5
                  go_at_call 17
                  refine (c_lsame HSpx.out HSx9.out).mono ?_
                  rintro e zf ⟨rfl, bf⟩
                  have HBf := Lib.hid (below_join HBx9.out bf HBx9.out.size)
                  clear bf
                  go_wp2_with (fail)
                  go_roundw
                  case rel => exact ⟨2, rfl, by omega, HBf⟩
                  case measure => simp only [intOf]; omega)
               | (obtain ⟨X9, hX9⟩ : ∃ X, X = z9.alloc (.cells #[.bool s9, .slice P9 m9 g9, .slice Q9 n9 f9] 25) := ⟨_, rfl⟩
                  have HYn := Lib.hid (show Rt X9 z9.heap.size s9 (.slice P9 m9 g9) (.slice Q9 n9 f9) by subst hX9; exact rt_new' _ _ _ _)
                  have HBx9 := Lib.hid (show Below U.heap.size U X9 by subst hX9; exact HBz9.out.alloc HBz9.out.size _)
                  have HSx9 := Lib.hid (show Rs X9 (.agg #[.bool s9, .slice P9 m9 g9, .slice Q9 n9 f9]) y9 R1 Z1 by subst hX9; exact HS9.out.on (alloc_below _ _))
                  have HYpx := Lib.hid (show Rt X9 (z8.heap.size) s8 (.slice P8 m8 g8) (.slice Q8 n8 f8) by subst hX9; exact HYpz9.out.on (alloc_below _ _) HYpz9.out.lt)
                  have HSpx := Lib.hid (show Rs X9 (.agg #[.bool s8, .slice P8 m8 g8, .slice Q8 n8 f8]) y8 R1 Z1 by subst hX9; exact HSpz9.out.on (alloc_below _ _))
                  obtain ⟨w0, w1, w2⟩ := HYpx.out.cells
                  obtain ⟨w3, w4, w5⟩ := HYn.out.cells
                  rw [hX9] at w0 w1 w2 w3 w4 w5
                  go_wp2_with (fail)
                  rw [← hX9]
                  clear hX9 w0 w1 w2 w3 w4 w5
                  go_at_call 17
                  refine (c_lsame HSpx.out HSx9.out).mono ?_
                  rintro e zf ⟨rfl, bf⟩
                  have HBf := Lib.hid (below_join HBx9.out bf HBx9.out.size)
                  clear bf
                  go_wp2_with (fail)
                  go_roundw
                  case rel => exact ⟨2, rfl, by omega, HBf⟩
                  case measure => simp only [intOf]; omega))
      by_cases hk2 : k = 2
      · subst hk2
        go_wp2_with (fail)
        have HBd8 := Lib.hid (HB.out.drew)
        have HBa8 := Lib.hid ((HB.out.alloc HB.out.size (.cells #[.bool false, .slice none 0 0, .slice none 0 0] 25)).drew)
        have HZa8 := Lib.hid (show ResZ wr.heap.size (wr.alloc (.cells #[.bool false, .slice none 0 0, .slice none 0 0] 25)).drew from resz_mk wr)
        have hza8 : U.heap.size ≤ wr.heap.size := HB.out.size
        go_region_held3 (fun X => ((X.cell? ⟨w.heap.size, 0, none⟩ = some (.bool s) ∧ X.cell? ⟨w.heap.size, 1, none⟩ = some (.slice E1 la.length j1) ∧ X.cell? ⟨w.heap.size, 2, none⟩ = some (.slice E2 lb.length j2)) ∧ (X.cell? ⟨w.heap.size + 1, 0, none⟩ = some (.bool t) ∧ X.cell? ⟨w.heap.size + 1, 1, none⟩ = some (.slice E3 lc.length j3) ∧ X.cell? ⟨w.heap.size + 1, 2, none⟩ = some (.slice E4 ld.length j4))) ∧ X.cell? ⟨V1.heap.size, 2, none⟩ = some (.func (.func 26) #[] #[]))
          (first | exact ⟨SX.out _ (HBz8.out), CF2.out _ (HBz8.out)⟩ | exact ⟨SX.out _ (HBz8.out.alloc HBz8.out.size _), CF2.out _ (HBz8.out.alloc HBz8.out.size _)⟩ | exact ⟨SX.out _ (below_store3 HBz8.out hza8 _ _ _), CF2.out _ (below_store3 HBz8.out hza8 _ _ _)⟩ | exact ⟨SX.out _ (HBd8.out), CF2.out _ (HBd8.out)⟩ | exact ⟨SX.out _ (HBa8.out), CF2.out _ (HBa8.out)⟩ | exact ⟨SX.out _ (HB.out.drew.alloc HB.out.size _), CF2.out _ (HB.out.drew.alloc HB.out.size _)⟩ | exact ⟨SX.out _ (HB.out), CF2.out _ (HB.out)⟩)
          (first
            | (go_at_call 26; (with_reducible refine (KF2.out _ HBd8.out).mono ?_); rintro e z8 hh; obtain ⟨s8, P8, m8, g8, Q8, n8, f8, y8, rfl, hr, bb⟩ := res_open hh; have HS8 := Lib.hid hr; have HBz8 := Lib.hid (below_join HBd8.out bb HBd8.out.size); clear hh hr bb)
            | (go_at_call 26; (with_reducible refine (KF2.out _ HBa8.out).mono ?_); rintro e z8 hh; obtain ⟨s8, P8, m8, g8, Q8, n8, f8, y8, rfl, hr, bb⟩ := res_open hh; have HS8 := Lib.hid hr; have HBz8 := Lib.hid (below_join HBa8.out bb HBa8.out.size); have HZz8 := Lib.hid (HZa8.out.on bb HZa8.out.lt); clear hh hr bb; obtain ⟨c08, c18, c28⟩ := Rt.cells HZz8.out; obtain ⟨d08, d18, d28⟩ := Rt.frozen HZz8.out)
            | fail)
        all_goals first
          | (have HYn := Lib.hid (show Rt (((z8.setCell ⟨wr.heap.size, 0, none⟩ (.bool s8)).setCell ⟨wr.heap.size, 1, none⟩ (.slice P8 m8 g8)).setCell ⟨wr.heap.size, 2, none⟩ (.slice Q8 n8 f8)) wr.heap.size s8 (.slice P8 m8 g8) (.slice Q8 n8 f8) from row_store3 HZz8.out _ _ _)
             obtain ⟨X8, hX8⟩ : ∃ X, X = ((z8.setCell ⟨wr.heap.size, 0, none⟩ (.bool s8)).setCell ⟨wr.heap.size, 1, none⟩ (.slice P8 m8 g8)).setCell ⟨wr.heap.size, 2, none⟩ (.slice Q8 n8 f8) := ⟨_, rfl⟩
             rw [← hX8] at HYn
             have HBx8 := Lib.hid (show Below U.heap.size U X8 by subst hX8; exact below_store3 HBz8.out hza8 _ _ _)
             have HSx8 := Lib.hid (show Rs X8 (.agg #[.bool s8, .slice P8 m8 g8, .slice Q8 n8 f8]) y8 R2 Z2 by subst hX8; exact HS8.out.storeZ HZz8.out _ _ _)
             go_wp2_with (fail)
             rw [← hX8]
             clear hX8
             have HYp := HYn
             clear HYn
             have HSp := HSx8
             clear HSx8
             have HBd9 := Lib.hid (HBx8.out.drew)
             have HBa9 := Lib.hid ((HBx8.out.alloc HBx8.out.size (.cells #[.bool false, .slice none 0 0, .slice none 0 0] 25)).drew)
             have HZa9 := Lib.hid (show ResZ X8.heap.size (X8.alloc (.cells #[.bool false, .slice none 0 0, .slice none 0 0] 25)).drew from resz_mk X8)
             have hza9 : U.heap.size ≤ X8.heap.size := HBx8.out.size
             go_region_held3 (fun X => ((X.cell? ⟨ga, 0, none⟩ = some (.bool s) ∧ X.cell? ⟨ga, 1, none⟩ = some (.slice P1 la.length i1) ∧ X.cell? ⟨ga, 2, none⟩ = some (.slice P2 lb.length i2)) ∧ (X.cell? ⟨gb, 0, none⟩ = some (.bool t) ∧ X.cell? ⟨gb, 1, none⟩ = some (.slice P3 lc.length i3) ∧ X.cell? ⟨gb, 2, none⟩ = some (.slice P4 ld.length i4))) ∧ X.cell? ⟨V1.heap.size + 1, 2, none⟩ = some (.func (.func 30) #[] #[]))
               (first | exact ⟨SA.out _ (HBz9.out), CG2.out _ (HBz9.out)⟩ | exact ⟨SA.out _ (HBz9.out.alloc HBz9.out.size _), CG2.out _ (HBz9.out.alloc HBz9.out.size _)⟩ | exact ⟨SA.out _ (below_store3 HBz9.out hza9 _ _ _), CG2.out _ (below_store3 HBz9.out hza9 _ _ _)⟩ | exact ⟨SA.out _ (HBd9.out), CG2.out _ (HBd9.out)⟩ | exact ⟨SA.out _ (HBa9.out), CG2.out _ (HBa9.out)⟩ | exact ⟨SA.out _ (HBx8.out.drew.alloc HBx8.out.size _), CG2.out _ (HBx8.out.drew.alloc HBx8.out.size _)⟩ | exact ⟨SA.out _ (HBx8.out), CG2.out _ (HBx8.out)⟩)
               (first
                 | (go_at_call 30; (with_reducible refine (KG2.out _ HBd9.out).mono ?_); rintro e z9 hh; obtain ⟨s9, P9, m9, g9, Q9, n9, f9, y9, rfl, hr, bb⟩ := res_open hh; have HS9 := Lib.hid hr; have HYp9 := Lib.hid (HYp.out.on ((Below.refl X8.heap.size X8).drew) HYp.out.lt); have HSp9 := Lib.hid (HSp.out.on ((Below.refl X8.heap.size X8).drew)); have HYpz9 := Lib.hid (HYp9.out.on bb HYp9.out.lt); have HSpz9 := Lib.hid (HSp9.out.on bb); have HBz9 := Lib.hid (below_join HBd9.out bb HBd9.out.size); clear hh hr bb)
                 | (go_at_call 30; (with_reducible refine (KG2.out _ HBa9.out).mono ?_); rintro e z9 hh; obtain ⟨s9, P9, m9, g9, Q9, n9, f9, y9, rfl, hr, bb⟩ := res_open hh; have HS9 := Lib.hid hr; have HYp9 := Lib.hid (HYp.out.on ((alloc_below X8 (.cells #[.bool false, .slice none 0 0, .slice none 0 0] 25)).drew) HYp.out.lt); have HSp9 := Lib.hid (HSp.out.on ((alloc_below X8 (.cells #[.bool false, .slice none 0 0, .slice none 0 0] 25)).drew)); have HYpz9 := Lib.hid (HYp9.out.on bb HYp9.out.lt); have HSpz9 := Lib.hid (HSp9.out.on bb); have HBz9 := Lib.hid (below_join HBa9.out bb HBa9.out.size); have HZz9 := Lib.hid (HZa9.out.on bb HZa9.out.lt); clear hh hr bb; obtain ⟨c09, c19, c29⟩ := Rt.cells HZz9.out; obtain ⟨d09, d19, d29⟩ := Rt.frozen HZz9.out)
                 | fail)
             all_goals first
               | (have HYn := Lib.hid (show Rt (((z9.setCell ⟨X8.heap.size, 0, none⟩ (.bool s9)).setCell ⟨X8.heap.size, 1, none⟩ (.slice P9 m9 g9)).setCell ⟨X8.heap.size, 2, none⟩ (.slice Q9 n9 f9)) X8.heap.size s9 (.slice P9 m9 g9) (.slice Q9 n9 f9) from row_store3 HZz9.out _ _ _)
                  obtain ⟨X9, hX9⟩ : ∃ X, X = ((z9.setCell ⟨X8.heap.size, 0, none⟩ (.bool s9)).setCell ⟨X8.heap.size, 1, none⟩ (.slice P9 m9 g9)).setCell ⟨X8.heap.size, 2, none⟩ (.slice Q9 n9 f9) := ⟨_, rfl⟩
                  rw [← hX9] at HYn
                  have HBx9 := Lib.hid (show Below U.heap.size U X9 by subst hX9; exact below_store3 HBz9.out hza9 _ _ _)
                  have HSx9 := Lib.hid (show Rs X9 (.agg #[.bool s9, .slice P9 m9 g9, .slice Q9 n9 f9]) y9 R2 Z2 by subst hX9; exact HS9.out.storeZ HZz9.out _ _ _)
                  have HYpx := Lib.hid (show Rt X9 (wr.heap.size) s8 (.slice P8 m8 g8) (.slice Q8 n8 f8) by subst hX9; exact row_keep3 HYpz9.out (by have := HYp.out.lt; omega) _ _ _)
                  have HSpx := Lib.hid (show Rs X9 (.agg #[.bool s8, .slice P8 m8 g8, .slice Q8 n8 f8]) y8 R2 Z2 by subst hX9; exact HSpz9.out.storeZ HZz9.out _ _ _)
                  obtain ⟨w0, w1, w2⟩ := HYpx.out.cells
                  obtain ⟨w3, w4, w5⟩ := HYn.out.cells
                  rw [hX9] at w0 w1 w2 w3 w4 w5
                  go_wp2_with (fail)
                  rw [← hX9]
                  clear hX9 w0 w1 w2 w3 w4 w5
                  go_at_call 17
                  refine (c_lsame HSpx.out HSx9.out).mono ?_
                  rintro e zf ⟨rfl, bf⟩
                  have HBf := Lib.hid (below_join HBx9.out bf HBx9.out.size)
                  clear bf
                  go_wp2_with (fail)
                  go_roundw
                  case rel => exact ⟨3, rfl, by omega, HBf⟩
                  case measure => simp only [intOf]; omega)
               | (obtain ⟨X9, hX9⟩ : ∃ X, X = z9.alloc (.cells #[.bool s9, .slice P9 m9 g9, .slice Q9 n9 f9] 25) := ⟨_, rfl⟩
                  have HYn := Lib.hid (show Rt X9 z9.heap.size s9 (.slice P9 m9 g9) (.slice Q9 n9 f9) by subst hX9; exact rt_new' _ _ _ _)
                  have HBx9 := Lib.hid (show Below U.heap.size U X9 by subst hX9; exact HBz9.out.alloc HBz9.out.size _)
                  have HSx9 := Lib.hid (show Rs X9 (.agg #[.bool s9, .slice P9 m9 g9, .slice Q9 n9 f9]) y9 R2 Z2 by subst hX9; exact HS9.out.on (alloc_below _ _))
                  have HYpx := Lib.hid (show Rt X9 (wr.heap.size) s8 (.slice P8 m8 g8) (.slice Q8 n8 f8) by subst hX9; exact HYpz9.out.on (alloc_below _ _) HYpz9.out.lt)
                  have HSpx := Lib.hid (show Rs X9 (.agg #[.bool s8, .slice P8 m8 g8, .slice Q8 n8 f8]) y8 R2 Z2 by subst hX9; exact HSpz9.out.on (alloc_below _ _))
                  obtain ⟨w0, w1, w2⟩ := HYpx.out.cells
                  obtain ⟨w3, w4, w5⟩ := HYn.out.cells
                  rw [hX9] at w0 w1 w2 w3 w4 w5
                  go_wp2_with (fail)
                  rw [← hX9]
                  clear hX9 w0 w1 w2 w3 w4 w5
                  go_at_call 17
                  refine (c_lsame HSpx.out HSx9.out).mono ?_
                  rintro e zf ⟨rfl, bf⟩
                  have HBf := Lib.hid (below_join HBx9.out bf HBx9.out.size)
                  clear bf
                  go_wp2_with (fail)
                  go_roundw
                  case rel => exact ⟨3, rfl, by omega, HBf⟩
                  case measure => simp only [intOf]; omega))
          | (obtain ⟨X8, hX8⟩ : ∃ X, X = z8.alloc (.cells #[.bool s8, .slice P8 m8 g8, .slice Q8 n8 f8] 25) := ⟨_, rfl⟩
             have HYn := Lib.hid (show Rt X8 z8.heap.size s8 (.slice P8 m8 g8) (.slice Q8 n8 f8) by subst hX8; exact rt_new' _ _ _ _)
             have HBx8 := Lib.hid (show Below U.heap.size U X8 by subst hX8; exact HBz8.out.alloc HBz8.out.size _)
             have HSx8 := Lib.hid (show Rs X8 (.agg #[.bool s8, .slice P8 m8 g8, .slice Q8 n8 f8]) y8 R2 Z2 by subst hX8; exact HS8.out.on (alloc_below _ _))
             go_wp2_with (fail)
             rw [← hX8]
             clear hX8
             have HYp := HYn
             clear HYn
             have HSp := HSx8
             clear HSx8
             have HBd9 := Lib.hid (HBx8.out.drew)
             have HBa9 := Lib.hid ((HBx8.out.alloc HBx8.out.size (.cells #[.bool false, .slice none 0 0, .slice none 0 0] 25)).drew)
             have HZa9 := Lib.hid (show ResZ X8.heap.size (X8.alloc (.cells #[.bool false, .slice none 0 0, .slice none 0 0] 25)).drew from resz_mk X8)
             have hza9 : U.heap.size ≤ X8.heap.size := HBx8.out.size
             go_region_held3 (fun X => ((X.cell? ⟨ga, 0, none⟩ = some (.bool s) ∧ X.cell? ⟨ga, 1, none⟩ = some (.slice P1 la.length i1) ∧ X.cell? ⟨ga, 2, none⟩ = some (.slice P2 lb.length i2)) ∧ (X.cell? ⟨gb, 0, none⟩ = some (.bool t) ∧ X.cell? ⟨gb, 1, none⟩ = some (.slice P3 lc.length i3) ∧ X.cell? ⟨gb, 2, none⟩ = some (.slice P4 ld.length i4))) ∧ X.cell? ⟨V1.heap.size + 1, 2, none⟩ = some (.func (.func 30) #[] #[]))
               (first | exact ⟨SA.out _ (HBz9.out), CG2.out _ (HBz9.out)⟩ | exact ⟨SA.out _ (HBz9.out.alloc HBz9.out.size _), CG2.out _ (HBz9.out.alloc HBz9.out.size _)⟩ | exact ⟨SA.out _ (below_store3 HBz9.out hza9 _ _ _), CG2.out _ (below_store3 HBz9.out hza9 _ _ _)⟩ | exact ⟨SA.out _ (HBd9.out), CG2.out _ (HBd9.out)⟩ | exact ⟨SA.out _ (HBa9.out), CG2.out _ (HBa9.out)⟩ | exact ⟨SA.out _ (HBx8.out.drew.alloc HBx8.out.size _), CG2.out _ (HBx8.out.drew.alloc HBx8.out.size _)⟩ | exact ⟨SA.out _ (HBx8.out), CG2.out _ (HBx8.out)⟩)
               (first
                 | (go_at_call 30; (with_reducible refine (KG2.out _ HBd9.out).mono ?_); rintro e z9 hh; obtain ⟨s9, P9, m9, g9, Q9, n9, f9, y9, rfl, hr, bb⟩ := res_open hh; have HS9 := Lib.hid hr; have HYp9 := Lib.hid (HYp.out.on ((Below.refl X8.heap.size X8).drew) HYp.out.lt); have HSp9 := Lib.hid (HSp.out.on ((Below.refl X8.heap.size X8).drew)); have HYpz9 := Lib.hid (HYp9.out.on bb HYp9.out.lt); have HSpz9 := Lib.hid (HSp9.out.on bb); have HBz9 := Lib.hid (below_join HBd9.out bb HBd9.out.size); clear hh hr bb)
                 | (go_at_call 30; (with_reducible refine (KG2.out _ HBa9.out).mono ?_); rintro e z9 hh; obtain ⟨s9, P9, m9, g9, Q9, n9, f9, y9, rfl, hr, bb⟩ := res_open hh; have HS9 := Lib.hid hr; have HYp9 := Lib.hid (HYp.out.on ((alloc_below X8 (.cells #[.bool false, .slice none 0 0, .slice none 0 0] 25)).drew) HYp.out.lt); have HSp9 := Lib.hid (HSp.out.on ((alloc_below X8 (.cells #[.bool false, .slice none 0 0, .slice none 0 0] 25)).drew)); have HYpz9 := Lib.hid (HYp9.out.on bb HYp9.out.lt); have HSpz9 := Lib.hid (HSp9.out.on bb); have HBz9 := Lib.hid (below_join HBa9.out bb HBa9.out.size); have HZz9 := Lib.hid (HZa9.out.on bb HZa9.out.lt); clear hh hr bb; obtain ⟨c09, c19, c29⟩ := Rt.cells HZz9.out; obtain ⟨d09, d19, d29⟩ := Rt.frozen HZz9.out)
                 | fail)
             all_goals first
               | (have HYn := Lib.hid (show Rt (((z9.setCell ⟨X8.heap.size, 0, none⟩ (.bool s9)).setCell ⟨X8.heap.size, 1, none⟩ (.slice P9 m9 g9)).setCell ⟨X8.heap.size, 2, none⟩ (.slice Q9 n9 f9)) X8.heap.size s9 (.slice P9 m9 g9) (.slice Q9 n9 f9) from row_store3 HZz9.out _ _ _)
                  obtain ⟨X9, hX9⟩ : ∃ X, X = ((z9.setCell ⟨X8.heap.size, 0, none⟩ (.bool s9)).setCell ⟨X8.heap.size, 1, none⟩ (.slice P9 m9 g9)).setCell ⟨X8.heap.size, 2, none⟩ (.slice Q9 n9 f9) := ⟨_, rfl⟩
                  rw [← hX9] at HYn
                  have HBx9 := Lib.hid (show Below U.heap.size U X9 by subst hX9; exact below_store3 HBz9.out hza9 _ _ _)
                  have HSx9 := Lib.hid (show Rs X9 (.agg #[.bool s9, .slice P9 m9 g9, .slice Q9 n9 f9]) y9 R2 Z2 by subst hX9; exact HS9.out.storeZ HZz9.out _ _ _)
                  have HYpx := Lib.hid (show Rt X9 (z8.heap.size) s8 (.slice P8 m8 g8) (.slice Q8 n8 f8) by subst hX9; exact row_keep3 HYpz9.out (by have := HYp.out.lt; omega) _ _ _)
                  have HSpx := Lib.hid (show Rs X9 (.agg #[.bool s8, .slice P8 m8 g8, .slice Q8 n8 f8]) y8 R2 Z2 by subst hX9; exact HSpz9.out.storeZ HZz9.out _ _ _)
                  obtain ⟨w0, w1, w2⟩ := HYpx.out.cells
                  obtain ⟨w3, w4, w5⟩ := HYn.out.cells
                  rw [hX9] at w0 w1 w2 w3 w4 w5
                  go_wp2_with (fail)
                  rw [← hX9]
                  clear hX9 w0 w1 w2 w3 w4 w5
                  go_at_call 17
                  refine (c_lsame HSpx.out HSx9.out).mono ?_
                  rintro e zf ⟨rfl, bf⟩
                  have HBf := Lib.hid (below_join HBx9.out bf HBx9.out.size)
                  clear bf
                  go_wp2_with (fail)
                  go_roundw
                  case rel => exact ⟨3, rfl, by omega, HBf⟩
                  case measure => simp only [intOf]; omega)
               | (obtain ⟨X9, hX9⟩ : ∃ X, X = z9.alloc (.cells #[.bool s9, .slice P9 m9 g9, .slice Q9 n9 f9] 25) := ⟨_, rfl⟩
                  have HYn := Lib.hid (show Rt X9 z9.heap.size s9 (.slice P9 m9 g9) (.slice Q9 n9 f9) by subst hX9; exact rt_new' _ _ _ _)
                  have HBx9 := Lib.hid (show Below U.heap.size U X9 by subst hX9; exact HBz9.out.alloc HBz9.out.size _)
                  have HSx9 := Lib.hid (show Rs X9 (.agg #[.bool s9, .slice P9 m9 g9, .slice Q9 n9 f9]) y9 R2 Z2 by subst hX9; exact HS9.out.on (alloc_below _ _))
                  have HYpx := Lib.hid (show Rt X9 (z8.heap.size) s8 (.slice P8 m8 g8) (.slice Q8 n8 f8) by subst hX9; exact HYpz9.out.on (alloc_below _ _) HYpz9.out.lt)
                  have HSpx := Lib.hid (show Rs X9 (.agg #[.bool s8, .slice P8 m8 g8, .slice Q8 n8 f8]) y8 R2 Z2 by subst hX9; exact HSpz9.out.on (alloc_below _ _))
                  obtain ⟨w0, w1, w2⟩ := HYpx.out.cells
                  obtain ⟨w3, w4, w5⟩ := HYn.out.cells
                  rw [hX9] at w0 w1 w2 w3 w4 w5
                  go_wp2_with (fail)
                  rw [← hX9]
                  clear hX9 w0 w1 w2 w3 w4 w5
                  go_at_call 17
                  refine (c_lsame HSpx.out HSx9.out).mono ?_
                  rintro e zf ⟨rfl, bf⟩
                  have HBf := Lib.hid (below_join HBx9.out bf HBx9.out.size)
                  clear bf
                  go_wp2_with (fail)
                  go_roundw
                  case rel => exact ⟨3, rfl, by omega, HBf⟩
                  case measure => simp only [intOf]; omega))
      by_cases hk3 : k = 3
      · subst hk3
        go_wp2_with (fail)
        have HBd8 := Lib.hid (HB.out.drew)
        have HBa8 := Lib.hid ((HB.out.alloc HB.out.size (.cells #[.bool false, .slice none 0 0, .slice none 0 0] 25)).drew)
        have HZa8 := Lib.hid (show ResZ wr.heap.size (wr.alloc (.cells #[.bool false, .slice none 0 0, .slice none 0 0] 25)).drew from resz_mk wr)
        have hza8 : U.heap.size ≤ wr.heap.size := HB.out.size
        go_region_held3 (fun X => ((X.cell? ⟨w.heap.size, 0, none⟩ = some (.bool s) ∧ X.cell? ⟨w.heap.size, 1, none⟩ = some (.slice E1 la.length j1) ∧ X.cell? ⟨w.heap.size, 2, none⟩ = some (.slice E2 lb.length j2)) ∧ (X.cell? ⟨w.heap.size + 1, 0, none⟩ = some (.bool t) ∧ X.cell? ⟨w.heap.size + 1, 1, none⟩ = some (.slice E3 lc.length j3) ∧ X.cell? ⟨w.heap.size + 1, 2, none⟩ = some (.slice E4 ld.length j4))) ∧ X.cell? ⟨V1.heap.size, 3, none⟩ = some (.func (.func 27) #[] #[]))
          (first | exact ⟨SX.out _ (HBz8.out), CF3.out _ (HBz8.out)⟩ | exact ⟨SX.out _ (HBz8.out.alloc HBz8.out.size _), CF3.out _ (HBz8.out.alloc HBz8.out.size _)⟩ | exact ⟨SX.out _ (below_store3 HBz8.out hza8 _ _ _), CF3.out _ (below_store3 HBz8.out hza8 _ _ _)⟩ | exact ⟨SX.out _ (HBd8.out), CF3.out _ (HBd8.out)⟩ | exact ⟨SX.out _ (HBa8.out), CF3.out _ (HBa8.out)⟩ | exact ⟨SX.out _ (HB.out.drew.alloc HB.out.size _), CF3.out _ (HB.out.drew.alloc HB.out.size _)⟩ | exact ⟨SX.out _ (HB.out), CF3.out _ (HB.out)⟩)
          (first
            | (go_at_call 27; (with_reducible refine (KF3.out _ HBd8.out).mono ?_); rintro e z8 hh; obtain ⟨s8, P8, m8, g8, Q8, n8, f8, y8, rfl, hr, bb⟩ := res_open hh; have HS8 := Lib.hid hr; have HBz8 := Lib.hid (below_join HBd8.out bb HBd8.out.size); clear hh hr bb)
            | (go_at_call 27; (with_reducible refine (KF3.out _ HBa8.out).mono ?_); rintro e z8 hh; obtain ⟨s8, P8, m8, g8, Q8, n8, f8, y8, rfl, hr, bb⟩ := res_open hh; have HS8 := Lib.hid hr; have HBz8 := Lib.hid (below_join HBa8.out bb HBa8.out.size); have HZz8 := Lib.hid (HZa8.out.on bb HZa8.out.lt); clear hh hr bb; obtain ⟨c08, c18, c28⟩ := Rt.cells HZz8.out; obtain ⟨d08, d18, d28⟩ := Rt.frozen HZz8.out)
            | fail)
        all_goals first
          | (have HYn := Lib.hid (show Rt (((z8.setCell ⟨wr.heap.size, 0, none⟩ (.bool s8)).setCell ⟨wr.heap.size, 1, none⟩ (.slice P8 m8 g8)).setCell ⟨wr.heap.size, 2, none⟩ (.slice Q8 n8 f8)) wr.heap.size s8 (.slice P8 m8 g8) (.slice Q8 n8 f8) from row_store3 HZz8.out _ _ _)
             obtain ⟨X8, hX8⟩ : ∃ X, X = ((z8.setCell ⟨wr.heap.size, 0, none⟩ (.bool s8)).setCell ⟨wr.heap.size, 1, none⟩ (.slice P8 m8 g8)).setCell ⟨wr.heap.size, 2, none⟩ (.slice Q8 n8 f8) := ⟨_, rfl⟩
             rw [← hX8] at HYn
             have HBx8 := Lib.hid (show Below U.heap.size U X8 by subst hX8; exact below_store3 HBz8.out hza8 _ _ _)
             have HSx8 := Lib.hid (show Rs X8 (.agg #[.bool s8, .slice P8 m8 g8, .slice Q8 n8 f8]) y8 R3 Z3 by subst hX8; exact HS8.out.storeZ HZz8.out _ _ _)
             go_wp2_with (fail)
             rw [← hX8]
             clear hX8
             have HYp := HYn
             clear HYn
             have HSp := HSx8
             clear HSx8
             have HBd9 := Lib.hid (HBx8.out.drew)
             have HBa9 := Lib.hid ((HBx8.out.alloc HBx8.out.size (.cells #[.bool false, .slice none 0 0, .slice none 0 0] 25)).drew)
             have HZa9 := Lib.hid (show ResZ X8.heap.size (X8.alloc (.cells #[.bool false, .slice none 0 0, .slice none 0 0] 25)).drew from resz_mk X8)
             have hza9 : U.heap.size ≤ X8.heap.size := HBx8.out.size
             go_region_held3 (fun X => ((X.cell? ⟨ga, 0, none⟩ = some (.bool s) ∧ X.cell? ⟨ga, 1, none⟩ = some (.slice P1 la.length i1) ∧ X.cell? ⟨ga, 2, none⟩ = some (.slice P2 lb.length i2)) ∧ (X.cell? ⟨gb, 0, none⟩ = some (.bool t) ∧ X.cell? ⟨gb, 1, none⟩ = some (.slice P3 lc.length i3) ∧ X.cell? ⟨gb, 2, none⟩ = some (.slice P4 ld.length i4))) ∧ X.cell? ⟨V1.heap.size + 1, 3, none⟩ = some (.func (.func 31) #[] #[]))
               (first | exact ⟨SA.out _ (HBz9.out), CG3.out _ (HBz9.out)⟩ | exact ⟨SA.out _ (HBz9.out.alloc HBz9.out.size _), CG3.out _ (HBz9.out.alloc HBz9.out.size _)⟩ | exact ⟨SA.out _ (below_store3 HBz9.out hza9 _ _ _), CG3.out _ (below_store3 HBz9.out hza9 _ _ _)⟩ | exact ⟨SA.out _ (HBd9.out), CG3.out _ (HBd9.out)⟩ | exact ⟨SA.out _ (HBa9.out), CG3.out _ (HBa9.out)⟩ | exact ⟨SA.out _ (HBx8.out.drew.alloc HBx8.out.size _), CG3.out _ (HBx8.out.drew.alloc HBx8.out.size _)⟩ | exact ⟨SA.out _ (HBx8.out), CG3.out _ (HBx8.out)⟩)
               (first
                 | (go_at_call 31; (with_reducible refine (KG3.out _ HBd9.out).mono ?_); rintro e z9 hh; obtain ⟨s9, P9, m9, g9, Q9, n9, f9, y9, rfl, hr, bb⟩ := res_open hh; have HS9 := Lib.hid hr; have HYp9 := Lib.hid (HYp.out.on ((Below.refl X8.heap.size X8).drew) HYp.out.lt); have HSp9 := Lib.hid (HSp.out.on ((Below.refl X8.heap.size X8).drew)); have HYpz9 := Lib.hid (HYp9.out.on bb HYp9.out.lt); have HSpz9 := Lib.hid (HSp9.out.on bb); have HBz9 := Lib.hid (below_join HBd9.out bb HBd9.out.size); clear hh hr bb)
                 | (go_at_call 31; (with_reducible refine (KG3.out _ HBa9.out).mono ?_); rintro e z9 hh; obtain ⟨s9, P9, m9, g9, Q9, n9, f9, y9, rfl, hr, bb⟩ := res_open hh; have HS9 := Lib.hid hr; have HYp9 := Lib.hid (HYp.out.on ((alloc_below X8 (.cells #[.bool false, .slice none 0 0, .slice none 0 0] 25)).drew) HYp.out.lt); have HSp9 := Lib.hid (HSp.out.on ((alloc_below X8 (.cells #[.bool false, .slice none 0 0, .slice none 0 0] 25)).drew)); have HYpz9 := Lib.hid (HYp9.out.on bb HYp9.out.lt); have HSpz9 := Lib.hid (HSp9.out.on bb); have HBz9 := Lib.hid (below_join HBa9.out bb HBa9.out.size); have HZz9 := Lib.hid (HZa9.out.on bb HZa9.out.lt); clear hh hr bb; obtain ⟨c09, c19, c29⟩ := Rt.cells HZz9.out; obtain ⟨d09, d19, d29⟩ := Rt.frozen HZz9.out)
                 | fail)
             all_goals first
               | (have HYn := Lib.hid (show Rt (((z9.setCell ⟨X8.heap.size, 0, none⟩ (.bool s9)).setCell ⟨X8.heap.size, 1, none⟩ (.slice P9 m9 g9)).setCell ⟨X8.heap.size, 2, none⟩ (.slice Q9 n9 f9)) X8.heap.size s9 (.slice P9 m9 g9) (.slice Q9 n9 f9) from row_store3 HZz9.out _ _ _)
                  obtain ⟨X9, hX9⟩ : ∃ X, X = ((z9.setCell ⟨X8.heap.size, 0, none⟩ (.bool s9)).setCell ⟨X8.heap.size, 1, none⟩ (.slice P9 m9 g9)).setCell ⟨X8.heap.size, 2, none⟩ (.slice Q9 n9 f9) := ⟨_, rfl⟩
                  rw [← hX9] at HYn
                  have HBx9 := Lib.hid (show Below U.heap.size U X9 by subst hX9; exact below_store3 HBz9.out hza9 _ _ _)
                  have HSx9 := Lib.hid (show Rs X9 (.agg #[.bool s9, .slice P9 m9 g9, .slice Q9 n9 f9]) y9 R3 Z3 by subst hX9; exact HS9.out.storeZ HZz9.out _ _ _)
                  have HYpx := Lib.hid (show Rt X9 (wr.heap.size) s8 (.slice P8 m8 g8) (.slice Q8 n8 f8) by subst hX9; exact row_keep3 HYpz9.out (by have := HYp.out.lt; omega) _ _ _)
                  have HSpx := Lib.hid (show Rs X9 (.agg #[.bool s8, .slice P8 m8 g8, .slice Q8 n8 f8]) y8 R3 Z3 by subst hX9; exact HSpz9.out.storeZ HZz9.out _ _ _)
                  obtain ⟨w0, w1, w2⟩ := HYpx.out.cells
                  obtain ⟨w3, w4, w5⟩ := HYn.out.cells
                  rw [hX9] at w0 w1 w2 w3 w4 w5
                  go_wp2_with (fail)
                  rw [← hX9]
                  clear hX9 w0 w1 w2 w3 w4 w5
                  go_at_call 17
                  refine (c_lsame HSpx.out HSx9.out).mono ?_
                  rintro e zf ⟨rfl, bf⟩
                  have HBf := Lib.hid (below_join HBx9.out bf HBx9.out.size)
                  clear bf
                  go_wp2_with (fail)
                  go_roundw
                  case rel => exact ⟨4, rfl, by omega, HBf⟩
                  case measure => simp only [intOf]; omega)
               | (obtain ⟨X9, hX9⟩ : ∃ X, X = z9.alloc (.cells #[.bool s9, .slice P9 m9 g9, .slice Q9 n9 f9] 25) := ⟨_, rfl⟩
                  have HYn := Lib.hid (show Rt X9 z9.heap.size s9 (.slice P9 m9 g9) (.slice Q9 n9 f9) by subst hX9; exact rt_new' _ _ _ _)
                  have HBx9 := Lib.hid (show Below U.heap.size U X9 by subst hX9; exact HBz9.out.alloc HBz9.out.size _)
                  have HSx9 := Lib.hid (show Rs X9 (.agg #[.bool s9, .slice P9 m9 g9, .slice Q9 n9 f9]) y9 R3 Z3 by subst hX9; exact HS9.out.on (alloc_below _ _))
                  have HYpx := Lib.hid (show Rt X9 (wr.heap.size) s8 (.slice P8 m8 g8) (.slice Q8 n8 f8) by subst hX9; exact HYpz9.out.on (alloc_below _ _) HYpz9.out.lt)
                  have HSpx := Lib.hid (show Rs X9 (.agg #[.bool s8, .slice P8 m8 g8, .slice Q8 n8 f8]) y8 R3 Z3 by subst hX9; exact HSpz9.out.on (alloc_below _ _))
                  obtain ⟨w0, w1, w2⟩ := HYpx.out.cells
                  obtain ⟨w3, w4, w5⟩ := HYn.out.cells
                  rw [hX9] at w0 w1 w2 w3 w4 w5
                  go_wp2_with (fail)
                  rw [← hX9]
                  clear hX9 w0 w1 w2 w3 w4 w5
                  go_at_call 17
                  refine (c_lsame HSpx.out HSx9.out).mono ?_
                  rintro e zf ⟨rfl, bf⟩
                  have HBf := Lib.hid (below_join HBx9.out bf HBx9.out.size)
                  clear bf
                  go_wp2_with (fail)
                  go_roundw
                  case rel => exact ⟨4, rfl, by omega, HBf⟩
                  case measure => simp only [intOf]; omega))
          | (obtain ⟨X8, hX8⟩ : ∃ X, X = z8.alloc (.cells #[.bool s8, .slice P8 m8 g8, .slice Q8 n8 f8] 25) := ⟨_, rfl⟩
             have HYn := Lib.hid (show Rt X8 z8.heap.size s8 (.slice P8 m8 g8) (.slice Q8 n8 f8) by subst hX8; exact rt_new' _ _ _ _)
             have HBx8 := Lib.hid (show Below U.heap.size U X8 by subst hX8; exact HBz8.out.alloc HBz8.out.size _)
             have HSx8 := Lib.hid (show Rs X8 (.agg #[.bool s8, .slice P8 m8 g8, .slice Q8 n8 f8]) y8 R3 Z3 by subst hX8; exact HS8.out.on (alloc_below _ _))
             go_wp2_with (fail)
             rw [← hX8]
             clear hX8
             have HYp := HYn
             clear HYn
             have HSp := HSx8
             clear HSx8
             have HBd9 := Lib.hid (HBx8.out.drew)
             have HBa9 := Lib.hid ((HBx8.out.alloc HBx8.out.size (.cells #[.bool false, .slice none 0 0, .slice none 0 0] 25)).drew)
             have HZa9 := Lib.hid (show ResZ X8.heap.size (X8.alloc (.cells #[.bool false, .slice none 0 0, .slice none 0 0] 25)).drew from resz_mk X8)
             have hza9 : U.heap.size ≤ X8.heap.size := HBx8.out.size
             go_region_held3 (fun X => ((X.cell? ⟨ga, 0, none⟩ = some (.bool s) ∧ X.cell? ⟨ga, 1, none⟩ = some (.slice P1 la.length i1) ∧ X.cell? ⟨ga, 2, none⟩ = some (.slice P2 lb.length i2)) ∧ (X.cell? ⟨gb, 0, none⟩ = some (.bool t) ∧ X.cell? ⟨gb, 1, none⟩ = some (.slice P3 lc.length i3) ∧ X.cell? ⟨gb, 2, none⟩ = some (.slice P4 ld.length i4))) ∧ X.cell? ⟨V1.heap.size + 1, 3, none⟩ = some (.func (.func 31) #[] #[]))
               (first | exact ⟨SA.out _ (HBz9.out), CG3.out _ (HBz9.out)⟩ | exact ⟨SA.out _ (HBz9.out.alloc HBz9.out.size _), CG3.out _ (HBz9.out.alloc HBz9.out.size _)⟩ | exact ⟨SA.out _ (below_store3 HBz9.out hza9 _ _ _), CG3.out _ (below_store3 HBz9.out hza9 _ _ _)⟩ | exact ⟨SA.out _ (HBd9.out), CG3.out _ (HBd9.out)⟩ | exact ⟨SA.out _ (HBa9.out), CG3.out _ (HBa9.out)⟩ | exact ⟨SA.out _ (HBx8.out.drew.alloc HBx8.out.size _), CG3.out _ (HBx8.out.drew.alloc HBx8.out.size _)⟩ | exact ⟨SA.out _ (HBx8.out), CG3.out _ (HBx8.out)⟩)
               (first
                 | (go_at_call 31; (with_reducible refine (KG3.out _ HBd9.out).mono ?_); rintro e z9 hh; obtain ⟨s9, P9, m9, g9, Q9, n9, f9, y9, rfl, hr, bb⟩ := res_open hh; have HS9 := Lib.hid hr; have HYp9 := Lib.hid (HYp.out.on ((Below.refl X8.heap.size X8).drew) HYp.out.lt); have HSp9 := Lib.hid (HSp.out.on ((Below.refl X8.heap.size X8).drew)); have HYpz9 := Lib.hid (HYp9.out.on bb HYp9.out.lt); have HSpz9 := Lib.hid (HSp9.out.on bb); have HBz9 := Lib.hid (below_join HBd9.out bb HBd9.out.size); clear hh hr bb)
                 | (go_at_call 31; (with_reducible refine (KG3.out _ HBa9.out).mono ?_); rintro e z9 hh; obtain ⟨s9, P9, m9, g9, Q9, n9, f9, y9, rfl, hr, bb⟩ := res_open hh; have HS9 := Lib.hid hr; have HYp9 := Lib.hid (HYp.out.on ((alloc_below X8 (.cells #[.bool false, .slice none 0 0, .slice none 0 0] 25)).drew) HYp.out.lt); have HSp9 := Lib.hid (HSp.out.on ((alloc_below X8 (.cells #[.bool false, .slice none 0 0, .slice none 0 0] 25)).drew)); have HYpz9 := Lib.hid (HYp9.out.on bb HYp9.out.lt); have HSpz9 := Lib.hid (HSp9.out.on bb); have HBz9 := Lib.hid (below_join HBa9.out bb HBa9.out.size); have HZz9 := Lib.hid (HZa9.out.on bb HZa9.out.lt); clear hh hr bb; obtain ⟨c09, c19, c29⟩ := Rt.cells HZz9.out; obtain ⟨d09, d19, d29⟩ := Rt.frozen HZz9.out)
                 | fail)
             all_goals first
               | (have HYn := Lib.hid (show Rt (((z9.setCell ⟨X8.heap.size, 0, none⟩ (.bool s9)).setCell ⟨X8.heap.size, 1, none⟩ (.slice P9 m9 g9)).setCell ⟨X8.heap.size, 2, none⟩ (.slice Q9 n9 f9)) X8.heap.size s9 (.slice P9 m9 g9) (.slice Q9 n9 f9) from row_store3 HZz9.out _ _ _)
                  obtain ⟨X9, hX9⟩ : ∃ X, X = ((z9.setCell ⟨X8.heap.size, 0, none⟩ (.bool s9)).setCell ⟨X8.heap.size, 1, none⟩ (.slice P9 m9 g9)).setCell ⟨X8.heap.size, 2, none⟩ (.slice Q9 n9 f9) := ⟨_, rfl⟩
                  rw [← hX9] at HYn
                  have HBx9 := Lib.hid (show Below U.heap.size U X9 by subst hX9; exact below_store3 HBz9.out hza9 _ _ _)
                  have HSx9 := Lib.hid (show Rs X9 (.agg #[.bool s9, .slice P9 m9 g9, .slice Q9 n9 f9]) y9 R3 Z3 by subst hX9; exact HS9.out.storeZ HZz9.out _ _ _)
                  have HYpx := Lib.hid (show Rt X9 (z8.heap.size) s8 (.slice P8 m8 g8) (.slice Q8 n8 f8) by subst hX9; exact row_keep3 HYpz9.out (by have := HYp.out.lt; omega) _ _ _)
                  have HSpx := Lib.hid (show Rs X9 (.agg #[.bool s8, .slice P8 m8 g8, .slice Q8 n8 f8]) y8 R3 Z3 by subst hX9; exact HSpz9.out.storeZ HZz9.out _ _ _)
                  obtain ⟨w0, w1, w2⟩ := HYpx.out.cells
                  obtain ⟨w3, w4, w5⟩ := HYn.out.cells
                  rw [hX9] at w0 w1 w2 w3 w4 w5
                  go_wp2_with (fail)
                  rw [← hX9]
                  clear hX9 w0 w1 w2 w3 w4 w5
                  go_at_call 17
                  refine (c_lsame HSpx.out HSx9.out).mono ?_
                  rintro e zf ⟨rfl, bf⟩
                  have HBf := Lib.hid (below_join HBx9.out bf HBx9.out.size)
                  clear bf
                  go_wp2_with (fail)
                  go_roundw
                  case rel => exact ⟨4, rfl, by omega, HBf⟩
                  case measure => simp only [intOf]; omega)
               | (obtain ⟨X9, hX9⟩ : ∃ X, X = z9.alloc (.cells #[.bool s9, .slice P9 m9 g9, .slice Q9 n9 f9] 25) := ⟨_, rfl⟩
                  have HYn := Lib.hid (show Rt X9 z9.heap.size s9 (.slice P9 m9 g9) (.slice Q9 n9 f9) by subst hX9; exact rt_new' _ _ _ _)
                  have HBx9 := Lib.hid (show Below U.heap.size U X9 by subst hX9; exact HBz9.out.alloc HBz9.out.size _)
                  have HSx9 := Lib.hid (show Rs X9 (.agg #[.bool s9, .slice P9 m9 g9, .slice Q9 n9 f9]) y9 R3 Z3 by subst hX9; exact HS9.out.on (alloc_below _ _))
                  have HYpx := Lib.hid (show Rt X9 (z8.heap.size) s8 (.slice P8 m8 g8) (.slice Q8 n8 f8) by subst hX9; exact HYpz9.out.on (alloc_below _ _) HYpz9.out.lt)
                  have HSpx := Lib.hid (show Rs X9 (.agg #[.bool s8, .slice P8 m8 g8, .slice Q8 n8 f8]) y8 R3 Z3 by subst hX9; exact HSpz9.out.on (alloc_below _ _))
                  obtain ⟨w0, w1, w2⟩ := HYpx.out.cells
                  obtain ⟨w3, w4, w5⟩ := HYn.out.cells
                  rw [hX9] at w0 w1 w2 w3 w4 w5
                  go_wp2_with (fail)
                  rw [← hX9]
                  clear hX9 w0 w1 w2 w3 w4 w5
                  go_at_call 17
                  refine (c_lsame HSpx.out HSx9.out).mono ?_
                  rintro e zf ⟨rfl, bf⟩
                  have HBf := Lib.hid (below_join HBx9.out bf HBx9.out.size)
                  clear bf
                  go_wp2_with (fail)
                  go_roundw
                  case rel => exact ⟨4, rfl, by omega, HBf⟩
                  case measure => simp only [intOf]; omega))
      obtain rfl : k = 4 := by omega
      obtain ⟨⟨x0, x1, x2⟩, y0, y1, y2⟩ := SX.out _ HB.out
      go_wp2_with (fail)
      clear x0 x1 x2 y0 y1 y2
      go_at_call 32
      refine (KC.out _ HB.out).mono ?_
      rintro e t1 ⟨rfl, b1⟩
      have HB1 := Lib.hid (below_join HB.out b1 HB.out.size)
      clear b1
      obtain ⟨⟨x0, x1, x2⟩, y0, y1, y2⟩ := SA.out _ HB1.out
      go_wp2_with (fail)
      clear x0 x1 x2 y0 y1 y2
      go_at_call 33
      refine (KD.out _ HB1.out).mono ?_
      rintro e t2 ⟨rfl, b2⟩
      have HB2 := Lib.hid (below_join HB1.out b2 HB1.out.size)
      clear b2
      obtain ⟨⟨x0, x1, x2⟩, -⟩ := SX.out _ HB2.out
      obtain ⟨⟨a0, a1, a2⟩, -⟩ := SA.out _ HB2.out
      go_wp2_with (fail)
      clear x0 x1 x2 a0 a1 a2
      go_at_call 22
      refine (KX.out _ HB2.out).mono ?_
      rintro e t3 ⟨rfl, b3⟩
      have HB3 := Lib.hid (below_join HB2.out b3 HB2.out.size)
      clear b3
      obtain ⟨-, x0, x1, x2⟩ := SX.out _ HB3.out
      obtain ⟨-, a0, a1, a2⟩ := SA.out _ HB3.out
      go_wp2_with (fail)
      clear x0 x1 x2 a0 a1 a2
      go_at_call 22
      refine (KY.out _ HB3.out).mono ?_
      rintro e t4 ⟨rfl, b4⟩
      have HB4 := Lib.hid (below_join HB3.out b4 HB3.out.size)
      clear b4
      go_wp2_with (fail)
      go_at_call 23
      refine (c_works _ (HEE.out _ HB4.out)).mono ?_
      rintro e t5 ⟨rfl, b5⟩
      go_wp2_with (fail)
      go_ret
      exact ⟨rfl, below_join (below_join HWU.out HB4.out HWU.out.size) b5 (Nat.le_trans HWU.out.size HB4.out.size)⟩
end Go.Proofs.YtfdkdloldjfnjaaGreatDoor
