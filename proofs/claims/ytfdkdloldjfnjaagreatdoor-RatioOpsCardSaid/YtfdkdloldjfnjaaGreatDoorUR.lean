/-
  DERIVED. The law RatioWhole.
-/
import Derived.Test.YtfdkdloldjfnjaaGreatDoorUQ
import Derived.Test.YtfdkdloldjfnjaaGreatDoorTY
import Derived.Test.YtfdkdloldjfnjaaGreatDoorUF
set_option linter.unusedVariables false
set_option linter.unusedSimpArgs false
namespace Go.Proofs.YtfdkdloldjfnjaaGreatDoor
open Go.RowKit
set_option maxRecDepth 100000

theorem Rc.lb' {w : World} {v : Value} {s : Bool} {a b : List Nat} (h : Rc w v s a b) : Lb a ∧ Lb b := by
  obtain ⟨va, vb, -, h1, -, h2, -⟩ := h
  exact ⟨h1.2, h2.2⟩
theorem Rc.fr0' {w : World} {v : Value} {s : Bool} {a b : List Nat} (h : Rc w v s a b) (ha : a.length ≤ 100000) (hb : b.length ≤ 100000) : Fr0 w v s a b := by
  obtain ⟨va, vb, e, h1, -, h2, -⟩ := h
  exact ⟨va, vb, e, h1.1, h2.1, h1.2, h2.2, ha, hb⟩
theorem Rc.storeZ {X : World} {b : Nat} {v : Value} {s t : Bool} {la lb : List Nat} {p p' : Option Addr} {i j i' j' : Nat} (h : Rc X v s la lb) (hr : Rt X b t (.slice p i j) (.slice p' i' j')) (x0 x1 x2 : Value) : Rc (((X.setCell ⟨b, 0, none⟩ x0).setCell ⟨b, 1, none⟩ x1).setCell ⟨b, 2, none⟩ x2) v s la lb := by
  obtain ⟨va, vb, e, h1, n1, h2, n2⟩ := h
  exact ⟨va, vb, e, ⟨natSl_storeZ h1.1 hr _ _ _, h1.2⟩, n1, ⟨natSl_storeZ h2.1 hr _ _ _, h2.2⟩, n2⟩
theorem Rc.open {w : World} {v : Value} {s : Bool} {a b : List Nat} (h : Rc w v s a b) : ∃ A c B d, v = .agg #[.bool s, .slice A a.length c, .slice B b.length d] := by
  obtain ⟨va, vb, e, h1, -, h2, -⟩ := h
  obtain ⟨A, c, rfl, -, -⟩ := h1.nilcap
  obtain ⟨B, d, rfl, -, -⟩ := h2.nilcap
  exact ⟨A, c, B, d, e⟩
set_option maxHeartbeats 8000000 in
theorem whole_walk (s : Bool) (a b la lb : List Nat) (hla : Hid (la = a.take 40)) (hlb : Hid (lb = b.take 40)) (R : Option (Bool × Nat × Nat)) (z V Z : Int)
    (hF : Hid (∀ X r, Env X → Rc X r s la lb → Calls Tryz.prog 34 #[r] X (ResPost R z X))) (hG : Hid (∀ X r, Env X → Rc X r s la lb → Calls Tryz.prog 35 #[r] X (ResPost R z X)))
    (hI : Hid (∀ X r, Env X → Rc X r s la lb → Calls Tryz.prog 36 #[r] X (IntPost V Z X))) (hJ : Hid (∀ X r, Env X → Rc X r s la lb → Calls Tryz.prog 37 #[r] X (IntPost V Z X)))
    (x : Value) (w : World) (he : Env w) (hx : Rc w x s a b) :
    Calls Tryz.prog 5 #[x] w fun e w' => e = .returned (.bool true) ∧ Below w.heap.size w w' := by
  have HXC := Lib.hid hx
  obtain ⟨A1, c1, A2, c2, rfl⟩ := hx.open
  have HE0 := Lib.hid he
  obtain ⟨W, hW⟩ : ∃ W, W = w.alloc (.cells #[.bool s, .slice A1 a.length c1, .slice A2 b.length c2] 25) := ⟨_, rfl⟩
  have B0 : Below w.heap.size w W := by subst hW; exact (Below.refl _ _).alloc (Nat.le_refl _) _
  have HBW := Lib.hid B0
  have hz : w.heap.size < W.heap.size := by subst hW; simp
  have HR := Lib.hid (show Rt W w.heap.size s (.slice A1 a.length c1) (.slice A2 b.length c2) by subst hW; exact rt_new' _ _ _ _)
  have HOWN := Lib.hid (show Calls Tryz.prog 12 #[.agg #[.bool s, .slice A1 a.length c1, .slice A2 b.length c2]] W fun e w' => ∃ r, e = .returned r ∧ Rc w' r s la lb ∧ Below W.heap.size W w' by rw [hla.out, hlb.out]; exact c_own (HXC.out.on B0))
  clear B0 hx he HXC hla hlb
  go_enter Tryz.func5, Tryz.ntmps5
  go_wp2_with (fail)
  rw [← hW]
  clear hW
  obtain ⟨x0, x1, x2⟩ := HR.out.cells
  go_wp2_with (fail)
  go_at_call 12
  refine HOWN.out.mono ?_
  rintro e w1 ⟨r1, rfl, hr1, b1⟩
  obtain ⟨E1, j1, E2, j2, rfl⟩ := hr1.open
  have HC1 := Lib.hid hr1
  have HR1 := Lib.hid (HR.out.on b1 hz)
  have HB1 := Lib.hid (below_join HBW.out b1 HBW.out.size)
  clear hr1 b1 x0 x1 x2
  obtain ⟨y0, y1, y2⟩ := HR1.out.cells
  obtain ⟨f0, f1, f2⟩ := HR1.out.frozen
  obtain ⟨U, hU⟩ : ∃ U, U = ((w1.setCell ⟨w.heap.size, 0, none⟩ (.bool s)).setCell ⟨w.heap.size, 1, none⟩ (.slice E1 la.length j1)).setCell ⟨w.heap.size, 2, none⟩ (.slice E2 lb.length j2) := ⟨_, rfl⟩
  have HB := Lib.hid (show Below w.heap.size w U by subst hU; exact below_store3 HB1.out (Nat.le_refl _) _ _ _)
  have HX := Lib.hid (show Rt U w.heap.size s (.slice E1 la.length j1) (.slice E2 lb.length j2) by subst hU; exact row_store3 HR1.out _ _ _)
  have HC := Lib.hid (show Rc U (.agg #[.bool s, .slice E1 la.length j1, .slice E2 lb.length j2]) s la lb by subst hU; exact HC1.out.storeZ HR1.out _ _ _)
  have HE := Lib.hid (HE0.out.on HB.out)
  go_wp2_with (fail)
  rw [← hU]
  clear hU y0 y1 y2 f0 f1 f2 HC1 HR1 HB1 HR HBW HOWN
  go_at_call 34
  refine (hF.out _ _ HE.out HC.out).mono ?_
  rintro e w2 h2
  obtain ⟨s2, A3, m3, c3, A4, m4, c4, y2, rfl, hr2, b2⟩ := res_open h2
  have HS2 := Lib.hid hr2
  replace HX := Lib.hid (HX.out.on b2 HX.out.lt)
  replace HC := Lib.hid (HC.out.on b2)
  replace HE := Lib.hid (HE.out.on b2)
  replace HB := Lib.hid (below_join HB.out b2 HB.out.size)
  clear h2 hr2 b2
  obtain ⟨g0, g1, g2⟩ := Rt.cellsA HX.out
  obtain ⟨U2, hU2⟩ : ∃ U, U = w2.alloc (.cells #[.bool s2, .slice A3 m3 c3, .slice A4 m4 c4] 25) := ⟨_, rfl⟩
  have bU2 : Below w2.heap.size w2 U2 := by subst hU2; exact (Below.refl _ _).alloc (Nat.le_refl _) _
  have HY := Lib.hid (show Rt U2 w2.heap.size s2 (.slice A3 m3 c3) (.slice A4 m4 c4) by subst hU2; exact rt_new' _ _ _ _)
  go_wp2_with (fail)
  rw [← hU2]
  clear hU2 g0 g1 g2
  replace HS2 := Lib.hid (HS2.out.on bU2)
  replace HX := Lib.hid (HX.out.on bU2 HX.out.lt)
  replace HC := Lib.hid (HC.out.on bU2)
  replace HE := Lib.hid (HE.out.on bU2)
  replace HB := Lib.hid (below_join HB.out bU2 HB.out.size)
  clear bU2
  go_at_call 35
  refine (hG.out _ _ HE.out HC.out).mono ?_
  rintro e w3 h3
  obtain ⟨s3, A5, m5, c5, A6, m6, c6, y3, rfl, hr3, b3⟩ := res_open h3
  have HS3 := Lib.hid hr3
  replace HS2 := Lib.hid (HS2.out.on b3)
  replace HY := Lib.hid (HY.out.on b3 HY.out.lt)
  replace HX := Lib.hid (HX.out.on b3 HX.out.lt)
  replace HC := Lib.hid (HC.out.on b3)
  replace HE := Lib.hid (HE.out.on b3)
  replace HB := Lib.hid (below_join HB.out b3 HB.out.size)
  clear h3 hr3 b3
  obtain ⟨g0, g1, g2⟩ := Rt.cellsA HX.out
  obtain ⟨U3, hU3⟩ : ∃ U, U = w3.alloc (.cells #[.bool s3, .slice A5 m5 c5, .slice A6 m6 c6] 25) := ⟨_, rfl⟩
  have bU3 : Below w3.heap.size w3 U3 := by subst hU3; exact (Below.refl _ _).alloc (Nat.le_refl _) _
  have HY3 := Lib.hid (show Rt U3 w3.heap.size s3 (.slice A5 m5 c5) (.slice A6 m6 c6) by subst hU3; exact rt_new' _ _ _ _)
  go_wp2_with (fail)
  rw [← hU3]
  clear hU3 g0 g1 g2
  replace HS2 := Lib.hid (HS2.out.on bU3)
  replace HS3 := Lib.hid (HS3.out.on bU3)
  replace HY := Lib.hid (HY.out.on bU3 HY.out.lt)
  replace HX := Lib.hid (HX.out.on bU3 HX.out.lt)
  replace HC := Lib.hid (HC.out.on bU3)
  replace HE := Lib.hid (HE.out.on bU3)
  replace HB := Lib.hid (below_join HB.out bU3 HB.out.size)
  clear bU3
  go_at_call 36
  refine (hI.out _ _ HE.out HC.out).mono ?_
  rintro e w4 ⟨rfl, b4⟩
  replace HS2 := Lib.hid (HS2.out.on b4)
  replace HS3 := Lib.hid (HS3.out.on b4)
  replace HY := Lib.hid (HY.out.on b4 HY.out.lt)
  replace HY3 := Lib.hid (HY3.out.on b4 HY3.out.lt)
  replace HX := Lib.hid (HX.out.on b4 HX.out.lt)
  replace HC := Lib.hid (HC.out.on b4)
  replace HE := Lib.hid (HE.out.on b4)
  replace HB := Lib.hid (below_join HB.out b4 HB.out.size)
  clear b4
  obtain ⟨x0, x1, x2⟩ := HX.out.cells
  go_wp2_with (fail)
  go_at_call 37
  refine (hJ.out _ _ HE.out HC.out).mono ?_
  rintro e w5 ⟨rfl, b5⟩
  replace HS2 := Lib.hid (HS2.out.on b5)
  replace HS3 := Lib.hid (HS3.out.on b5)
  replace HY := Lib.hid (HY.out.on b5 HY.out.lt)
  replace HY3 := Lib.hid (HY3.out.on b5 HY3.out.lt)
  replace HE := Lib.hid (HE.out.on b5)
  replace HB := Lib.hid (below_join HB.out b5 HB.out.size)
  clear b5 x0 x1 x2 HX HC
  obtain ⟨x0, x1, x2⟩ := HY.out.cells
  obtain ⟨y0, y1, y2⟩ := HY3.out.cells
  go_wp2_with (fail)
  go_at_call 17
  refine (c_lsame HS2.out HS3.out).mono ?_
  rintro e w6 ⟨rfl, b6⟩
  replace HE := Lib.hid (HE.out.on b6)
  replace HB := Lib.hid (below_join HB.out b6 HB.out.size)
  clear b6 x0 x1 x2 y0 y1 y2
  go_wp2_with (fail)
  go_at_call 23
  refine (c_works _ HE.out).mono ?_
  rintro e wz ⟨rfl, bz⟩
  go_wp2_with (fail)
  go_ret
  exact ⟨rfl, below_join HB.out bz HB.out.size⟩
end Go.Proofs.YtfdkdloldjfnjaaGreatDoor
