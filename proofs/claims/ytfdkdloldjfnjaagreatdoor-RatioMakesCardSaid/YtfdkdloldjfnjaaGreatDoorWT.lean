/-
  DERIVED. The law RatioMakes. (Written by gen/genWT.py.)
-/
import Derived.Test.YtfdkdloldjfnjaaGreatDoorWS
import Derived.Test.YtfdkdloldjfnjaaGreatDoorUR
import Derived.Test.YtfdkdloldjfnjaaGreatDoorUY
import Derived.Deep.RegionHeld3
set_option linter.unusedVariables false
set_option linter.unusedSimpArgs false
namespace Go.Proofs.YtfdkdloldjfnjaaGreatDoor
open Go.RowKit Go.Shelf
set_option maxRecDepth 100000

theorem cut_text' (t : ByteArray) : ∃ (k : Nat) (l : List UInt8), min ((t.size : Nat) : Int) 700 = ((k : Nat) : Int) ∧ k ≤ t.size ∧ l.length ≤ 700 ∧ ∀ W, (Instr.slice 9 (.string t) none (some (.int .i64 (k : Int))) none).run Tryz.prog W = .ok (.string (str l)) W := by
  refine ⟨min t.size 700, (t.extract 0 (min t.size 700)).data.toList, by omega, by omega, ?_, fun W => ?_⟩
  · have : (t.extract 0 (min t.size 700)).size ≤ 700 := by simp; omega
    show (t.extract 0 (min t.size 700)).data.toList.length ≤ 700
    rw [Array.length_toList]
    exact this
  · rw [run_slice_string_to_if W 9 t .i64 _ Tryz.underlying9, if_pos (by omega), str_of]
    simp
/-- All that the law's last statement reads. -/
structure MkS (bx b1 b2 b3 b4 bY : Nat) (s : Bool) (la lb : List Nat) (x1 x2 y1 y2 : Value) (s1 s2 s3 s4 : Bool) (p1 q1 p2 q2 p3 q3 p4 q4 : Value) (e1 e2 e3 e4 Z1 Z2 : Int) (R1 R2 : Option (Bool × Nat × Nat)) (X : World) : Prop where
  rx : Rt X bx s x1 x2
  r1 : Rt X b1 s1 p1 q1
  r2 : Rt X b2 s2 p2 q2
  r3 : Rt X b3 s3 p3 q3
  r4 : Rt X b4 s4 p4 q4
  ry : Rt X bY s y1 y2
  t1 : Rs X (.agg #[.bool s1, p1, q1]) e1 R1 Z1
  t2 : Rs X (.agg #[.bool s2, p2, q2]) e2 R1 Z1
  t3 : Rs X (.agg #[.bool s3, p3, q3]) e3 R2 Z2
  t4 : Rs X (.agg #[.bool s4, p4, q4]) e4 R2 Z2
  cx : Rc X (.agg #[.bool s, x1, x2]) s la lb
  cy : Rc X (.agg #[.bool s, y1, y2]) s la lb
  ev : Env X
theorem MkS.on {bx b1 b2 b3 b4 bY : Nat} {s : Bool} {la lb : List Nat} {x1 x2 y1 y2 : Value} {s1 s2 s3 s4 : Bool} {p1 q1 p2 q2 p3 q3 p4 q4 : Value} {e1 e2 e3 e4 Z1 Z2 : Int} {R1 R2 : Option (Bool × Nat × Nat)} {X Y : World}
    (h : MkS bx b1 b2 b3 b4 bY s la lb x1 x2 y1 y2 s1 s2 s3 s4 p1 q1 p2 q2 p3 q3 p4 q4 e1 e2 e3 e4 Z1 Z2 R1 R2 X) (hb : Below X.heap.size X Y) : MkS bx b1 b2 b3 b4 bY s la lb x1 x2 y1 y2 s1 s2 s3 s4 p1 q1 p2 q2 p3 q3 p4 q4 e1 e2 e3 e4 Z1 Z2 R1 R2 Y :=
  ⟨h.rx.on hb h.rx.lt, h.r1.on hb h.r1.lt, h.r2.on hb h.r2.lt, h.r3.on hb h.r3.lt, h.r4.on hb h.r4.lt, h.ry.on hb h.ry.lt, h.t1.on hb, h.t2.on hb, h.t3.on hb, h.t4.on hb, h.cx.on hb, h.cy.on hb, h.ev.on hb⟩
theorem Rc.lsx {w : World} {s : Bool} {va vb : Value} {a b : List Nat} (h : Rc w (.agg #[.bool s, va, vb]) s a b) : Ls w va a ∧ Ls w vb b := by
  obtain ⟨ua, ub, e, h1, -, h2, -⟩ := h
  injection e with e
  injection e with e
  simp only [List.cons.injEq, and_true, true_and] at e
  obtain ⟨rfl, rfl⟩ := e
  exact ⟨h1, h2⟩
set_option maxHeartbeats 16000000 in
theorem makes_walk (nn dd : Int) (s : Bool) (a b la lb : List Nat) (hla : Hid (la = a.take 40)) (hlb : Hid (lb = b.take 40)) (t : ByteArray) (ht : t.size ≤ maxLen) (k : Nat) (l : List UInt8) (hk : min ((t.size : Nat) : Int) 700 = ((k : Nat) : Int)) (_hkt : k ≤ t.size)
    (hsl : ∀ W, (Instr.slice 9 (.string t) none (some (.int .i64 (k : Int))) none).run Tryz.prog W = .ok (.string (str l)) W) (R1 R2 : Option (Bool × Nat × Nat)) (Z1 Z2 : Int) (T : ByteArray) (bv : Bool)
    (hF : Hid (∀ X, Env X → Calls Tryz.prog 13 #[.int .i64 nn, .int .i64 dd] X (ResPost R1 Z1 X))) (hG : Hid (∀ X, Calls Tryz.prog 14 #[.int .i64 nn, .int .i64 dd] X (ResPost R1 Z1 X)))
    (hI : Hid (∀ X, Env X → Calls Tryz.prog 15 #[.string (str l)] X (ResPost R2 Z2 X))) (hJ : Hid (∀ X, Calls Tryz.prog 16 #[.string (str l)] X (ResPost R2 Z2 X)))
    (hV : Hid (∀ X r, Env X → Rc X r s la lb → Calls Tryz.prog 18 #[r] X fun e w' => e = .returned (.bool bv) ∧ Below X.heap.size X w')) (hU : Hid (∀ X u v, Rc X (.agg #[.bool s, u, v]) s la lb → Calls Tryz.prog 19 #[.agg #[.bool s, u, v]] X fun e w' => e = .returned (.bool bv) ∧ Below X.heap.size X w'))
    (hT : Hid (∀ X r, Env X → Rc X r s la lb → Calls Tryz.prog 20 #[r] X fun e w' => e = .returned (.string T) ∧ Below X.heap.size X w')) (hS : Hid (∀ X u v, Rc X (.agg #[.bool s, u, v]) s la lb → Calls Tryz.prog 21 #[.agg #[.bool s, u, v]] X fun e w' => e = .returned (.string T) ∧ Below X.heap.size X w'))
    (x : Value) (w : World) (he : Env w) (hx : Rc w x s a b) :
    Calls Tryz.prog 3 #[.int .i64 nn, .int .i64 dd, x, .string t] w fun e w' => e = .returned (.bool true) ∧ Below w.heap.size w w' := by
  have HXC := Lib.hid hx
  obtain ⟨va, vb, rfl, h1, -, h2, -⟩ := hx
  obtain ⟨A1, c1, rfl, -, -⟩ := h1.nilcap
  obtain ⟨A2, c2, rfl, -, -⟩ := h2.nilcap
  have HE0 := Lib.hid he
  obtain ⟨W, hW⟩ : ∃ W, W = w.alloc (.cells #[.bool s, .slice A1 a.length c1, .slice A2 b.length c2] 25) := ⟨_, rfl⟩
  have B0 : Below w.heap.size w W := by subst hW; exact (Below.refl _ _).alloc (Nat.le_refl _) _
  have HBW := Lib.hid B0
  have hz : w.heap.size < W.heap.size := by subst hW; simp
  have HR := Lib.hid (show Rt W w.heap.size s (.slice A1 a.length c1) (.slice A2 b.length c2) by subst hW; exact rt_new' _ _ _ _)
  have HOWN := Lib.hid (fun (X : World) (hX : Below w.heap.size w X) => (show Calls Tryz.prog 12 _ X (fun e w' => ∃ r, e = .returned r ∧ Rc w' r s la lb ∧ Below X.heap.size X w') by rw [hla.out, hlb.out]; exact c_own (HXC.out.on hX)))
  have htk : (t.size : Int) ≤ 9223372036854775807 := by unfold maxLen at ht; omega
  have h40a : Hid (la.take 40 = la) := Lib.hid (by rw [hla.out, List.take_take, Nat.min_self])
  have h40b : Hid (lb.take 40 = lb) := Lib.hid (by rw [hlb.out, List.take_take, Nat.min_self])
  clear B0 h1 h2 he hla hlb
  go_enter Tryz.func3, Tryz.ntmps3
  go_wp2_with (fail)
  rw [← hW]
  clear hW
  obtain ⟨x0, x1, x2⟩ := HR.out.cells
  apply wp_only8 (fun E1 j1 E2 j2 E3 j3 E4 j4 V => Rt V w.heap.size s (.slice E1 la.length j1) (.slice E2 lb.length j2) ∧ Rc V (.agg #[.bool s, .slice E1 la.length j1, .slice E2 lb.length j2]) s la lb ∧ Env V ∧ Below w.heap.size w V)
  case h =>
   go_region_with (first
    | (go_at_call 12; (with_reducible refine (HOWN.out _ HBW.out.drew).mono ?_); rintro e wa ⟨ra, rfl, ⟨v1, v2, rfl, ga1, gn1, ga2, gn2⟩, hba0⟩; obtain ⟨E1, j1, rfl, -, -⟩ := ga1.nilcap; obtain ⟨E2, j2, rfl, -, -⟩ := ga2.nilcap; have hba := Below.undrew hba0; have HBa := Lib.hid hba; have HG1 := Lib.hid ga1; have HG2 := Lib.hid ga2; have HN1 := Lib.hid gn1; have HN2 := Lib.hid gn2; have HRa := Lib.hid (HR.out.on hba hz); clear ga1 ga2 gn1 gn2 hba hba0; obtain ⟨y0, y1, y2⟩ := HRa.out.cells; obtain ⟨f0, f1, f2⟩ := HRa.out.frozen)
    | fail)
   all_goals (
    have hbv := below_store3 (below_join HBW.out HBa.out HBW.out.size) (Nat.le_refl _) (.bool s) (.slice E1 la.length j1) (.slice E2 lb.length j2)
    go_simp
    obtain ⟨E3, j3, E4, j4, -⟩ : ∃ (E3 : Option Addr) (j3 : Nat) (E4 : Option Addr) (j4 : Nat), True := ⟨none, 0, none, 0, trivial⟩
    exact only8_intro E1 j1 E2 j2 E3 j3 E4 j4 rfl ⟨row_store3 HRa.out _ _ _, ⟨_, _, rfl, ⟨natSl_storeZ HG1.out.1 HRa.out _ _ _, HG1.out.2⟩, HN1.out, ⟨natSl_storeZ HG2.out.1 HRa.out _ _ _, HG2.out.2⟩, HN2.out⟩, HE0.out.on hbv, hbv⟩)
  case k =>
    intro E1 j1 E2 j2 _ _ _ _ V ⟨hr, hc, hev, hbv⟩
    have HX := Lib.hid hr
    have HC := Lib.hid hc
    have HE := Lib.hid hev
    have HB := Lib.hid hbv
    clear hr hc hev hbv x0 x1 x2 HR HOWN HXC HBW HE0
    go_wp2_with (fail)
    go_at_call 13
    refine (hF.out _ HE.out).mono ?_
    rintro e w1 h1
    obtain ⟨s1, P1, m1, g1, Q1, n1, f1, y1, rfl, hr1, b1⟩ := res_open h1
    have HS1 := Lib.hid hr1
    replace HX := Lib.hid (HX.out.on b1 HX.out.lt)
    replace HC := Lib.hid (HC.out.on b1)
    replace HE := Lib.hid (HE.out.on b1)
    replace HB := Lib.hid (below_join HB.out b1 HB.out.size)
    clear h1 hr1 b1
    obtain ⟨U1, hU1⟩ : ∃ U, U = w1.alloc (.cells #[.bool s1, .slice P1 m1 g1, .slice Q1 n1 f1] 25) := ⟨_, rfl⟩
    have bU1 : Below w1.heap.size w1 U1 := by subst hU1; exact (Below.refl _ _).alloc (Nat.le_refl _) _
    have HY1 := Lib.hid (show Rt U1 w1.heap.size s1 (.slice P1 m1 g1) (.slice Q1 n1 f1) by subst hU1; exact rt_new' _ _ _ _)
    go_wp2_with (fail)
    rw [← hU1]
    clear hU1
    replace HX := Lib.hid (HX.out.on bU1 HX.out.lt)
    replace HC := Lib.hid (HC.out.on bU1)
    replace HE := Lib.hid (HE.out.on bU1)
    replace HB := Lib.hid (below_join HB.out bU1 HB.out.size)
    replace HS1 := Lib.hid (HS1.out.on bU1)
    clear bU1
    go_at_call 14
    refine (hG.out _).mono ?_
    rintro e w2 h2
    obtain ⟨s2, P2, m2, g2, Q2, n2, f2, y2, rfl, hr2, b2⟩ := res_open h2
    have HS2 := Lib.hid hr2
    replace HX := Lib.hid (HX.out.on b2 HX.out.lt)
    replace HC := Lib.hid (HC.out.on b2)
    replace HE := Lib.hid (HE.out.on b2)
    replace HB := Lib.hid (below_join HB.out b2 HB.out.size)
    replace HS1 := Lib.hid (HS1.out.on b2)
    replace HY1 := Lib.hid (HY1.out.on b2 HY1.out.lt)
    clear h2 hr2 b2
    obtain ⟨U2, hU2⟩ : ∃ U, U = w2.alloc (.cells #[.bool s2, .slice P2 m2 g2, .slice Q2 n2 f2] 25) := ⟨_, rfl⟩
    have bU2 : Below w2.heap.size w2 U2 := by subst hU2; exact (Below.refl _ _).alloc (Nat.le_refl _) _
    have HY2 := Lib.hid (show Rt U2 w2.heap.size s2 (.slice P2 m2 g2) (.slice Q2 n2 f2) by subst hU2; exact rt_new' _ _ _ _)
    go_wp2_with (fail)
    rw [← hU2]
    clear hU2
    replace HX := Lib.hid (HX.out.on bU2 HX.out.lt)
    replace HC := Lib.hid (HC.out.on bU2)
    replace HE := Lib.hid (HE.out.on bU2)
    replace HB := Lib.hid (below_join HB.out bU2 HB.out.size)
    replace HS1 := Lib.hid (HS1.out.on bU2)
    replace HY1 := Lib.hid (HY1.out.on bU2 HY1.out.lt)
    replace HS2 := Lib.hid (HS2.out.on bU2)
    clear bU2
    go_at_call 15
    refine (hI.out _ HE.out).mono ?_
    rintro e w3 h3
    obtain ⟨s3, P3, m3, g3, Q3, n3, f3, y3, rfl, hr3, b3⟩ := res_open h3
    have HS3 := Lib.hid hr3
    replace HX := Lib.hid (HX.out.on b3 HX.out.lt)
    replace HC := Lib.hid (HC.out.on b3)
    replace HE := Lib.hid (HE.out.on b3)
    replace HB := Lib.hid (below_join HB.out b3 HB.out.size)
    replace HS1 := Lib.hid (HS1.out.on b3)
    replace HY1 := Lib.hid (HY1.out.on b3 HY1.out.lt)
    replace HS2 := Lib.hid (HS2.out.on b3)
    replace HY2 := Lib.hid (HY2.out.on b3 HY2.out.lt)
    clear h3 hr3 b3
    obtain ⟨U3, hU3⟩ : ∃ U, U = w3.alloc (.cells #[.bool s3, .slice P3 m3 g3, .slice Q3 n3 f3] 25) := ⟨_, rfl⟩
    have bU3 : Below w3.heap.size w3 U3 := by subst hU3; exact (Below.refl _ _).alloc (Nat.le_refl _) _
    have HY3 := Lib.hid (show Rt U3 w3.heap.size s3 (.slice P3 m3 g3) (.slice Q3 n3 f3) by subst hU3; exact rt_new' _ _ _ _)
    go_wp2_with (fail)
    rw [← hU3]
    clear hU3
    replace HX := Lib.hid (HX.out.on bU3 HX.out.lt)
    replace HC := Lib.hid (HC.out.on bU3)
    replace HE := Lib.hid (HE.out.on bU3)
    replace HB := Lib.hid (below_join HB.out bU3 HB.out.size)
    replace HS1 := Lib.hid (HS1.out.on bU3)
    replace HY1 := Lib.hid (HY1.out.on bU3 HY1.out.lt)
    replace HS2 := Lib.hid (HS2.out.on bU3)
    replace HY2 := Lib.hid (HY2.out.on bU3 HY2.out.lt)
    replace HS3 := Lib.hid (HS3.out.on bU3)
    clear bU3
    go_at_call 16
    refine (hJ.out _).mono ?_
    rintro e w4 h4
    obtain ⟨s4, P4, m4, g4, Q4, n4, f4, y4, rfl, hr4, b4⟩ := res_open h4
    have HS4 := Lib.hid hr4
    replace HX := Lib.hid (HX.out.on b4 HX.out.lt)
    replace HC := Lib.hid (HC.out.on b4)
    replace HE := Lib.hid (HE.out.on b4)
    replace HB := Lib.hid (below_join HB.out b4 HB.out.size)
    replace HS1 := Lib.hid (HS1.out.on b4)
    replace HY1 := Lib.hid (HY1.out.on b4 HY1.out.lt)
    replace HS2 := Lib.hid (HS2.out.on b4)
    replace HY2 := Lib.hid (HY2.out.on b4 HY2.out.lt)
    replace HS3 := Lib.hid (HS3.out.on b4)
    replace HY3 := Lib.hid (HY3.out.on b4 HY3.out.lt)
    clear h4 hr4 b4
    obtain ⟨U4, hU4⟩ : ∃ U, U = w4.alloc (.cells #[.bool s4, .slice P4 m4 g4, .slice Q4 n4 f4] 25) := ⟨_, rfl⟩
    have bU4 : Below w4.heap.size w4 U4 := by subst hU4; exact (Below.refl _ _).alloc (Nat.le_refl _) _
    have HY4 := Lib.hid (show Rt U4 w4.heap.size s4 (.slice P4 m4 g4) (.slice Q4 n4 f4) by subst hU4; exact rt_new' _ _ _ _)
    obtain ⟨x0, x1, x2⟩ := Rt.cellsA HX.out
    go_wp2_with (fail)
    rw [← hU4]
    clear hU4 x0 x1 x2
    replace HX := Lib.hid (HX.out.on bU4 HX.out.lt)
    replace HC := Lib.hid (HC.out.on bU4)
    replace HE := Lib.hid (HE.out.on bU4)
    replace HB := Lib.hid (below_join HB.out bU4 HB.out.size)
    replace HS1 := Lib.hid (HS1.out.on bU4)
    replace HY1 := Lib.hid (HY1.out.on bU4 HY1.out.lt)
    replace HS2 := Lib.hid (HS2.out.on bU4)
    replace HY2 := Lib.hid (HY2.out.on bU4 HY2.out.lt)
    replace HS3 := Lib.hid (HS3.out.on bU4)
    replace HY3 := Lib.hid (HY3.out.on bU4 HY3.out.lt)
    replace HS4 := Lib.hid (HS4.out.on bU4)
    clear bU4
    go_at_call 12
    refine (c_own HC.out).mono ?_
    rintro e w5 ⟨r5, rfl, hr5, b5⟩
    rw [h40a.out, h40b.out] at hr5
    obtain ⟨P5, g5, Q5, f5, rfl⟩ := hr5.open
    have HD := Lib.hid hr5
    replace HX := Lib.hid (HX.out.on b5 HX.out.lt)
    replace HC := Lib.hid (HC.out.on b5)
    replace HE := Lib.hid (HE.out.on b5)
    replace HB := Lib.hid (below_join HB.out b5 HB.out.size)
    replace HS1 := Lib.hid (HS1.out.on b5)
    replace HY1 := Lib.hid (HY1.out.on b5 HY1.out.lt)
    replace HS2 := Lib.hid (HS2.out.on b5)
    replace HY2 := Lib.hid (HY2.out.on b5 HY2.out.lt)
    replace HS3 := Lib.hid (HS3.out.on b5)
    replace HY3 := Lib.hid (HY3.out.on b5 HY3.out.lt)
    replace HS4 := Lib.hid (HS4.out.on b5)
    replace HY4 := Lib.hid (HY4.out.on b5 HY4.out.lt)
    clear hr5 b5
    obtain ⟨U5, hU5⟩ : ∃ U, U = w5.alloc (.cells #[.bool s, .slice P5 la.length g5, .slice Q5 lb.length f5] 25) := ⟨_, rfl⟩
    have bU5 : Below w5.heap.size w5 U5 := by subst hU5; exact (Below.refl _ _).alloc (Nat.le_refl _) _
    have HY5 := Lib.hid (show Rt U5 w5.heap.size s (.slice P5 la.length g5) (.slice Q5 lb.length f5) by subst hU5; exact rt_new' _ _ _ _)
    go_wp2_with (fail)
    rw [← hU5]
    clear hU5
    replace HX := Lib.hid (HX.out.on bU5 HX.out.lt)
    replace HC := Lib.hid (HC.out.on bU5)
    replace HE := Lib.hid (HE.out.on bU5)
    replace HB := Lib.hid (below_join HB.out bU5 HB.out.size)
    replace HS1 := Lib.hid (HS1.out.on bU5)
    replace HY1 := Lib.hid (HY1.out.on bU5 HY1.out.lt)
    replace HS2 := Lib.hid (HS2.out.on bU5)
    replace HY2 := Lib.hid (HY2.out.on bU5 HY2.out.lt)
    replace HS3 := Lib.hid (HS3.out.on bU5)
    replace HY3 := Lib.hid (HY3.out.on bU5 HY3.out.lt)
    replace HS4 := Lib.hid (HS4.out.on bU5)
    replace HY4 := Lib.hid (HY4.out.on bU5 HY4.out.lt)
    replace HD := Lib.hid (HD.out.on bU5)
    clear bU5
    obtain ⟨M, hM⟩ : ∃ M : World → Prop, M = MkS w.heap.size w1.heap.size w2.heap.size w3.heap.size w4.heap.size w5.heap.size s la lb (.slice E1 la.length j1) (.slice E2 lb.length j2) (.slice P5 la.length g5) (.slice Q5 lb.length f5) s1 s2 s3 s4 (.slice P1 m1 g1) (.slice Q1 n1 f1) (.slice P2 m2 g2) (.slice Q2 n2 f2) (.slice P3 m3 g3) (.slice Q3 n3 f3) (.slice P4 m4 g4) (.slice Q4 n4 f4) y1 y2 y3 y4 Z1 Z2 R1 R2 := ⟨_, rfl⟩
    have HM0 := Lib.hid (show M U5 by rw [hM]; exact ⟨HX.out, HY1.out, HY2.out, HY3.out, HY4.out, HY5.out, HS1.out, HS2.out, HS3.out, HS4.out, HC.out, HD.out, HE.out⟩)
    have HON := Lib.hid (show ∀ X Y, M X → Below X.heap.size X Y → M Y by rw [hM]; exact fun X Y h hb => h.on hb)
    have HSS := Lib.hid (show ∀ X, M X → (X.cell? ⟨w.heap.size, 0, none⟩ = some (.bool s) ∧ X.cell? ⟨w.heap.size, 1, none⟩ = some (.slice E1 la.length j1) ∧ X.cell? ⟨w.heap.size, 2, none⟩ = some (.slice E2 lb.length j2)) ∧ (X.cell? ⟨w1.heap.size, 0, none⟩ = some (.bool s1) ∧ X.cell? ⟨w1.heap.size, 1, none⟩ = some (.slice P1 m1 g1) ∧ X.cell? ⟨w1.heap.size, 2, none⟩ = some (.slice Q1 n1 f1)) ∧ (X.cell? ⟨w2.heap.size, 0, none⟩ = some (.bool s2) ∧ X.cell? ⟨w2.heap.size, 1, none⟩ = some (.slice P2 m2 g2) ∧ X.cell? ⟨w2.heap.size, 2, none⟩ = some (.slice Q2 n2 f2)) ∧ (X.cell? ⟨w3.heap.size, 0, none⟩ = some (.bool s3) ∧ X.cell? ⟨w3.heap.size, 1, none⟩ = some (.slice P3 m3 g3) ∧ X.cell? ⟨w3.heap.size, 2, none⟩ = some (.slice Q3 n3 f3)) ∧ (X.cell? ⟨w4.heap.size, 0, none⟩ = some (.bool s4) ∧ X.cell? ⟨w4.heap.size, 1, none⟩ = some (.slice P4 m4 g4) ∧ X.cell? ⟨w4.heap.size, 2, none⟩ = some (.slice Q4 n4 f4)) ∧ (X.cell? ⟨w5.heap.size, 0, none⟩ = some (.bool s) ∧ X.cell? ⟨w5.heap.size, 1, none⟩ = some (.slice P5 la.length g5) ∧ X.cell? ⟨w5.heap.size, 2, none⟩ = some (.slice Q5 lb.length f5)) by rw [hM]; exact fun X h => ⟨h.rx.cells, h.r1.cells, h.r2.cells, h.r3.cells, h.r4.cells, h.ry.cells⟩)
    have K1 := Lib.hid (show ∀ X, M X → Calls Tryz.prog 17 #[.agg #[.bool s1, .slice P1 m1 g1, .slice Q1 n1 f1], .int .i64 y1, .agg #[.bool s2, .slice P2 m2 g2, .slice Q2 n2 f2], .int .i64 y2] X (fun e w' => e = .returned (.bool true) ∧ Below X.heap.size X w') by rw [hM]; exact fun X h => c_lsame h.t1 h.t2)
    have K2 := Lib.hid (show ∀ X, M X → Calls Tryz.prog 17 #[.agg #[.bool s3, .slice P3 m3 g3, .slice Q3 n3 f3], .int .i64 y3, .agg #[.bool s4, .slice P4 m4 g4, .slice Q4 n4 f4], .int .i64 y4] X (fun e w' => e = .returned (.bool true) ∧ Below X.heap.size X w') by rw [hM]; exact fun X h => c_lsame h.t3 h.t4)
    have K3 := Lib.hid (show ∀ X, M X → Calls Tryz.prog 18 #[.agg #[.bool s, .slice E1 la.length j1, .slice E2 lb.length j2]] X (fun e w' => e = .returned (.bool bv) ∧ Below X.heap.size X w') by rw [hM]; exact fun X h => hV.out X _ h.ev h.cx)
    have K4 := Lib.hid (show ∀ X, M X → Calls Tryz.prog 19 #[.agg #[.bool s, .slice P5 la.length g5, .slice Q5 lb.length f5]] X (fun e w' => e = .returned (.bool bv) ∧ Below X.heap.size X w') by rw [hM]; exact fun X h => hU.out X _ _ h.cy)
    have K5 := Lib.hid (show ∀ X, M X → Calls Tryz.prog 20 #[.agg #[.bool s, .slice E1 la.length j1, .slice E2 lb.length j2]] X (fun e w' => e = .returned (.string T) ∧ Below X.heap.size X w') by rw [hM]; exact fun X h => hT.out X _ h.ev h.cx)
    have K6 := Lib.hid (show ∀ X, M X → Calls Tryz.prog 21 #[.agg #[.bool s, .slice P5 la.length g5, .slice Q5 lb.length f5]] X (fun e w' => e = .returned (.string T) ∧ Below X.heap.size X w') by rw [hM]; exact fun X h => hS.out X _ _ h.cy)
    have K7 := Lib.hid (show ∀ X, M X → Calls Tryz.prog 22 #[.agg #[.bool s, .slice E1 la.length j1, .slice E2 lb.length j2], .agg #[.bool s, .slice P5 la.length g5, .slice Q5 lb.length f5]] X (fun e w' => e = .returned (.bool true) ∧ Below X.heap.size X w') by rw [hM]; exact fun X h => c_eSame s s la lb la lb true (decide_eq_true ⟨rfl, rfl, rfl⟩) _ _ _ _ X h.cx.lsx.1 h.cx.lsx.2 h.cy.lsx.1 h.cy.lsx.2)
    have K8 := Lib.hid (show ∀ X, M X → Calls Tryz.prog 23 #[] X (fun e w' => e = .returned (.bool true) ∧ Below X.heap.size X w') by rw [hM]; exact fun X h => c_works X h.ev)
    clear hM HX HC HE HD HY1 HY2 HY3 HY4 HY5 HS1 HS2 HS3 HS4 hF hG hI hJ hV hU hT hS
    have HD0 := Lib.hid (HON.out _ _ HM0.out (Below.refl U5.heap.size U5).drew)
    go_region_held3 (fun X => (X.cell? ⟨w.heap.size, 0, none⟩ = some (.bool s) ∧ X.cell? ⟨w.heap.size, 1, none⟩ = some (.slice E1 la.length j1) ∧ X.cell? ⟨w.heap.size, 2, none⟩ = some (.slice E2 lb.length j2)) ∧ (X.cell? ⟨w1.heap.size, 0, none⟩ = some (.bool s1) ∧ X.cell? ⟨w1.heap.size, 1, none⟩ = some (.slice P1 m1 g1) ∧ X.cell? ⟨w1.heap.size, 2, none⟩ = some (.slice Q1 n1 f1)) ∧ (X.cell? ⟨w2.heap.size, 0, none⟩ = some (.bool s2) ∧ X.cell? ⟨w2.heap.size, 1, none⟩ = some (.slice P2 m2 g2) ∧ X.cell? ⟨w2.heap.size, 2, none⟩ = some (.slice Q2 n2 f2)) ∧ (X.cell? ⟨w3.heap.size, 0, none⟩ = some (.bool s3) ∧ X.cell? ⟨w3.heap.size, 1, none⟩ = some (.slice P3 m3 g3) ∧ X.cell? ⟨w3.heap.size, 2, none⟩ = some (.slice Q3 n3 f3)) ∧ (X.cell? ⟨w4.heap.size, 0, none⟩ = some (.bool s4) ∧ X.cell? ⟨w4.heap.size, 1, none⟩ = some (.slice P4 m4 g4) ∧ X.cell? ⟨w4.heap.size, 2, none⟩ = some (.slice Q4 n4 f4)) ∧ (X.cell? ⟨w5.heap.size, 0, none⟩ = some (.bool s) ∧ X.cell? ⟨w5.heap.size, 1, none⟩ = some (.slice P5 la.length g5) ∧ X.cell? ⟨w5.heap.size, 2, none⟩ = some (.slice Q5 lb.length f5)))
      (first | exact HSS.out _ HM8.out | exact HSS.out _ HM7.out | exact HSS.out _ HM6.out | exact HSS.out _ HM5.out | exact HSS.out _ HM4.out | exact HSS.out _ HM3.out | exact HSS.out _ HM2.out | exact HSS.out _ HM1.out | exact HSS.out _ HD0.out | exact HSS.out _ HM0.out)
      (first
        | (go_at_call 17; (with_reducible refine (K1.out _ HD0.out).mono ?_); rintro e z1 ⟨rfl, bb0⟩; have HM1 := Lib.hid (HON.out _ _ HD0.out bb0); have bb := Below.undrew bb0; have HB1 := Lib.hid (below_join HB.out bb HB.out.size); clear bb bb0)
        | (go_at_call 17; (with_reducible refine (K2.out _ HM1.out).mono ?_); rintro e z2 ⟨rfl, bb0⟩; have HM2 := Lib.hid (HON.out _ _ HM1.out bb0); have bb := bb0; have HB2 := Lib.hid (below_join HB1.out bb HB1.out.size); clear bb bb0)
        | (go_at_call 18; (with_reducible refine (K3.out _ HM2.out).mono ?_); rintro e z3 ⟨rfl, bb0⟩; have HM3 := Lib.hid (HON.out _ _ HM2.out bb0); have bb := bb0; have HB3 := Lib.hid (below_join HB2.out bb HB2.out.size); clear bb bb0)
        | (go_at_call 19; (with_reducible refine (K4.out _ HM3.out).mono ?_); rintro e z4 ⟨rfl, bb0⟩; have HM4 := Lib.hid (HON.out _ _ HM3.out bb0); have bb := bb0; have HB4 := Lib.hid (below_join HB3.out bb HB3.out.size); clear bb bb0)
        | (go_at_call 20; (with_reducible refine (K5.out _ HM4.out).mono ?_); rintro e z5 ⟨rfl, bb0⟩; have HM5 := Lib.hid (HON.out _ _ HM4.out bb0); have bb := bb0; have HB5 := Lib.hid (below_join HB4.out bb HB4.out.size); clear bb bb0)
        | (go_at_call 21; (with_reducible refine (K6.out _ HM5.out).mono ?_); rintro e z6 ⟨rfl, bb0⟩; have HM6 := Lib.hid (HON.out _ _ HM5.out bb0); have bb := bb0; have HB6 := Lib.hid (below_join HB5.out bb HB5.out.size); clear bb bb0)
        | (go_at_call 22; (with_reducible refine (K7.out _ HM6.out).mono ?_); rintro e z7 ⟨rfl, bb0⟩; have HM7 := Lib.hid (HON.out _ _ HM6.out bb0); have bb := bb0; have HB7 := Lib.hid (below_join HB6.out bb HB6.out.size); clear bb bb0)
        | (go_at_call 23; (with_reducible refine (K8.out _ HM7.out).mono ?_); rintro e z8 ⟨rfl, bb0⟩; have HM8 := Lib.hid (HON.out _ _ HM7.out bb0); have bb := bb0; have HB8 := Lib.hid (below_join HB7.out bb HB7.out.size); clear bb bb0)
        | fail)
    go_wp2_with (fail)
    go_ret
    exact ⟨rfl, HB8.out⟩
end Go.Proofs.YtfdkdloldjfnjaaGreatDoor
