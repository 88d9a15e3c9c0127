/-
  DERIVED. The law BreakerKnown. (Written by gen/genCJ.py.)
-/
import Derived.Test.YtomfaknemjbjcaaBW
import Derived.Deep.RegionHeld3
namespace Go.Proofs.Ytomfaknemjbjcaa
open Go.RowKit
set_option maxRecDepth 100000

theorem brsR_of {L S F h k r : Int} (hL : 0 ≤ L) (hF : L ≤ F) (hk : 0 < k) (h1 : Brs L S F h k r) : brsR L S F h k = r := brs_unique hk (brs_R hL hF hk) h1
theorem bears_of {L S F h k r : Int} (hf : fltH L S F h [] = 0) (hk1 : 1 ≤ k) (hk2 : k ≤ 1000) (hL : 0 ≤ L) (hF : L ≤ F) (h1 : Brs L S F h k r) : bearsP L S F h k = (r, 0) := by
  unfold bearsP
  rw [if_pos hf, if_pos (by rw [decide_eq_true hk1, decide_eq_true hk2]; rfl), brsR_of hL hF (by omega) h1]
theorem bears_1 : bearsP 0 1000000 1000000 0 1 = (1000000, 0) := bears_of (by decide +kernel) (by decide) (by decide) (by decide) (by decide) ⟨by decide, by decide, by decide +kernel, by decide +kernel⟩
theorem flt_bad {L S F h : Int} {t : Bool} {l : List Int} (hb : bOk L S F = false) : fltS L S F h t l = 1 := by unfold fltS; rw [hb]; rfl
theorem fltH_bad {L S F h : Int} {l : List Int} (hb : bOk L S F = false) : fltH L S F h l = 1 := by unfold fltH; rw [hb]; rfl
theorem flt_bad2 {h : Int} {t : Bool} {l : List Int} (ht : tOk 40 h t = false) : fltS 50 40 100 h t l = 1 := by unfold fltS; rw [ht]; rfl
theorem odd_at {X : World} {b : Nat} {T : TypeId} (h : X.heap[b]? = some (.cells #[.int .i64 0, .int .i64 (-1), .int .i64 0, .int .i64 0, .int .i64 0, .int .i64 1000001, .int .i64 0, .int .i64 1000001, .int .i64 0, .int .i64 0, .int .i64 (-1), .int .i64 0, .int .i64 0, .int .i64 0, .int .i64 1000001, .int .i64 0, .int .i64 0, .int .i64 5, .int .i64 0, .int .i64 4, .int .i64 0, .int .i64 0, .int .i64 0, .int .i64 1000001] T (0, 0))) (k : Nat) (hk : k < 6) :
    ∃ L S F : Int, bOk L S F = false ∧ X.cell? ⟨b, k * 4, none⟩ = some (.int .i64 0) ∧ X.cell? ⟨b, k * 4 + 1, none⟩ = some (.int .i64 L) ∧ X.cell? ⟨b, k * 4 + 2, none⟩ = some (.int .i64 S) ∧ X.cell? ⟨b, k * 4 + 3, none⟩ = some (.int .i64 F) := by
  match k, hk with
  | 0, _ => exact ⟨-1, 0, 0, by decide, by simp [World.cell?, h], by simp [World.cell?, h], by simp [World.cell?, h], by simp [World.cell?, h]⟩
  | 1, _ => exact ⟨1000001, 0, 1000001, by decide, by simp [World.cell?, h], by simp [World.cell?, h], by simp [World.cell?, h], by simp [World.cell?, h]⟩
  | 2, _ => exact ⟨0, -1, 0, by decide, by simp [World.cell?, h], by simp [World.cell?, h], by simp [World.cell?, h], by simp [World.cell?, h]⟩
  | 3, _ => exact ⟨0, 1000001, 0, by decide, by simp [World.cell?, h], by simp [World.cell?, h], by simp [World.cell?, h], by simp [World.cell?, h]⟩
  | 4, _ => exact ⟨5, 0, 4, by decide, by simp [World.cell?, h], by simp [World.cell?, h], by simp [World.cell?, h], by simp [World.cell?, h]⟩
  | 5, _ => exact ⟨0, 0, 1000001, by decide, by simp [World.cell?, h], by simp [World.cell?, h], by simp [World.cell?, h], by simp [World.cell?, h]⟩
theorem st_at {X : World} {b : Nat} {T : TypeId} (h : X.heap[b]? = some (.cells #[.int .i64 (-1), .bool false, .int .i64 41, .bool false, .int .i64 100000001, .bool true] T (0, 0))) (k : Nat) (hk : k < 3) :
    ∃ (q : Int) (t : Bool), tOk 40 q t = false ∧ X.cell? ⟨b, k * 2, none⟩ = some (.int .i64 q) ∧ X.cell? ⟨b, k * 2 + 1, none⟩ = some (.bool t) := by
  match k, hk with
  | 0, _ => exact ⟨-1, false, by decide, by simp [World.cell?, h], by simp [World.cell?, h]⟩
  | 1, _ => exact ⟨41, false, by decide, by simp [World.cell?, h], by simp [World.cell?, h]⟩
  | 2, _ => exact ⟨100000001, true, by decide, by simp [World.cell?, h], by simp [World.cell?, h]⟩
theorem mk1001 : ∃ cs : Array Value, cs.toList = (List.replicate 1001 (0 : Int)).map (fun x => Value.int .i64 x) ∧ ∀ w : World, (Instr.makeSlice 26 (.int .i64 1001) (.int .i64 1001)).run Try.prog w = .ok (.slice (some ⟨w.heap.size, 0, none⟩) 1001 1001) (w.alloc (.cells cs 3)) := by
  obtain ⟨i0, hi0, hz0, hz1, hz2⟩ := info_parts int_info
  refine ⟨madeCells (Value.int .i64 0).cells (1001 * i0.size), ?_, fun w => ?_⟩
  · rw [hz1]
    show (madeCells #[Value.int .i64 0] 1001).toList = _
    rw [toList_madeCells_one, List.map_replicate]
  · exact run_make (P := Try.prog) w 26 3 i0 (.int .i64 0) Try.underlying26 hi0 hz0 .i64 .i64 1001 1001 (by omega) (by omega) (by rw [hz2]; omega) (by omega)
theorem intSl_zeros {W : World} {b : Nat} {cs : Array Value} {T : TypeId} (hb : W.heap[b]? = some (.cells cs T (0, 0))) (hc : cs.toList = (List.replicate 1001 (0 : Int)).map (fun x => Value.int .i64 x)) : IntSl W (.slice (some ⟨b, 0, none⟩) 1001 1001) (List.replicate 1001 0) := by
  have h := intSl_lit (List.replicate 1001 0) hb hc (by simp) (by simp)
  rw [List.length_replicate] at h
  exact h
/-- Two numbers in their box. -/
def Pr (X : World) (b : Nat) (x y : Int) : Prop := X.heap[b]? = some (.cells #[.int .i64 x, .int .i64 y] 60 (0, 0))
theorem Pr.on {X Y : World} {B b : Nat} {x y : Int} (k : Pr X b x y) (hb : Below B X Y) (hB : b < B) : Pr Y b x y := (hb.block _ hB).trans k
theorem Pr.cells {X : World} {b : Nat} {x y : Int} (k : Pr X b x y) : X.cell? ⟨b, 0, none⟩ = some (.int .i64 x) ∧ X.cell? ⟨b, 1, none⟩ = some (.int .i64 y) := by
  unfold Pr at k; simp [World.cell?, k]
theorem ask_at {X : World} {b : Nat} {T : TypeId} (h : X.heap[b]? = some (.cells #[.int .i64 (-1), .int .i64 0, .int .i64 41, .int .i64 0, .int .i64 0, .int .i64 (-1), .int .i64 0, .int .i64 100000001] T (0, 0))) (k : Nat) (hk : k < 4) :
    ∃ q p : Int, fltH 50 40 100 q [p] = 2 ∧ X.cell? ⟨b, k * 2, none⟩ = some (.int .i64 q) ∧ X.cell? ⟨b, k * 2 + 1, none⟩ = some (.int .i64 p) := by
  match k, hk with
  | 0, _ => exact ⟨-1, 0, by decide +kernel, by simp [World.cell?, h], by simp [World.cell?, h]⟩
  | 1, _ => exact ⟨41, 0, by decide +kernel, by simp [World.cell?, h], by simp [World.cell?, h]⟩
  | 2, _ => exact ⟨0, -1, by decide +kernel, by simp [World.cell?, h], by simp [World.cell?, h]⟩
  | 3, _ => exact ⟨0, 100000001, by decide +kernel, by simp [World.cell?, h], by simp [World.cell?, h]⟩
theorem bear_at {X : World} {b : Nat} {T : TypeId} (h : X.heap[b]? = some (.cells #[.int .i64 (-1), .int .i64 1, .int .i64 41, .int .i64 1, .int .i64 0, .int .i64 0, .int .i64 0, .int .i64 1001] T (0, 0))) (k : Nat) (hk : k < 4) :
    ∃ q p : Int, bearsP 50 40 100 q p = (0, 2) ∧ X.cell? ⟨b, k * 2, none⟩ = some (.int .i64 q) ∧ X.cell? ⟨b, k * 2 + 1, none⟩ = some (.int .i64 p) := by
  match k, hk with
  | 0, _ => exact ⟨-1, 1, by decide +kernel, by simp [World.cell?, h], by simp [World.cell?, h]⟩
  | 1, _ => exact ⟨41, 1, by decide +kernel, by simp [World.cell?, h], by simp [World.cell?, h]⟩
  | 2, _ => exact ⟨0, 0, by decide +kernel, by simp [World.cell?, h], by simp [World.cell?, h]⟩
  | 3, _ => exact ⟨0, 1001, by decide +kernel, by simp [World.cell?, h], by simp [World.cell?, h]⟩
set_option maxHeartbeats 16000000 in
theorem row_BreakerKnown (w : World) : Calls Try.prog 9 #[] w fun e w' => e = .returned (.bool true) ∧ Below w.heap.size w w' := by
  have HN1 := Lib.hid (fun (X : World) (L S F : Int) (hb : bOk L S F = false) => c_Next 0 L S F 0 (-1) false (0, false) 1 (by unfold nxt; rw [flt_bad hb]; rfl) X)
  have HC1 := Lib.hid (fun (X : World) (v : Value) (L S F : Int) (hb : bOk L S F = false) (hv : IntSl X v [-1]) => c_Course 0 L S F 0 false [-1] v X hv 1 (flt_bad hb) [] (by simp))
  have HT1 := Lib.hid (fun (X : World) (L S F : Int) (hb : bOk L S F = false) => c_Trips 0 L S F (-1) [] (.slice none 0 0) X (IntSl.nil X) 0 1 (by unfold tripsP; rw [fltH_bad hb]; rfl))
  have HL1 := Lib.hid (fun (X : World) (L S F : Int) (hb : bOk L S F = false) => c_Lasts 0 L S F (-1) 0 0 1 (by unfold lastsP; rw [fltH_bad hb]; rfl) X)
  have HO1 := Lib.hid (fun (X : World) (L S F : Int) (hb : bOk L S F = false) => c_Cools 0 L S F (-1) 0 0 1 (by unfold coolsP; rw [fltH_bad hb]; rfl) X)
  have HE1 := Lib.hid (fun (X : World) (L S F : Int) (hb : bOk L S F = false) => c_Bears 0 L S F (-1) 0 0 1 (by unfold bearsP; rw [fltH_bad hb]; rfl) X)
  have HV1 := Lib.hid (fun (X : World) (L S F : Int) (hb : bOk L S F = false) => c_Valid 0 L S F false hb X)
  have HN2 := Lib.hid (fun (X : World) (q : Int) (t : Bool) (hb : tOk 40 q t = false) => c_Next 0 50 40 100 q (-1) t (0, false) 1 (by unfold nxt; rw [flt_bad2 hb]; rfl) X)
  have HC2 := Lib.hid (fun (X : World) (v : Value) (q : Int) (t : Bool) (hb : tOk 40 q t = false) (hv : IntSl X v (List.replicate 1001 0)) => c_Course 0 50 40 100 q t (List.replicate 1001 0) v X hv 1 (flt_bad2 hb) [] (by simp))
  have HN3 := Lib.hid (fun (X : World) => c_Next 0 50 40 100 0 (-1) false (0, false) 2 (by decide +kernel) X)
  have HN4 := Lib.hid (fun (X : World) => c_Next 0 50 40 100 0 100000001 false (0, false) 2 (by decide +kernel) X)
  have HC3 := Lib.hid (fun (X : World) (v : Value) (hv : IntSl X v (List.replicate 1001 0)) => c_Course 0 50 40 100 0 false (List.replicate 1001 0) v X hv 2 (by decide +kernel) [] (by simp))
  have HC4 := Lib.hid (fun (X : World) (v : Value) (hv : IntSl X v [0, -1]) => c_Course 0 50 40 100 0 true [0, -1] v X hv 2 (by decide +kernel) [] (by simp))
  have HT3 := Lib.hid (fun (X : World) => c_Trips 0 50 40 100 41 [] (.slice none 0 0) X (IntSl.nil X) 0 2 (by decide +kernel))
  have HT4 := Lib.hid (fun (X : World) (v : Value) (hv : IntSl X v [-1]) => c_Trips 0 50 40 100 0 [-1] v X hv 0 2 (by decide +kernel))
  have HL3 := Lib.hid (fun (X : World) (q p : Int) (hf : fltH 50 40 100 q [p] = 2) => c_Lasts 0 50 40 100 q p 0 2 (by unfold lastsP; rw [hf]; rfl) X)
  have HO3 := Lib.hid (fun (X : World) (q p : Int) (hf : fltH 50 40 100 q [p] = 2) => c_Cools 0 50 40 100 q p 0 2 (by unfold coolsP; rw [hf]; rfl) X)
  have HE3 := Lib.hid (fun (X : World) (q p : Int) (hf : bearsP 50 40 100 q p = (0, 2)) => c_Bears 0 50 40 100 q p 0 2 hf X)
  have HN5 := Lib.hid (fun (X : World) => c_Next 0 50 40 100 30 100000000 false (99999980, true) 0 (by decide +kernel) X)
  have HN6 := Lib.hid (fun (X : World) => c_Next 0 50 40 100 99999980 0 true (99999980, true) 0 (by decide +kernel) X)
  have HN7 := Lib.hid (fun (X : World) => c_Next 0 0 9 0 9 100000000 false (100000000, true) 0 (by decide +kernel) X)
  have HL5 := Lib.hid (fun (X : World) => c_Lasts 0 1 1000000 5 0 2 1000000 0 (by decide +kernel) X)
  have HO5 := Lib.hid (fun (X : World) => c_Cools 0 1 1000000 5 1000000 0 1000000 0 (by decide +kernel) X)
  have HE5 := Lib.hid (fun (X : World) => c_Bears 0 0 1000000 1000000 0 1 1000000 0 bears_1 X)
  have HE6 := Lib.hid (fun (X : World) => c_Bears 0 50 40 70 0 1 70 0 (by decide +kernel) X)
  have HE7 := Lib.hid (fun (X : World) => c_Bears 0 50 40 100 39 2 50 0 (by decide +kernel) X)
  unfold bkV stV at HN1 HC1 HN2 HC2 HN3 HN4 HC3 HC4 HN5 HN6 HN7
  unfold bkV at HT3 HT4 HL3 HO3 HE3 HL5 HO5 HE5 HE6 HE7
  obtain ⟨zc, hzc, hmk⟩ := mk1001
  have HZC := Lib.hid hzc
  clear hzc
  have g3 := eqlSt
  unfold bkV at HT1 HL1 HO1 HE1 HV1
  have g1 := guardSt
  have g2 := neqSt
  have HBw := Lib.hid (Below.refl w.heap.size w)
  go_enter Try.func9, Try.ntmps9
  go_wp2_with (fail)
  go_at_call 37
  refine (c_sample w).mono ?_
  rintro e v1 ⟨rfl, bb⟩
  have HBv1 := Lib.hid (below_join HBw.out bb HBw.out.size)
  clear bb
  unfold bkV
  obtain ⟨X2, hX2⟩ : ∃ X, X = ((v1.alloc (.cells #[.int .i64 0, .int .i64 50, .int .i64 40, .int .i64 100] 23)).alloc (.cells #[.int .i64 0, .int .i64 (-1), .int .i64 0, .int .i64 0, .int .i64 0, .int .i64 1000001, .int .i64 0, .int .i64 1000001, .int .i64 0, .int .i64 0, .int .i64 (-1), .int .i64 0, .int .i64 0, .int .i64 0, .int .i64 1000001, .int .i64 0, .int .i64 0, .int .i64 5, .int .i64 0, .int .i64 4, .int .i64 0, .int .i64 0, .int .i64 0, .int .i64 1000001] 23)) := ⟨_, rfl⟩
  have b2 : Below v1.heap.size v1 X2 := by subst hX2; exact below_a2 _ _ _
  have HBX2 := Lib.hid (below_join HBv1.out b2 HBv1.out.size)
  have HKX2 := Lib.hid (show Bk X2 v1.heap.size 0 50 40 100 by subst hX2; exact old_heap _ (bk_new _ _ _ _ _))
  have hzHKX2 : v1.heap.size < X2.heap.size := block_lt HKX2.out
  clear b2
  have HODD := Lib.hid (odd_at (X := X2) (b := v1.heap.size + 1) (T := 23) (by subst hX2; exact row_new4 _ _ _ (by simp)))
  have hzodd : v1.heap.size + 1 < X2.heap.size := by subst hX2; simp
  go_wp2_with (fail)
  rw [← hX2]
  clear hX2
  go_loopw [63] (fun i wr => ∃ k : Nat, k ≤ 6 ∧ i = .int .i64 (k : Int) ∧ Hid (Below X2.heap.size X2 wr)) (fun i _ => 6 - (intOf i).toNat)
  case atStart => exact ⟨0, Nat.zero_le _, rfl, Lib.hid (Below.refl _ _)⟩
  case round =>
    obtain ⟨k, hk, rfl, hB⟩ := hrel
    obtain ⟨wx1, hwx⟩ : ∃ x, x = wr := ⟨wr, rfl⟩
    subst hwx
    have hki : ((k : Nat) : Int).toNat = k := by omega
    have HLwx1 := Lib.hid hB.out
    have HBwx1 := Lib.hid (below_join HBX2.out hB.out HBX2.out.size)
    have HKwx1 := Lib.hid (HKX2.out.on hB.out hzHKX2)
    have hzHKwx1 := Nat.lt_of_lt_of_le hzHKX2 hB.out.size
    by_cases hlt : k < 6
    · have hcont := trivial
      clear hcont
      obtain ⟨L, S, F, hb, q0, q1, q2, q3⟩ := HODD.out k hlt
      have y0 := (HLwx1.out.cell (p := ⟨v1.heap.size + 1, k * 4, none⟩) hzodd).trans q0
      have y1 := (HLwx1.out.cell (p := ⟨v1.heap.size + 1, k * 4 + 1, none⟩) hzodd).trans q1
      have y2 := (HLwx1.out.cell (p := ⟨v1.heap.size + 1, k * 4 + 2, none⟩) hzodd).trans q2
      have y3 := (HLwx1.out.cell (p := ⟨v1.heap.size + 1, k * 4 + 3, none⟩) hzodd).trans q3
      have HBAD := Lib.hid hb
      have hlt' : (k : Int) < 6 := by omega
      clear q0 q1 q2 q3 hb hB
      obtain ⟨X3, hX3⟩ : ∃ X, X = (wx1.alloc (.cells #[.int .i64 0, .int .i64 L, .int .i64 S, .int .i64 F] 23)) := ⟨_, rfl⟩
      have b3 : Below wx1.heap.size wx1 X3 := by subst hX3; exact (Below.refl _ _).alloc (Nat.le_refl _) _
      have HBX3 := Lib.hid (below_join HBwx1.out b3 HBwx1.out.size)
      have HLX3 := Lib.hid (below_join HLwx1.out b3 HLwx1.out.size)
      have HXX3 := Lib.hid (show Bk X3 wx1.heap.size 0 L S F by subst hX3; exact bk_new _ _ _ _ _)
      have hzHXX3 : wx1.heap.size < X3.heap.size := block_lt HXX3.out
      clear b3
      go_wp2_with (fail)
      rw [← hX3]
      clear hX3
      clear y0 y1 y2 y3
      go_at_call 11
      refine (HN1.out _ _ _ _ HBAD.out).mono ?_
      rintro e v4 ⟨rfl, bb⟩
      have HBv4 := Lib.hid (below_join HBX3.out bb HBX3.out.size)
      have HLv4 := Lib.hid (below_join HLX3.out bb HLX3.out.size)
      have HXv4 := Lib.hid (HXX3.out.on bb hzHXX3)
      have hzHXv4 := Nat.lt_of_lt_of_le hzHXX3 bb.size
      clear bb
      obtain ⟨X5, hX5⟩ : ∃ X, X = ((v4.alloc (.cells #[.int .i64 0, .bool false] 25)).alloc (.cells #[.int .i64 (-1)] 3)) := ⟨_, rfl⟩
      have b5 : Below v4.heap.size v4 X5 := by subst hX5; exact below_a2 _ _ _
      have HBX5 := Lib.hid (below_join HBv4.out b5 HBv4.out.size)
      have HLX5 := Lib.hid (below_join HLv4.out b5 HLv4.out.size)
      have HXX5 := Lib.hid (HXv4.out.on b5 hzHXv4)
      have hzHXX5 := Nat.lt_of_lt_of_le hzHXv4 b5.size
      have HIX5 := Lib.hid (show IntSl X5 (.slice (some ⟨v4.heap.size + 1, 0, none⟩) 1 1) [-1] by subst hX5; exact intSl_lit [-1] (row_new4 _ _ _ (by simp)) rfl (by decide) (by decide))
      clear b5
      have HXa := Lib.hid (show Bk (v4.alloc (.cells #[.int .i64 0, .bool false] 25)) wx1.heap.size 0 L S F from old_heap _ HXv4.out)
      obtain ⟨x0, x1, x2, x3⟩ := HXa.out.cells
      go_wp2_with (fail)
      rw [← hX5]
      clear hX5
      clear x0 x1 x2 x3
      go_at_call 13
      refine (HC1.out _ _ _ _ _ HBAD.out HIX5.out).mono ?_
      rintro e v6 ⟨cv, rfl, hcv, bb⟩
      have HBv6 := Lib.hid (below_join HBX5.out bb HBX5.out.size)
      have HLv6 := Lib.hid (below_join HLX5.out bb HLX5.out.size)
      have HXv6 := Lib.hid (HXX5.out.on bb hzHXX5)
      have hzHXv6 := Nat.lt_of_lt_of_le hzHXX5 bb.size
      have HIv6 := Lib.hid (HIX5.out.on bb (Nat.le_refl _))
      clear bb
      obtain ⟨Ac, cc, rfl, -, -⟩ := hcv.shape
      clear hcv
      obtain ⟨x0, x1, x2, x3⟩ := HXv6.out.cells
      go_wp2_with (fail)
      clear x0 x1 x2 x3
      go_at_call 18
      refine (HT1.out _ _ _ _ HBAD.out).mono ?_
      rintro e v7 ⟨rfl, bb⟩
      have HBv7 := Lib.hid (below_join HBv6.out bb HBv6.out.size)
      have HLv7 := Lib.hid (below_join HLv6.out bb HLv6.out.size)
      have HXv7 := Lib.hid (HXv6.out.on bb hzHXv6)
      have hzHXv7 := Nat.lt_of_lt_of_le hzHXv6 bb.size
      clear bb
      obtain ⟨x0, x1, x2, x3⟩ := HXv7.out.cells
      go_wp2_with (fail)
      clear x0 x1 x2 x3
      go_at_call 22
      refine (HL1.out _ _ _ _ HBAD.out).mono ?_
      rintro e v8 ⟨rfl, bb⟩
      have HBv8 := Lib.hid (below_join HBv7.out bb HBv7.out.size)
      have HLv8 := Lib.hid (below_join HLv7.out bb HLv7.out.size)
      have HXv8 := Lib.hid (HXv7.out.on bb hzHXv7)
      have hzHXv8 := Nat.lt_of_lt_of_le hzHXv7 bb.size
      clear bb
      obtain ⟨x0, x1, x2, x3⟩ := HXv8.out.cells
      go_wp2_with (fail)
      clear x0 x1 x2 x3
      go_at_call 24
      refine (HO1.out _ _ _ _ HBAD.out).mono ?_
      rintro e v9 ⟨rfl, bb⟩
      have HBv9 := Lib.hid (below_join HBv8.out bb HBv8.out.size)
      have HLv9 := Lib.hid (below_join HLv8.out bb HLv8.out.size)
      have HXv9 := Lib.hid (HXv8.out.on bb hzHXv8)
      have hzHXv9 := Nat.lt_of_lt_of_le hzHXv8 bb.size
      clear bb
      obtain ⟨x0, x1, x2, x3⟩ := HXv9.out.cells
      go_wp2_with (fail)
      clear x0 x1 x2 x3
      go_at_call 26
      refine (HE1.out _ _ _ _ HBAD.out).mono ?_
      rintro e v10 ⟨rfl, bb⟩
      have HBv10 := Lib.hid (below_join HBv9.out bb HBv9.out.size)
      have HLv10 := Lib.hid (below_join HLv9.out bb HLv9.out.size)
      have HXv10 := Lib.hid (HXv9.out.on bb hzHXv9)
      have hzHXv10 := Nat.lt_of_lt_of_le hzHXv9 bb.size
      clear bb
      obtain ⟨x0, x1, x2, x3⟩ := HXv10.out.cells
      go_wp2_with (fail)
      clear x0 x1 x2 x3
      go_at_call 16
      refine (HV1.out _ _ _ _ HBAD.out).mono ?_
      rintro e v11 ⟨rfl, bb⟩
      have HBv11 := Lib.hid (below_join HBv10.out bb HBv10.out.size)
      have HLv11 := Lib.hid (below_join HLv10.out bb HLv10.out.size)
      have HXv11 := Lib.hid (HXv10.out.on bb hzHXv10)
      have hzHXv11 := Nat.lt_of_lt_of_le hzHXv10 bb.size
      clear bb
      go_wp2_with (fail)
      go_roundw
      case rel => exact ⟨k + 1, by omega, by go_num, Lib.hid HLv11.out⟩
      case measure => simp only [intOf]; omega
    · have hge : (6 : Int) ≤ (k : Int) := by omega
      clear hlt hki
      clear hB hk HLwx1
      obtain ⟨X12, hX12⟩ : ∃ X, X = (wx1.alloc (.cells #[.int .i64 (-1), .bool false, .int .i64 41, .bool false, .int .i64 100000001, .bool true] 25)) := ⟨_, rfl⟩
      have b12 : Below wx1.heap.size wx1 X12 := by subst hX12; exact (Below.refl _ _).alloc (Nat.le_refl _) _
      have HBX12 := Lib.hid (below_join HBwx1.out b12 HBwx1.out.size)
      have HKX12 := Lib.hid (HKwx1.out.on b12 hzHKwx1)
      have hzHKX12 := Nat.lt_of_lt_of_le hzHKwx1 b12.size
      clear b12
      have HSTA := Lib.hid (st_at (X := X12) (b := wx1.heap.size) (T := 25) (by subst hX12; exact heap_alloc_new _ _))
      have hzsta : wx1.heap.size < X12.heap.size := by subst hX12; simp
      go_wp2_with (fail)
      rw [← hX12]
      clear hX12
      go_loopw [132] (fun i wr => ∃ k : Nat, k ≤ 3 ∧ i = .int .i64 (k : Int) ∧ Hid (Below X12.heap.size X12 wr)) (fun i _ => 3 - (intOf i).toNat)
      case atStart => exact ⟨0, Nat.zero_le _, rfl, Lib.hid (Below.refl _ _)⟩
      case round =>
        obtain ⟨k, hk, rfl, hB⟩ := hrel
        obtain ⟨wx2, hwx⟩ : ∃ x, x = wr := ⟨wr, rfl⟩
        subst hwx
        have hki : ((k : Nat) : Int).toNat = k := by omega
        have HLwx2 := Lib.hid hB.out
        have HBwx2 := Lib.hid (below_join HBX12.out hB.out HBX12.out.size)
        have HKwx2 := Lib.hid (HKX12.out.on hB.out hzHKX12)
        have hzHKwx2 := Nat.lt_of_lt_of_le hzHKX12 hB.out.size
        by_cases hlt : k < 3
        · have hcont := trivial
          clear hcont
          obtain ⟨q, t, hb, q0, q1⟩ := HSTA.out k hlt
          have y0 := (HLwx2.out.cell (p := ⟨wx1.heap.size, k * 2, none⟩) hzsta).trans q0
          have y1 := (HLwx2.out.cell (p := ⟨wx1.heap.size, k * 2 + 1, none⟩) hzsta).trans q1
          have HBAD := Lib.hid hb
          have hlt' : (k : Int) < 3 := by omega
          clear q0 q1 hb hB
          obtain ⟨X13, hX13⟩ : ∃ X, X = (wx2.alloc (.cells #[.int .i64 q, .bool t] 25)) := ⟨_, rfl⟩
          have b13 : Below wx2.heap.size wx2 X13 := by subst hX13; exact (Below.refl _ _).alloc (Nat.le_refl _) _
          have HBX13 := Lib.hid (below_join HBwx2.out b13 HBwx2.out.size)
          have HLX13 := Lib.hid (below_join HLwx2.out b13 HLwx2.out.size)
          have HKX13 := Lib.hid (HKwx2.out.on b13 hzHKwx2)
          have hzHKX13 := Nat.lt_of_lt_of_le hzHKwx2 b13.size
          have HSX13 := Lib.hid (show St X13 wx2.heap.size q t by subst hX13; exact st_new _ _ _)
          have hzHSX13 : wx2.heap.size < X13.heap.size := block_lt HSX13.out
          clear b13
          have HKa := Lib.hid (show Bk (wx2.alloc (.cells #[.int .i64 q, .bool t] 25)) v1.heap.size 0 50 40 100 from old_heap _ HKwx2.out)
          have hy0 : X13.cell? ⟨wx2.heap.size, 0, none⟩ = some (.int .i64 q) := HSX13.out.cells.1
          obtain ⟨x0, x1, x2, x3⟩ := HKa.out.cells
          go_wp2_with (fail)
          rw [← hX13]
          clear hX13
          clear x0 x1 x2 x3
          clear y0 y1
          go_at_call 11
          refine (HN2.out _ _ _ HBAD.out).mono ?_
          rintro e v14 ⟨rfl, bb⟩
          have HBv14 := Lib.hid (below_join HBX13.out bb HBX13.out.size)
          have HLv14 := Lib.hid (below_join HLX13.out bb HLX13.out.size)
          have HKv14 := Lib.hid (HKX13.out.on bb hzHKX13)
          have hzHKv14 := Nat.lt_of_lt_of_le hzHKX13 bb.size
          have HSv14 := Lib.hid (HSX13.out.on bb hzHSX13)
          have hzHSv14 := Nat.lt_of_lt_of_le hzHSX13 bb.size
          clear bb
          obtain ⟨X15, hX15⟩ : ∃ X, X = (v14.alloc (.cells #[.int .i64 0, .bool false] 25)) := ⟨_, rfl⟩
          have b15 : Below v14.heap.size v14 X15 := by subst hX15; exact (Below.refl _ _).alloc (Nat.le_refl _) _
          have HBX15 := Lib.hid (below_join HBv14.out b15 HBv14.out.size)
          have HLX15 := Lib.hid (below_join HLv14.out b15 HLv14.out.size)
          have HKX15 := Lib.hid (HKv14.out.on b15 hzHKv14)
          have hzHKX15 := Nat.lt_of_lt_of_le hzHKv14 b15.size
          have HSX15 := Lib.hid (HSv14.out.on b15 hzHSv14)
          have hzHSX15 := Nat.lt_of_lt_of_le hzHSv14 b15.size
          clear b15
          obtain ⟨x0, x1, x2, x3⟩ := HKX15.out.cells
          go_wp2_with (fail)
          rw [← hX15]
          clear hX15
          clear x0 x1 x2 x3
          have HUP := Lib.hid (show Below X15.heap.size X15 (X15.alloc (.cells zc 3)).drew from ((Below.refl X15.heap.size X15).alloc (Nat.le_refl _) _).drew)
          have HZI := Lib.hid (show IntSl (X15.alloc (.cells zc 3)).drew (.slice (some ⟨X15.heap.size, 0, none⟩) 1001 1001) (List.replicate 1001 0) from intSl_zeros (W := (X15.alloc (.cells zc 3)).drew) (heap_alloc_new X15 _) HZC.out)
          go_region_held3 (fun X => (X.cell? ⟨v1.heap.size, 0, none⟩ = some (.int .i64 0) ∧ X.cell? ⟨v1.heap.size, 1, none⟩ = some (.int .i64 50) ∧ X.cell? ⟨v1.heap.size, 2, none⟩ = some (.int .i64 40) ∧ X.cell? ⟨v1.heap.size, 3, none⟩ = some (.int .i64 100)) ∧ (X.cell? ⟨wx2.heap.size, 0, none⟩ = some (.int .i64 q) ∧ X.cell? ⟨wx2.heap.size, 1, none⟩ = some (.bool t)))
            (first | exact ⟨HKv16.out.cells, HSv16.out.cells⟩ | exact ⟨(HKX15.out.on HUP.out hzHKX15).cells, (HSX15.out.on HUP.out hzHSX15).cells⟩ | exact ⟨(HKX15.out.on (Below.refl X15.heap.size X15).drew hzHKX15).cells, (HSX15.out.on (Below.refl X15.heap.size X15).drew hzHSX15).cells⟩)
            (first
              | (go_at_call 13; (with_reducible refine (HC2.out _ _ _ _ HBAD.out HZI.out).mono ?_); rintro e v16 ⟨cv, rfl, hcv, bb0⟩; have bb := below_join HUP.out bb0 HUP.out.size; have HBv16 := Lib.hid (below_join HBX15.out bb HBX15.out.size); have HLv16 := Lib.hid (below_join HLX15.out bb HLX15.out.size); have HKv16 := Lib.hid (HKX15.out.on bb hzHKX15); have hzHKv16 := Nat.lt_of_lt_of_le hzHKX15 bb.size; have HSv16 := Lib.hid (HSX15.out.on bb hzHSX15); have hzHSv16 := Nat.lt_of_lt_of_le hzHSX15 bb.size; obtain ⟨Ac, cc, rfl, -, -⟩ := hcv.shape; clear hcv bb bb0))
          clear HUP HZI
          go_wp2_with (fail)
          go_roundw
          case rel => exact ⟨k + 1, by omega, by go_num, Lib.hid HLv16.out⟩
          case measure => simp only [intOf]; omega
        · have hge : (3 : Int) ≤ (k : Int) := by omega
          clear hlt hki
          clear hB hk HLwx2
          obtain ⟨x0, x1, x2, x3⟩ := HKwx2.out.cells
          go_wp2_with (fail)
          clear x0 x1 x2 x3
          go_at_call 11
          refine (HN3.out _).mono ?_
          rintro e v17 ⟨rfl, bb⟩
          have HBv17 := Lib.hid (below_join HBwx2.out bb HBwx2.out.size)
          have HKv17 := Lib.hid (HKwx2.out.on bb hzHKwx2)
          have hzHKv17 := Nat.lt_of_lt_of_le hzHKwx2 bb.size
          clear bb
          obtain ⟨X18, hX18⟩ : ∃ X, X = (v17.alloc (.cells #[.int .i64 0, .bool false] 25)) := ⟨_, rfl⟩
          have b18 : Below v17.heap.size v17 X18 := by subst hX18; exact (Below.refl _ _).alloc (Nat.le_refl _) _
          have HBX18 := Lib.hid (below_join HBv17.out b18 HBv17.out.size)
          have HKX18 := Lib.hid (HKv17.out.on b18 hzHKv17)
          have hzHKX18 := Nat.lt_of_lt_of_le hzHKv17 b18.size
          clear b18
          have HKr19 := Lib.hid (show Bk (v17.alloc (.cells #[.int .i64 0, .bool false] 25)) v1.heap.size 0 50 40 100 from old_heap _ (HKv17.out))
          obtain ⟨x0, x1, x2, x3⟩ := HKr19.out.cells
          go_wp2_with (fail)
          rw [← hX18]
          clear hX18
          clear x0 x1 x2 x3
          go_at_call 11
          refine (HN4.out _).mono ?_
          rintro e v20 ⟨rfl, bb⟩
          have HBv20 := Lib.hid (below_join HBX18.out bb HBX18.out.size)
          have HKv20 := Lib.hid (HKX18.out.on bb hzHKX18)
          have hzHKv20 := Nat.lt_of_lt_of_le hzHKX18 bb.size
          clear bb
          obtain ⟨X21, hX21⟩ : ∃ X, X = (v20.alloc (.cells #[.int .i64 0, .bool false] 25)) := ⟨_, rfl⟩
          have b21 : Below v20.heap.size v20 X21 := by subst hX21; exact (Below.refl _ _).alloc (Nat.le_refl _) _
          have HBX21 := Lib.hid (below_join HBv20.out b21 HBv20.out.size)
          have HKX21 := Lib.hid (HKv20.out.on b21 hzHKv20)
          have hzHKX21 := Nat.lt_of_lt_of_le hzHKv20 b21.size
          clear b21
          go_wp2_with (fail)
          rw [← hX21]
          clear hX21
          have HUP := Lib.hid (show Below X21.heap.size X21 (X21.alloc (.cells zc 3)).drew from ((Below.refl X21.heap.size X21).alloc (Nat.le_refl _) _).drew)
          have HZI := Lib.hid (show IntSl (X21.alloc (.cells zc 3)).drew (.slice (some ⟨X21.heap.size, 0, none⟩) 1001 1001) (List.replicate 1001 0) from intSl_zeros (W := (X21.alloc (.cells zc 3)).drew) (heap_alloc_new X21 _) HZC.out)
          go_region_held3 (fun X => (X.cell? ⟨v1.heap.size, 0, none⟩ = some (.int .i64 0) ∧ X.cell? ⟨v1.heap.size, 1, none⟩ = some (.int .i64 50) ∧ X.cell? ⟨v1.heap.size, 2, none⟩ = some (.int .i64 40) ∧ X.cell? ⟨v1.heap.size, 3, none⟩ = some (.int .i64 100)))
            (first | exact HKv22.out.cells | exact (HKX21.out.on HUP.out hzHKX21).cells | exact (HKX21.out.on (Below.refl X21.heap.size X21).drew hzHKX21).cells)
            (first
              | (go_at_call 13; (with_reducible refine (HC3.out _ _ HZI.out).mono ?_); rintro e v22 ⟨cv, rfl, hcv, bb0⟩; have bb := below_join HUP.out bb0 HUP.out.size; have HBv22 := Lib.hid (below_join HBX21.out bb HBX21.out.size); have HKv22 := Lib.hid (HKX21.out.on bb hzHKX21); have hzHKv22 := Nat.lt_of_lt_of_le hzHKX21 bb.size; obtain ⟨Ac, cc, rfl, -, -⟩ := hcv.shape; clear hcv bb bb0))
          clear HUP HZI
          obtain ⟨X23, hX23⟩ : ∃ X, X = (v22.alloc (.cells #[.int .i64 0, .int .i64 (-1)] 3)) := ⟨_, rfl⟩
          have b23 : Below v22.heap.size v22 X23 := by subst hX23; exact (Below.refl _ _).alloc (Nat.le_refl _) _
          have HBX23 := Lib.hid (below_join HBv22.out b23 HBv22.out.size)
          have HKX23 := Lib.hid (HKv22.out.on b23 hzHKv22)
          have hzHKX23 := Nat.lt_of_lt_of_le hzHKv22 b23.size
          have HIX23 := Lib.hid (show IntSl X23 (.slice (some ⟨v22.heap.size, 0, none⟩) 2 2) [0, -1] by subst hX23; exact intSl_lit [0, -1] (heap_alloc_new _ _) rfl (by decide) (by decide))
          clear b23
          obtain ⟨x0, x1, x2, x3⟩ := HKv22.out.cells
          go_wp2_with (fail)
          rw [← hX23]
          clear hX23
          clear x0 x1 x2 x3
          go_at_call 13
          refine (HC4.out _ _ HIX23.out).mono ?_
          rintro e v24 ⟨cv, rfl, hcv, bb⟩
          have HBv24 := Lib.hid (below_join HBX23.out bb HBX23.out.size)
          have HKv24 := Lib.hid (HKX23.out.on bb hzHKX23)
          have hzHKv24 := Nat.lt_of_lt_of_le hzHKX23 bb.size
          have HIv24 := Lib.hid (HIX23.out.on bb (Nat.le_refl _))
          clear bb
          obtain ⟨Ac, cc, rfl, -, -⟩ := hcv.shape
          clear hcv
          obtain ⟨x0, x1, x2, x3⟩ := HKv24.out.cells
          go_wp2_with (fail)
          clear x0 x1 x2 x3
          go_at_call 18
          refine (HT3.out _).mono ?_
          rintro e v25 ⟨rfl, bb⟩
          have HBv25 := Lib.hid (below_join HBv24.out bb HBv24.out.size)
          have HKv25 := Lib.hid (HKv24.out.on bb hzHKv24)
          have hzHKv25 := Nat.lt_of_lt_of_le hzHKv24 bb.size
          clear bb
          obtain ⟨X26, hX26⟩ : ∃ X, X = (v25.alloc (.cells #[.int .i64 (-1)] 3)) := ⟨_, rfl⟩
          have b26 : Below v25.heap.size v25 X26 := by subst hX26; exact (Below.refl _ _).alloc (Nat.le_refl _) _
          have HBX26 := Lib.hid (below_join HBv25.out b26 HBv25.out.size)
          have HKX26 := Lib.hid (HKv25.out.on b26 hzHKv25)
          have hzHKX26 := Nat.lt_of_lt_of_le hzHKv25 b26.size
          have HIX26 := Lib.hid (show IntSl X26 (.slice (some ⟨v25.heap.size, 0, none⟩) 1 1) [-1] by subst hX26; exact intSl_lit [-1] (heap_alloc_new _ _) rfl (by decide) (by decide))
          clear b26
          obtain ⟨x0, x1, x2, x3⟩ := HKv25.out.cells
          go_wp2_with (fail)
          rw [← hX26]
          clear hX26
          clear x0 x1 x2 x3
          go_at_call 18
          refine (HT4.out _ _ HIX26.out).mono ?_
          rintro e v27 ⟨rfl, bb⟩
          have HBv27 := Lib.hid (below_join HBX26.out bb HBX26.out.size)
          have HKv27 := Lib.hid (HKX26.out.on bb hzHKX26)
          have hzHKv27 := Nat.lt_of_lt_of_le hzHKX26 bb.size
          have HIv27 := Lib.hid (HIX26.out.on bb (Nat.le_refl _))
          clear bb
          obtain ⟨X28, hX28⟩ : ∃ X, X = (v27.alloc (.cells #[.int .i64 (-1), .int .i64 0, .int .i64 41, .int .i64 0, .int .i64 0, .int .i64 (-1), .int .i64 0, .int .i64 100000001] 60)) := ⟨_, rfl⟩
          have b28 : Below v27.heap.size v27 X28 := by subst hX28; exact (Below.refl _ _).alloc (Nat.le_refl _) _
          have HBX28 := Lib.hid (below_join HBv27.out b28 HBv27.out.size)
          have HKX28 := Lib.hid (HKv27.out.on b28 hzHKv27)
          have hzHKX28 := Nat.lt_of_lt_of_le hzHKv27 b28.size
          clear b28
          have HASK := Lib.hid (ask_at (X := X28) (b := v27.heap.size) (T := 60) (by subst hX28; exact heap_alloc_new _ _))
          have hzHASK : v27.heap.size < X28.heap.size := by subst hX28; simp
          go_wp2_with (fail)
          rw [← hX28]
          clear hX28
          go_loopw [221] (fun i wr => ∃ k : Nat, k ≤ 4 ∧ i = .int .i64 (k : Int) ∧ Hid (Below X28.heap.size X28 wr)) (fun i _ => 4 - (intOf i).toNat)
          case atStart => exact ⟨0, Nat.zero_le _, rfl, Lib.hid (Below.refl _ _)⟩
          case round =>
            obtain ⟨k, hk, rfl, hB⟩ := hrel
            obtain ⟨wx3, hwx⟩ : ∃ x, x = wr := ⟨wr, rfl⟩
            subst hwx
            have hki : ((k : Nat) : Int).toNat = k := by omega
            have HLwx3 := Lib.hid hB.out
            have HBwx3 := Lib.hid (below_join HBX28.out hB.out HBX28.out.size)
            have HKwx3 := Lib.hid (HKX28.out.on hB.out hzHKX28)
            have hzHKwx3 := Nat.lt_of_lt_of_le hzHKX28 hB.out.size
            by_cases hlt : k < 4
            · have hcont := trivial
              clear hcont
              obtain ⟨q, p, hb, q0, q1⟩ := HASK.out k hlt
              have y0 := (HLwx3.out.cell (p := ⟨v27.heap.size, k * 2, none⟩) hzHASK).trans q0
              have y1 := (HLwx3.out.cell (p := ⟨v27.heap.size, k * 2 + 1, none⟩) hzHASK).trans q1
              have HBAD := Lib.hid hb
              have hlt' : (k : Int) < 4 := by omega
              clear q0 q1 hb hB
              obtain ⟨X29, hX29⟩ : ∃ X, X = (wx3.alloc (.cells #[.int .i64 q, .int .i64 p] 60)) := ⟨_, rfl⟩
              have b29 : Below wx3.heap.size wx3 X29 := by subst hX29; exact (Below.refl _ _).alloc (Nat.le_refl _) _
              have HBX29 := Lib.hid (below_join HBwx3.out b29 HBwx3.out.size)
              have HLX29 := Lib.hid (below_join HLwx3.out b29 HLwx3.out.size)
              have HKX29 := Lib.hid (HKwx3.out.on b29 hzHKwx3)
              have hzHKX29 := Nat.lt_of_lt_of_le hzHKwx3 b29.size
              have HPX29 := Lib.hid (show Pr X29 wx3.heap.size q p by subst hX29; exact heap_alloc_new _ _)
              have hzHPX29 : wx3.heap.size < X29.heap.size := block_lt HPX29.out
              clear b29
              have HKr30 := Lib.hid (show Bk (wx3.alloc (.cells #[.int .i64 q, .int .i64 p] 60)) v1.heap.size 0 50 40 100 from old_heap _ (HKwx3.out))
              obtain ⟨x0, x1, x2, x3⟩ := HKr30.out.cells
              go_wp2_with (fail)
              rw [← hX29]
              clear hX29
              clear x0 x1 x2 x3
              clear y0 y1
              go_at_call 22
              refine (HL3.out _ _ _ HBAD.out).mono ?_
              rintro e v31 ⟨rfl, bb⟩
              have HBv31 := Lib.hid (below_join HBX29.out bb HBX29.out.size)
              have HLv31 := Lib.hid (below_join HLX29.out bb HLX29.out.size)
              have HKv31 := Lib.hid (HKX29.out.on bb hzHKX29)
              have hzHKv31 := Nat.lt_of_lt_of_le hzHKX29 bb.size
              have HPv31 := Lib.hid (HPX29.out.on bb hzHPX29)
              have hzHPv31 := Nat.lt_of_lt_of_le hzHPX29 bb.size
              clear bb
              obtain ⟨x0, x1, x2, x3⟩ := HKv31.out.cells
              obtain ⟨z0, z1⟩ := HPv31.out.cells
              go_wp2_with (fail)
              clear x0 x1 x2 x3 z0 z1
              go_at_call 24
              refine (HO3.out _ _ _ HBAD.out).mono ?_
              rintro e v32 ⟨rfl, bb⟩
              have HBv32 := Lib.hid (below_join HBv31.out bb HBv31.out.size)
              have HLv32 := Lib.hid (below_join HLv31.out bb HLv31.out.size)
              have HKv32 := Lib.hid (HKv31.out.on bb hzHKv31)
              have hzHKv32 := Nat.lt_of_lt_of_le hzHKv31 bb.size
              have HPv32 := Lib.hid (HPv31.out.on bb hzHPv31)
              have hzHPv32 := Nat.lt_of_lt_of_le hzHPv31 bb.size
              clear bb
              go_wp2_with (fail)
              go_roundw
              case rel => exact ⟨k + 1, by omega, by go_num, Lib.hid HLv32.out⟩
              case measure => simp only [intOf]; omega
            · have hge : (4 : Int) ≤ (k : Int) := by omega
              clear hlt hki
              clear hB hk HLwx3
              obtain ⟨X33, hX33⟩ : ∃ X, X = (wx3.alloc (.cells #[.int .i64 (-1), .int .i64 1, .int .i64 41, .int .i64 1, .int .i64 0, .int .i64 0, .int .i64 0, .int .i64 1001] 60)) := ⟨_, rfl⟩
              have b33 : Below wx3.heap.size wx3 X33 := by subst hX33; exact (Below.refl _ _).alloc (Nat.le_refl _) _
              have HBX33 := Lib.hid (below_join HBwx3.out b33 HBwx3.out.size)
              have HKX33 := Lib.hid (HKwx3.out.on b33 hzHKwx3)
              have hzHKX33 := Nat.lt_of_lt_of_le hzHKwx3 b33.size
              clear b33
              have HBEA := Lib.hid (bear_at (X := X33) (b := wx3.heap.size) (T := 60) (by subst hX33; exact heap_alloc_new _ _))
              have hzHBEA : wx3.heap.size < X33.heap.size := by subst hX33; simp
              go_wp2_with (fail)
              rw [← hX33]
              clear hX33
              go_loopw [256] (fun i wr => ∃ k : Nat, k ≤ 4 ∧ i = .int .i64 (k : Int) ∧ Hid (Below X33.heap.size X33 wr)) (fun i _ => 4 - (intOf i).toNat)
              case atStart => exact ⟨0, Nat.zero_le _, rfl, Lib.hid (Below.refl _ _)⟩
              case round =>
                obtain ⟨k, hk, rfl, hB⟩ := hrel
                obtain ⟨wx4, hwx⟩ : ∃ x, x = wr := ⟨wr, rfl⟩
                subst hwx
                have hki : ((k : Nat) : Int).toNat = k := by omega
                have HLwx4 := Lib.hid hB.out
                have HBwx4 := Lib.hid (below_join HBX33.out hB.out HBX33.out.size)
                have HKwx4 := Lib.hid (HKX33.out.on hB.out hzHKX33)
                have hzHKwx4 := Nat.lt_of_lt_of_le hzHKX33 hB.out.size
                by_cases hlt : k < 4
                · have hcont := trivial
                  clear hcont
                  obtain ⟨q, p, hb, q0, q1⟩ := HBEA.out k hlt
                  have y0 := (HLwx4.out.cell (p := ⟨wx3.heap.size, k * 2, none⟩) hzHBEA).trans q0
                  have y1 := (HLwx4.out.cell (p := ⟨wx3.heap.size, k * 2 + 1, none⟩) hzHBEA).trans q1
                  have HBAD := Lib.hid hb
                  have hlt' : (k : Int) < 4 := by omega
                  clear q0 q1 hb hB
                  obtain ⟨X34, hX34⟩ : ∃ X, X = (wx4.alloc (.cells #[.int .i64 q, .int .i64 p] 60)) := ⟨_, rfl⟩
                  have b34 : Below wx4.heap.size wx4 X34 := by subst hX34; exact (Below.refl _ _).alloc (Nat.le_refl _) _
                  have HBX34 := Lib.hid (below_join HBwx4.out b34 HBwx4.out.size)
                  have HLX34 := Lib.hid (below_join HLwx4.out b34 HLwx4.out.size)
                  have HKX34 := Lib.hid (HKwx4.out.on b34 hzHKwx4)
                  have hzHKX34 := Nat.lt_of_lt_of_le hzHKwx4 b34.size
                  have HPX34 := Lib.hid (show Pr X34 wx4.heap.size q p by subst hX34; exact heap_alloc_new _ _)
                  have hzHPX34 : wx4.heap.size < X34.heap.size := block_lt HPX34.out
                  clear b34
                  have HKr35 := Lib.hid (show Bk (wx4.alloc (.cells #[.int .i64 q, .int .i64 p] 60)) v1.heap.size 0 50 40 100 from old_heap _ (HKwx4.out))
                  obtain ⟨x0, x1, x2, x3⟩ := HKr35.out.cells
                  go_wp2_with (fail)
                  rw [← hX34]
                  clear hX34
                  clear x0 x1 x2 x3
                  clear y0 y1
                  go_at_call 26
                  refine (HE3.out _ _ _ HBAD.out).mono ?_
                  rintro e v36 ⟨rfl, bb⟩
                  have HBv36 := Lib.hid (below_join HBX34.out bb HBX34.out.size)
                  have HLv36 := Lib.hid (below_join HLX34.out bb HLX34.out.size)
                  have HKv36 := Lib.hid (HKX34.out.on bb hzHKX34)
                  have hzHKv36 := Nat.lt_of_lt_of_le hzHKX34 bb.size
                  have HPv36 := Lib.hid (HPX34.out.on bb hzHPX34)
                  have hzHPv36 := Nat.lt_of_lt_of_le hzHPX34 bb.size
                  clear bb
                  go_wp2_with (fail)
                  go_roundw
                  case rel => exact ⟨k + 1, by omega, by go_num, Lib.hid HLv36.out⟩
                  case measure => simp only [intOf]; omega
                · have hge : (4 : Int) ≤ (k : Int) := by omega
                  clear hlt hki
                  clear hB hk HLwx4
                  obtain ⟨x0, x1, x2, x3⟩ := HKwx4.out.cells
                  go_wp2_with (fail)
                  clear x0 x1 x2 x3
                  go_at_call 11
                  refine (HN5.out _).mono ?_
                  rintro e v37 ⟨rfl, bb⟩
                  have HBv37 := Lib.hid (below_join HBwx4.out bb HBwx4.out.size)
                  have HKv37 := Lib.hid (HKwx4.out.on bb hzHKwx4)
                  have hzHKv37 := Nat.lt_of_lt_of_le hzHKwx4 bb.size
                  clear bb
                  obtain ⟨X38, hX38⟩ : ∃ X, X = (v37.alloc (.cells #[.int .i64 99999980, .bool true] 25)) := ⟨_, rfl⟩
                  have b38 : Below v37.heap.size v37 X38 := by subst hX38; exact (Below.refl _ _).alloc (Nat.le_refl _) _
                  have HBX38 := Lib.hid (below_join HBv37.out b38 HBv37.out.size)
                  have HKX38 := Lib.hid (HKv37.out.on b38 hzHKv37)
                  have hzHKX38 := Nat.lt_of_lt_of_le hzHKv37 b38.size
                  have HAX38 := Lib.hid (show St X38 v37.heap.size 99999980 true by subst hX38; exact st_new _ _ _)
                  have hzHAX38 : v37.heap.size < X38.heap.size := block_lt HAX38.out
                  clear b38
                  have HKr39 := Lib.hid (show Bk (v37.alloc (.cells #[.int .i64 99999980, .bool true] 25)) v1.heap.size 0 50 40 100 from old_heap _ (HKv37.out))
                  obtain ⟨x0, x1, x2, x3⟩ := HKr39.out.cells
                  go_wp2_with (fail)
                  rw [← hX38]
                  clear hX38
                  clear x0 x1 x2 x3
                  go_at_call 11
                  refine (HN6.out _).mono ?_
                  rintro e v40 ⟨rfl, bb⟩
                  have HBv40 := Lib.hid (below_join HBX38.out bb HBX38.out.size)
                  have HKv40 := Lib.hid (HKX38.out.on bb hzHKX38)
                  have hzHKv40 := Nat.lt_of_lt_of_le hzHKX38 bb.size
                  have HAv40 := Lib.hid (HAX38.out.on bb hzHAX38)
                  have hzHAv40 := Nat.lt_of_lt_of_le hzHAX38 bb.size
                  clear bb
                  obtain ⟨X41, hX41⟩ : ∃ X, X = (v40.alloc (.cells #[.int .i64 99999980, .bool true] 25)) := ⟨_, rfl⟩
                  have b41 : Below v40.heap.size v40 X41 := by subst hX41; exact (Below.refl _ _).alloc (Nat.le_refl _) _
                  have HBX41 := Lib.hid (below_join HBv40.out b41 HBv40.out.size)
                  have HKX41 := Lib.hid (HKv40.out.on b41 hzHKv40)
                  have hzHKX41 := Nat.lt_of_lt_of_le hzHKv40 b41.size
                  have HAX41 := Lib.hid (HAv40.out.on b41 hzHAv40)
                  have hzHAX41 := Nat.lt_of_lt_of_le hzHAv40 b41.size
                  clear b41
                  have HAr := Lib.hid (show St (v40.alloc (.cells #[.int .i64 99999980, .bool true] 25)) v37.heap.size 99999980 true from old_heap _ HAv40.out)
                  obtain ⟨z0, z1⟩ := HAr.out.cells
                  go_wp2_with (fail)
                  rw [← hX41]
                  clear hX41
                  clear z0 z1
                  go_at_call 11
                  refine (HN7.out _).mono ?_
                  rintro e v42 ⟨rfl, bb⟩
                  have HBv42 := Lib.hid (below_join HBX41.out bb HBX41.out.size)
                  have HKv42 := Lib.hid (HKX41.out.on bb hzHKX41)
                  have hzHKv42 := Nat.lt_of_lt_of_le hzHKX41 bb.size
                  clear bb
                  obtain ⟨X43, hX43⟩ : ∃ X, X = (v42.alloc (.cells #[.int .i64 100000000, .bool true] 25)) := ⟨_, rfl⟩
                  have b43 : Below v42.heap.size v42 X43 := by subst hX43; exact (Below.refl _ _).alloc (Nat.le_refl _) _
                  have HBX43 := Lib.hid (below_join HBv42.out b43 HBv42.out.size)
                  have HKX43 := Lib.hid (HKv42.out.on b43 hzHKv42)
                  have hzHKX43 := Nat.lt_of_lt_of_le hzHKv42 b43.size
                  have HQX43 := Lib.hid (show St X43 v42.heap.size 100000000 true by subst hX43; exact st_new _ _ _)
                  have hzHQX43 : v42.heap.size < X43.heap.size := block_lt HQX43.out
                  clear b43
                  go_wp2_with (fail)
                  rw [← hX43]
                  clear hX43
                  go_at_call 22
                  refine (HL5.out _).mono ?_
                  rintro e v44 ⟨rfl, bb⟩
                  have HBv44 := Lib.hid (below_join HBX43.out bb HBX43.out.size)
                  have HKv44 := Lib.hid (HKX43.out.on bb hzHKX43)
                  have hzHKv44 := Nat.lt_of_lt_of_le hzHKX43 bb.size
                  have HQv44 := Lib.hid (HQX43.out.on bb hzHQX43)
                  have hzHQv44 := Nat.lt_of_lt_of_le hzHQX43 bb.size
                  clear bb
                  go_wp2_with (fail)
                  go_at_call 24
                  refine (HO5.out _).mono ?_
                  rintro e v45 ⟨rfl, bb⟩
                  have HBv45 := Lib.hid (below_join HBv44.out bb HBv44.out.size)
                  have HKv45 := Lib.hid (HKv44.out.on bb hzHKv44)
                  have hzHKv45 := Nat.lt_of_lt_of_le hzHKv44 bb.size
                  have HQv45 := Lib.hid (HQv44.out.on bb hzHQv44)
                  have hzHQv45 := Nat.lt_of_lt_of_le hzHQv44 bb.size
                  clear bb
                  go_wp2_with (fail)
                  go_at_call 26
                  refine (HE5.out _).mono ?_
                  rintro e v46 ⟨rfl, bb⟩
                  have HBv46 := Lib.hid (below_join HBv45.out bb HBv45.out.size)
                  have HKv46 := Lib.hid (HKv45.out.on bb hzHKv45)
                  have hzHKv46 := Nat.lt_of_lt_of_le hzHKv45 bb.size
                  have HQv46 := Lib.hid (HQv45.out.on bb hzHQv45)
                  have hzHQv46 := Nat.lt_of_lt_of_le hzHQv45 bb.size
                  clear bb
                  go_wp2_with (fail)
                  go_at_call 26
                  refine (HE6.out _).mono ?_
                  rintro e v47 ⟨rfl, bb⟩
                  have HBv47 := Lib.hid (below_join HBv46.out bb HBv46.out.size)
                  have HKv47 := Lib.hid (HKv46.out.on bb hzHKv46)
                  have hzHKv47 := Nat.lt_of_lt_of_le hzHKv46 bb.size
                  have HQv47 := Lib.hid (HQv46.out.on bb hzHQv46)
                  have hzHQv47 := Nat.lt_of_lt_of_le hzHQv46 bb.size
                  clear bb
                  obtain ⟨x0, x1, x2, x3⟩ := HKv47.out.cells
                  go_wp2_with (fail)
                  clear x0 x1 x2 x3
                  go_at_call 26
                  refine (HE7.out _).mono ?_
                  rintro e v48 ⟨rfl, bb⟩
                  have HBv48 := Lib.hid (below_join HBv47.out bb HBv47.out.size)
                  have HKv48 := Lib.hid (HKv47.out.on bb hzHKv47)
                  have hzHKv48 := Nat.lt_of_lt_of_le hzHKv47 bb.size
                  have HQv48 := Lib.hid (HQv47.out.on bb hzHQv47)
                  have hzHQv48 := Nat.lt_of_lt_of_le hzHQv47 bb.size
                  clear bb
                  obtain ⟨z0, z1⟩ := HQv48.out.cells
                  go_wp2_with (fail)
                  clear z0 z1
                  go_at_call 21
                  refine (c_works _).mono ?_
                  rintro e v49 ⟨rfl, bb⟩
                  have HBv49 := Lib.hid (below_join HBv48.out bb HBv48.out.size)
                  have HKv49 := Lib.hid (HKv48.out.on bb hzHKv48)
                  have hzHKv49 := Nat.lt_of_lt_of_le hzHKv48 bb.size
                  have HQv49 := Lib.hid (HQv48.out.on bb hzHQv48)
                  have hzHQv49 := Nat.lt_of_lt_of_le hzHQv48 bb.size
                  clear bb
                  go_wp2_with (fail)
                  go_ret
                  exact ⟨rfl, HBv49.out⟩
end Go.Proofs.Ytomfaknemjbjcaa
