/-
  DERIVED. placeOf: sort.Search over the replicas (stage 13).
-/
import Derived.Test.YtplncglgolhfaaaEH
namespace Go.Proofs.Ytplncglgolhfaaa
open Go.RowKit
set_option maxRecDepth 100000
set_option linter.unusedVariables false
set_option linter.unusedSimpArgs false

def RpBox (w : World) (b : Nat) (A : Option Addr) (n c : Nat) : Prop := w.heap[b]? = some (.cells #[.slice A n c] 34 (0, 0))
def XpBox (w : World) (b : Nat) (x : Rep) : Prop := w.heap[b]? = some (.cells #[.int .i64 x.svc, .int .i64 x.host] 41 (0, 0))
theorem RpBox.on {w w' : World} {b : Nat} {A : Option Addr} {n c B : Nat} (h : RpBox w b A n c) (hb : Below B w w') (hB : w.heap.size ≤ B) : RpBox w' b A n c := box_on h hb hB
theorem XpBox.on {w w' : World} {b : Nat} {x : Rep} {B : Nat} (h : XpBox w b x) (hb : Below B w w') (hB : w.heap.size ≤ B) : XpBox w' b x := box_on h hb hB
set_option maxHeartbeats 8000000 in
theorem c_place1 (rb xb : Nat) (A : Option Addr) (c : Nat) (l : List Rep) (x y : Rep) (k : Nat) (hy : l[k]? = some y) (r : Bool) (hr : (!lessR y x) = r) (w : World) (h : Rv 2 repV w A c l) (h1 : RpBox w rb A l.length c) (h2 : XpBox w xb x) :
    Calls Try.prog 86 #[.int .i64 (k : Int), .pointer (some ⟨rb, 0, none⟩), .pointer (some ⟨xb, 0, none⟩)] w fun e w' => e = .returned (.bool r) ∧ Below w.heap.size w w' := by
  obtain ⟨b, o, rfl, -, -⟩ := h.at_ hy
  have HF := Lib.hid (fun (X : World) (hX : Below w.heap.size w X) => (let u := rep_at (h.on hX (Nat.le_refl _)) hy; (⟨cell_of (h1.on hX (Nat.le_refl _)) rfl, cell_of (h2.on hX (Nat.le_refl _)) rfl, cell_of (h2.on hX (Nat.le_refl _)) rfl, u.1, u.2⟩ : X.cell? ⟨rb, 0, none⟩ = some (.slice (some ⟨b, o, none⟩) l.length c) ∧ X.cell? ⟨xb, 0, none⟩ = some (.int .i64 x.svc) ∧ X.cell? ⟨xb, 1, none⟩ = some (.int .i64 x.host) ∧ X.cell? ⟨b, o + k * 2, none⟩ = some (.int .i64 y.svc) ∧ X.cell? ⟨b, o + k * 2 + 1, none⟩ = some (.int .i64 y.host))))
  have hkl : (k : Int) < (l.length : Int) := by have := (List.getElem?_eq_some_iff.1 hy).1; omega
  have hki : ((k : Nat) : Int).toNat = k := by omega
  have hc1 := h.1; have hc2 := h.2.1
  unfold maxLen at hc2
  obtain ⟨z, hz⟩ : ∃ z, cmpR y x = z := ⟨_, rfl⟩
  have HC := Lib.hid (c_compare y x z hz w.drew)
  have HD := Lib.hid (show decide (0 ≤ z) = r by rw [← hz, cmpR_less, hr])
  obtain ⟨f0, f1, f2, f3, f4⟩ := HF.out w (Below.refl _ _)
  clear h h1 h2 hy hr hz
  go_enter Try.func86, Try.ntmps86
  go_wp2_with (fail)
  go_region_held3 (fun X => X.cell? ⟨rb, 0, none⟩ = some (.slice (some ⟨b, o, none⟩) l.length c) ∧ X.cell? ⟨xb, 0, none⟩ = some (.int .i64 x.svc) ∧ X.cell? ⟨xb, 1, none⟩ = some (.int .i64 x.host) ∧ X.cell? ⟨b, o + k * 2, none⟩ = some (.int .i64 y.svc) ∧ X.cell? ⟨b, o + k * 2 + 1, none⟩ = some (.int .i64 y.host))
    (first | exact HF.out w (Below.refl _ _) | exact HF.out w1 HB1.out | fail)
    (first
      | (go_at_call 81; refine HC.out.mono ?_; rintro e w1 ⟨rfl, bb1⟩; have HB1 := Lib.hid (below_join (Below.refl w.heap.size w).drew bb1 (Nat.le_refl _)); clear bb1)
      | fail)
  go_wp2_with (fail)
  go_ret
  exact ⟨(show Ending.returned (.bool (decide (0 ≤ z))) = .returned (.bool r) by rw [HD.out]), HB1.out⟩
set_option maxHeartbeats 8000000 in
theorem c_searchR (rb xb : Nat) (A : Option Addr) (c : Nat) (l : List Rep) (x : Rep) (ha : ascB l = true) (hm : l.length ≤ 1000) (w : World) (h : Rv 2 repV w A c l) (h1 : RpBox w rb A l.length c) (h2 : XpBox w xb x) :
    Calls Try.prog 87 #[.int .i64 (l.length : Int), .func (.func 86) #[] #[.pointer (some ⟨rb, 0, none⟩), .pointer (some ⟨xb, 0, none⟩)]] w fun e w' => e = .returned (.int .i64 (plc l x : Int)) ∧ Below w.heap.size w w' := by
  have H := Lib.hid h
  have H1 := Lib.hid h1
  have H2 := Lib.hid h2
  have HA := Lib.hid (asc_iff.1 ha)
  have HPL := Lib.hid (plc_le l x)
  clear h h1 h2 ha
  obtain ⟨P, hP⟩ : ∃ P, plc l x = P := ⟨_, rfl⟩
  rw [hP] at HPL ⊢
  have HP := Lib.hid hP
  clear hP
  go_enter Try.func87, Try.ntmps87
  go_wp2_with (fail)
  go_loopw [5, 6] (fun u v wr => ∃ i j : Nat, i ≤ P ∧ P ≤ j ∧ j ≤ l.length ∧ u = .int .i64 (i : Int) ∧ v = .int .i64 (j : Int) ∧ Hid (Below w.heap.size w wr)) (fun u v _ => (intOf v).toNat - (intOf u).toNat)
  case atStart => exact ⟨0, l.length, Nat.zero_le _, HPL.out, Nat.le_refl _, rfl, rfl, Lib.hid (Below.refl _ _)⟩
  case round =>
    obtain ⟨i, j, hi, hj, hjl, rfl, rfl, hB⟩ := hrel
    by_cases hlt : i < j
    · obtain ⟨m, hm2⟩ : ∃ m : Nat, (i + j) / 2 = m := ⟨_, rfl⟩
      have hij : (i : Int) < (j : Int) := by omega
      have hm3 : i ≤ m ∧ m < j := by omega
      obtain ⟨y, hy⟩ : ∃ y, l[m]? = some y := ⟨_, List.getElem?_eq_getElem (by omega)⟩
      have hq : ((i : Int) + (j : Int)) / 2 = (m : Int) := by omega
      obtain ⟨r, hr⟩ : ∃ r, (!lessR y x) = r := ⟨_, rfl⟩
      have HR := Lib.hid hr
      have HC := Lib.hid (c_place1 rb xb A c l x y m hy r hr wr (H.out.on hB.out (Nat.le_refl _)) (H1.out.on hB.out (Nat.le_refl _)) (H2.out.on hB.out (Nat.le_refl _)))
      have HY := Lib.hid hy
      have HM := Lib.hid hm3
      clear hm2 hm3 hr hy
      go_wp2_with (fail)
      go_at_call 86
      refine HC.out.mono ?_
      rintro e w1 ⟨rfl, b1⟩
      have HB1 := Lib.hid (below_join hB.out b1 hB.out.size)
      clear b1
      have hm3 := HM.out
      cases r
      · have HI := Lib.hid (show m + 1 ≤ P by
          have hL : lessR y x = true := by have := HR.out; simpa using this
          rcases Nat.lt_or_ge m P with h | h
          · exact h
          · have := plc_above HA.out (by rw [HP.out]; exact h) HY.out
            rw [hL] at this; cases this)
        have hmm := HI.out
        go_wp2_with (fail)
        go_roundw
        case rel => exact ⟨m + 1, j, hmm, hj, hjl, by go_num, rfl, HB1⟩
        case measure => simp only [intOf]; omega
      · have HI := Lib.hid (show P ≤ m by
          have hL : lessR y x = false := by have := HR.out; simpa using this
          rcases Nat.lt_or_ge m P with h | h
          · have := plc_below (by rw [HP.out]; exact h) HY.out
            rw [hL] at this; cases this
          · exact h)
        have hmm := HI.out
        go_wp2_with (fail)
        go_roundw
        case rel => exact ⟨i, m, hi, hmm, by omega, rfl, rfl, HB1⟩
        case measure => simp only [intOf]; omega
    · have hij : ¬ ((i : Int) < (j : Int)) := by omega
      obtain rfl : i = P := by omega
      go_wp2_with (fail)
      go_ret
      exact ⟨rfl, hB.out⟩
set_option maxHeartbeats 8000000 in
theorem c_placeOf (A : Option Addr) (c : Nat) (l : List Rep) (x : Rep) (ha : ascB l = true) (hm : l.length ≤ 1000) (r : Bool) (hr : hasB l x = r) (w : World) (h : Rv 2 repV w A c l) :
    Calls Try.prog 52 #[.slice A l.length c, .agg #[.int .i64 x.svc, .int .i64 x.host]] w fun e w' => e = .returned (.tuple #[.int .i64 (plc l x : Int), .bool r]) ∧ Below w.heap.size w w' := by
  obtain ⟨W1, h1⟩ : ∃ W, W = w.alloc (.cells #[.slice A l.length c] 34) := ⟨_, rfl⟩
  obtain ⟨W, h2⟩ : ∃ W, W = W1.alloc (.cells #[.int .i64 x.svc, .int .i64 x.host] 41) := ⟨_, rfl⟩
  have s1 : W1.heap.size = w.heap.size + 1 := by rw [h1, World.size_alloc]
  have B0 : Below w.heap.size w W := by
    have e1 : Below w.heap.size w W1 := by rw [h1]; exact (Below.refl _ _).alloc (Nat.le_refl _) _
    rw [h2]; exact e1.alloc (by omega) _
  have b1 : RpBox W w.heap.size A l.length c := by
    have e1 : RpBox W1 w.heap.size A l.length c := by rw [h1]; exact box_new _ _ _
    unfold RpBox at e1 ⊢
    rw [h2]; exact old_heap _ e1
  have b2 : XpBox W (w.heap.size + 1) x := by unfold XpBox; rw [h2, ← s1]; exact box_new _ _ _
  have HB := Lib.hid B0
  have hle := B0.size
  have H := Lib.hid (h.on B0 (Nat.le_refl _))
  have B1 := Lib.hid b1
  have B2 := Lib.hid b2
  have HC := Lib.hid (c_searchR w.heap.size (w.heap.size + 1) A c l x ha hm W (h.on B0 (Nat.le_refl _)) b1 b2)
  have HA := Lib.hid (asc_iff.1 ha)
  have HPL := Lib.hid (plc_le l x)
  have hc1 := h.1; have hc2 := h.2.1
  unfold maxLen at hc2
  have HR := Lib.hid hr
  have x0 : W.cell? ⟨w.heap.size, 0, none⟩ = some (.slice A l.length c) := cell_of b1 rfl
  clear h b1 b2 B0 ha hr s1
  rw [h2, h1] at x0
  generalize hA : w.heap.size = B at *
  obtain ⟨P, hP⟩ : ∃ P, plc l x = P := ⟨_, rfl⟩
  rw [hP] at HPL HC ⊢
  have HP := Lib.hid hP
  clear hP
  go_enter Try.func52, Try.ntmps52
  go_wp2_with (fail)
  rw [← h1, ← h2] at x0 ⊢
  clear h1 h2
  go_at_call 87
  refine HC.out.mono ?_
  rintro e w1 ⟨rfl, b1⟩
  have K1 := Lib.hid b1
  have y0 : w1.cell? ⟨B, 0, none⟩ = some (.slice A l.length c) := cell_of (B1.out.on b1 (Nat.le_refl _)) rfl
  have y1 : w1.cell? ⟨B + 1, 0, none⟩ = some (.int .i64 x.svc) := cell_of (B2.out.on b1 (Nat.le_refl _)) rfl
  have y2 : w1.cell? ⟨B + 1, 1, none⟩ = some (.int .i64 x.host) := cell_of (B2.out.on b1 (Nat.le_refl _)) rfl
  have H1 := H.out.on b1 (Nat.le_refl _)
  clear b1 x0
  have g1 := guardRp
  have g2 := eqlRp
  by_cases hlt : P < l.length
  · obtain ⟨y, hy⟩ : ∃ y, l[P]? = some y := ⟨_, List.getElem?_eq_getElem hlt⟩
    obtain ⟨b, o, rfl, -, -⟩ := H1.at_ hy
    obtain ⟨z0, z1⟩ := rep_at H1 hy
    have hd : decide ((P : Int) < (l.length : Int)) = true := decide_eq_true (by omega)
    have hd2 : (P : Int) < (l.length : Int) := by omega
    have hki : ((P : Nat) : Int).toNat = P := by omega
    have HE := Lib.hid (show ((y.svc == x.svc) && (y.host == x.host)) = r by
      rw [rep_beq, ← HR.out]
      unfold hasB
      have e := plc_there (r := x) HA.out
      rw [HP.out, hy] at e
      exact decide_eq_decide.2 ⟨fun h => e.2 (by rw [h]), fun h => by have := e.1 h; injection this⟩)
    obtain ⟨t, ht⟩ : ∃ t, ((y.svc == x.svc) && (y.host == x.host)) = t := ⟨_, rfl⟩
    rw [ht] at HE
    clear H1 hy
    go_wp2_with (fail)
    go_quiet (fail)
    go_wp2_with (fail)
    go_ret2
    exact ⟨(show Ending.returned (.tuple #[.int .i64 (P : Int), .bool t]) = .returned (.tuple #[.int .i64 (P : Int), .bool r]) by rw [HE.out]), below_drewN (below_join HB.out K1.out hle)⟩
  · have hd : decide ((P : Int) < (l.length : Int)) = false := decide_eq_false (by omega)
    obtain rfl : false = r := by
      rw [← HR.out]
      refine (decide_eq_false fun h => ?_).symm
      have e := (plc_there HA.out).1 h
      rw [HP.out] at e
      have := (List.getElem?_eq_some_iff.1 e).1
      omega
    clear H1
    go_wp2_with (fail)
    go_quiet (fail)
    go_wp2_with (fail)
    go_ret2
    exact ⟨rfl, below_drewN (below_join HB.out K1.out hle)⟩
end Go.Proofs.Ytplncglgolhfaaa
