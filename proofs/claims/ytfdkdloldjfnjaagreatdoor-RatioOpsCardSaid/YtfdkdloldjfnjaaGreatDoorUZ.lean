/-
  DERIVED. The reference's sum.
-/
import Derived.Test.YtfdkdloldjfnjaaGreatDoorUP
set_option linter.unusedVariables false
set_option linter.unusedSimpArgs false
namespace Go.Proofs.YtfdkdloldjfnjaaGreatDoor
open Go.RowKit
set_option maxRecDepth 100000

set_option maxHeartbeats 2000000 in
theorem c_esumE (s : Bool) (a b d : Nat) (hd0 : 0 < d) (ha : (nat a).length ≤ 40000) (hb : (nat b).length ≤ 40000) (hd : (nat d).length ≤ 80000) (va vb vd : Value) (w : World) (h1 : Ls w va (nat a)) (h2 : Ls w vb (nat b)) (h3 : Ls w vd (nat d)) :
    Calls Tryz.prog 68 #[.bool s, va, .bool s, vb, vd] w (ResPost (redP s (a + b) d) 3 w) := by
  obtain ⟨W, hW⟩ : ∃ W, W = w.alloc (.cells #[.bool false, .slice none 0 0, .slice none 0 0] 25) := ⟨_, rfl⟩
  have B0' : Below w.heap.size w W := by subst hW; exact (Below.refl _ _).alloc (Nat.le_refl _) _
  have HR := Lib.hid (show ResZ w.heap.size W by subst hW; exact row_new4 _ _ _ rfl)
  have hz : w.heap.size < W.heap.size := by subst hW; simp
  have HB := Lib.hid B0'
  have HS := Lib.hid (c_eSumN a b (by omega) (by omega) va vb W (h1.on B0') (h2.on B0'))
  have hN : (nat (a + b)).length ≤ 80000 := by
    have := add_len a b 40000 ha hb
    omega
  have HM := Lib.hid (fun (X : World) (vn : Value) (hX : Below w.heap.size w X) (hn : Ls X vn (nat (a + b))) => c_eMade s (a + b) d hd0 hN hd vn vd X hn (h3.on hX))
  obtain ⟨A1, c1, rfl⟩ := h1.1.shape
  obtain ⟨A2, c2, rfl⟩ := h2.1.shape
  obtain ⟨A3, c3, rfl⟩ := h3.1.shape
  clear B0' h1 h2 h3 hd0 hN
  go_enter Tryz.func68, Tryz.ntmps68
  cases s
  all_goals (
    go_wp2_with (fail)
    rw [← hW]
    clear hW
    go_at_call 77
    refine HS.out.mono ?_
    rintro e w1 h1'
    obtain ⟨v1, rfl, g1, b1⟩ := NewNat.ls h1'
    have HG := Lib.hid g1
    have HR1 := Lib.hid (HR.out.on b1 hz)
    have HB1 := Lib.hid (below_join HB.out b1 HB.out.size)
    have hz1 := b1.size
    obtain ⟨A4, c4, rfl⟩ := g1.1.shape
    clear g1 b1 h1'
    go_wp2_with (fail)
    go_at_call 48
    refine (HM.out _ _ HB1.out HG.out).mono ?_
    rintro e w2 h2'
    obtain ⟨s', A5, m5, c5, A6, m6, c6, y, rfl, g2, b2⟩ := res_open h2'
    have HRS := Lib.hid g2
    have HR2 := Lib.hid (HR1.out.on b2 (by omega))
    have HB2 := Lib.hid (below_join HB1.out b2 HB1.out.size)
    obtain ⟨f0, f1, f2⟩ := three_frozen HR2.out
    obtain ⟨e0, e1, e2⟩ := three_cells HR2.out
    clear g2 b2 h2'
    go_wp2_with (fail)
    have hst := HRS.out.storeZ HR2.out (.bool s') (.slice A5 m5 c5) (.slice A6 m6 c6)
    exact ret3t (b := w.heap.size) rfl rfl rfl rfl (row_store3 HR2.out _ _ _) ⟨_, _, rfl, below_store3 HB2.out (Nat.le_refl _) _ _ _, hst.1, hst.2⟩)
set_option maxHeartbeats 2000000 in
theorem c_esumG (s : Bool) (a b d : Nat) (hab : b ≤ a) (hd0 : 0 < d) (ha : (nat a).length ≤ 40000) (hd : (nat d).length ≤ 80000) (va vb vd : Value) (w : World) (h1 : Ls w va (nat a)) (h2 : Ls w vb (nat b)) (h3 : Ls w vd (nat d)) :
    Calls Tryz.prog 68 #[.bool s, va, .bool (!s), vb, vd] w (ResPost (redP s (a - b) d) 3 w) := by
  obtain ⟨W, hW⟩ : ∃ W, W = w.alloc (.cells #[.bool false, .slice none 0 0, .slice none 0 0] 25) := ⟨_, rfl⟩
  have B0' : Below w.heap.size w W := by subst hW; exact (Below.refl _ _).alloc (Nat.le_refl _) _
  have HR := Lib.hid (show ResZ w.heap.size W by subst hW; exact row_new4 _ _ _ rfl)
  have hz : w.heap.size < W.heap.size := by subst hW; simp
  have HB := Lib.hid B0'
  have HC := Lib.hid (c_eCmpN a b va vb W (h1.on B0') (h2.on B0'))
  have HS := Lib.hid (fun (X : World) (hX : Below w.heap.size w X) => c_eDiffN a b (by omega) (by omega) va vb X (h1.on hX) (h2.on hX))
  have hN : (nat (a - b)).length ≤ 80000 := Nat.le_trans (len_le_of_le (Nat.sub_le _ _) ha) (by omega)
  have HM := Lib.hid (fun (X : World) (vn : Value) (hX : Below w.heap.size w X) (hn : Ls X vn (nat (a - b))) => c_eMade s (a - b) d hd0 hN hd vn vd X hn (h3.on hX))
  have hcz : 0 ≤ cmpI a b := by unfold cmpI; split <;> (try split) <;> omega
  obtain ⟨A1, c1, rfl⟩ := h1.1.shape
  obtain ⟨A2, c2, rfl⟩ := h2.1.shape
  obtain ⟨A3, c3, rfl⟩ := h3.1.shape
  clear B0' h1 h2 h3 hd0 hN hab
  generalize cmpI a b = z at *
  go_enter Tryz.func68, Tryz.ntmps68
  cases s
  all_goals (
    go_wp2_with (fail)
    rw [← hW]
    clear hW
    go_at_call 99
    refine HC.out.mono ?_
    rintro e w0 ⟨rfl, d3, rfl⟩
    have HR0 := Lib.hid (HR.out.on (below_draws (w := W) ⟨d3, rfl⟩) hz)
    have HB0 := Lib.hid (below_join HB.out (below_draws (w := W) ⟨d3, rfl⟩) HB.out.size)
    have hz0 : w.heap.size < (W.drewN d3).heap.size := hz
    go_wp2_with (fail)
    go_at_call 103
    refine (HS.out _ HB0.out).mono ?_
    rintro e w1 h1'
    obtain ⟨v1, rfl, g1, b1⟩ := NewNat.ls h1'
    have HG := Lib.hid g1
    have HR1 := Lib.hid (HR0.out.on b1 hz0)
    have HB1 := Lib.hid (below_join HB0.out b1 HB0.out.size)
    have hz1 : w.heap.size < w1.heap.size := Nat.lt_of_lt_of_le hz0 b1.size
    obtain ⟨A4, c4, rfl⟩ := g1.1.shape
    clear g1 b1 h1'
    go_wp2_with (fail)
    go_at_call 48
    refine (HM.out _ _ HB1.out HG.out).mono ?_
    rintro e w2 h2'
    obtain ⟨s', A5, m5, c5, A6, m6, c6, y, rfl, g2, b2⟩ := res_open h2'
    have HRS := Lib.hid g2
    have HR2 := Lib.hid (HR1.out.on b2 hz1)
    have HB2 := Lib.hid (below_join HB1.out b2 HB1.out.size)
    obtain ⟨f0, f1, f2⟩ := three_frozen HR2.out
    obtain ⟨e0, e1, e2⟩ := three_cells HR2.out
    clear g2 b2 h2'
    go_wp2_with (fail)
    have hst := HRS.out.storeZ HR2.out (.bool s') (.slice A5 m5 c5) (.slice A6 m6 c6)
    exact ret3t (b := w.heap.size) rfl rfl rfl rfl (row_store3 HR2.out _ _ _) ⟨_, _, rfl, below_store3 HB2.out (Nat.le_refl _) _ _ _, hst.1, hst.2⟩)
set_option maxHeartbeats 2000000 in
theorem c_esumL (s : Bool) (a b d : Nat) (hab : a < b) (hd0 : 0 < d) (hb : (nat b).length ≤ 40000) (hd : (nat d).length ≤ 80000) (va vb vd : Value) (w : World) (h1 : Ls w va (nat a)) (h2 : Ls w vb (nat b)) (h3 : Ls w vd (nat d)) :
    Calls Tryz.prog 68 #[.bool s, va, .bool (!s), vb, vd] w (ResPost (redP (!s) (b - a) d) 3 w) := by
  obtain ⟨W, hW⟩ : ∃ W, W = w.alloc (.cells #[.bool false, .slice none 0 0, .slice none 0 0] 25) := ⟨_, rfl⟩
  have B0' : Below w.heap.size w W := by subst hW; exact (Below.refl _ _).alloc (Nat.le_refl _) _
  have HR := Lib.hid (show ResZ w.heap.size W by subst hW; exact row_new4 _ _ _ rfl)
  have hz : w.heap.size < W.heap.size := by subst hW; simp
  have HB := Lib.hid B0'
  have HC := Lib.hid (c_eCmpN a b va vb W (h1.on B0') (h2.on B0'))
  have HS := Lib.hid (fun (X : World) (hX : Below w.heap.size w X) => c_eDiffN b a (by omega) (by omega) vb va X (h2.on hX) (h1.on hX))
  have hN : (nat (b - a)).length ≤ 80000 := Nat.le_trans (len_le_of_le (Nat.sub_le _ _) hb) (by omega)
  have HM := Lib.hid (fun (X : World) (vn : Value) (hX : Below w.heap.size w X) (hn : Ls X vn (nat (b - a))) => c_eMade (!s) (b - a) d hd0 hN hd vn vd X hn (h3.on hX))
  have hcz : cmpI a b < 0 := by unfold cmpI; split <;> (try split) <;> omega
  obtain ⟨A1, c1, rfl⟩ := h1.1.shape
  obtain ⟨A2, c2, rfl⟩ := h2.1.shape
  obtain ⟨A3, c3, rfl⟩ := h3.1.shape
  clear B0' h1 h2 h3 hd0 hN hab
  generalize cmpI a b = z at *
  go_enter Tryz.func68, Tryz.ntmps68
  cases s
  all_goals (
    go_wp2_with (fail)
    rw [← hW]
    clear hW
    go_at_call 99
    refine HC.out.mono ?_
    rintro e w0 ⟨rfl, d3, rfl⟩
    have HR0 := Lib.hid (HR.out.on (below_draws (w := W) ⟨d3, rfl⟩) hz)
    have HB0 := Lib.hid (below_join HB.out (below_draws (w := W) ⟨d3, rfl⟩) HB.out.size)
    have hz0 : w.heap.size < (W.drewN d3).heap.size := hz
    go_wp2_with (fail)
    go_at_call 103
    refine (HS.out _ HB0.out).mono ?_
    rintro e w1 h1'
    obtain ⟨v1, rfl, g1, b1⟩ := NewNat.ls h1'
    have HG := Lib.hid g1
    have HR1 := Lib.hid (HR0.out.on b1 hz0)
    have HB1 := Lib.hid (below_join HB0.out b1 HB0.out.size)
    have hz1 : w.heap.size < w1.heap.size := Nat.lt_of_lt_of_le hz0 b1.size
    obtain ⟨A4, c4, rfl⟩ := g1.1.shape
    clear g1 b1 h1'
    go_wp2_with (fail)
    go_at_call 48
    refine (HM.out _ _ HB1.out HG.out).mono ?_
    rintro e w2 h2'
    obtain ⟨s', A5, m5, c5, A6, m6, c6, y, rfl, g2, b2⟩ := res_open h2'
    have HRS := Lib.hid g2
    have HR2 := Lib.hid (HR1.out.on b2 hz1)
    have HB2 := Lib.hid (below_join HB1.out b2 HB1.out.size)
    obtain ⟨f0, f1, f2⟩ := three_frozen HR2.out
    obtain ⟨e0, e1, e2⟩ := three_cells HR2.out
    clear g2 b2 h2'
    go_wp2_with (fail)
    have hst := HRS.out.storeZ HR2.out (.bool s') (.slice A5 m5 c5) (.slice A6 m6 c6)
    exact ret3t (b := w.heap.size) rfl rfl rfl rfl (row_store3 HR2.out _ _ _) ⟨_, _, rfl, below_store3 HB2.out (Nat.le_refl _) _ _ _, hst.1, hst.2⟩)
/-- With the parts of the sum as 'sumP' names them. -/
theorem c_esum (s t : Bool) (m n a b : Nat) (hab : 0 < a * b) (h1 : (nat (m * b)).length ≤ 40000) (h2 : (nat (n * a)).length ≤ 40000) (h3 : (nat (a * b)).length ≤ 80000) (va vb vd : Value) (w : World) (k1 : Ls w va (nat (m * b))) (k2 : Ls w vb (nat (n * a))) (k3 : Ls w vd (nat (a * b))) :
    Calls Tryz.prog 68 #[.bool s, va, .bool t, vb, vd] w (ResPost (redP (sumP s m a t n b).1 (sumP s m a t n b).2 (a * b)) 3 w) := by
  unfold sumP
  by_cases hst : s = t
  · subst hst
    rw [if_pos (by simp)]
    exact c_esumE s _ _ _ hab h1 h2 h3 va vb vd w k1 k2 k3
  · have ht : t = !s := by cases s <;> cases t <;> simp_all
    subst ht
    rw [if_neg (by cases s <;> simp)]
    by_cases hlt : m * b < n * a
    · rw [if_pos hlt]
      exact c_esumL s _ _ _ hlt hab h2 h3 va vb vd w k1 k2 k3
    · rw [if_neg hlt]
      exact c_esumG s _ _ _ (by omega) hab h1 h3 va vb vd w k1 k2 k3
end Go.Proofs.YtfdkdloldjfnjaaGreatDoor
