/-
  DERIVED. Three small fractions made in one statement, in whatever order: RatioField. (Written by gen/genWF.py.)
-/
import Derived.Test.YtfdkdloldjfnjaaGreatDoorWF
set_option linter.unusedVariables false
set_option linter.unusedSimpArgs false
namespace Go.Proofs.YtfdkdloldjfnjaaGreatDoor
open Go.RowKit
set_option maxRecDepth 100000
set_option linter.unusedSimpArgs false
set_option linter.unusedVariables false

section
variable (Q : Exit → Act → World → Prop) (w0 : World) (a : Act) (g : Nat) (z0 z1 z2 z3 z4 z5 : Int) (q1 q2 q3 : Rat) (ha : a.tmps.size = 151) (hg : a.eval (.tmp 1) = .pointer (some ⟨g, 0, none⟩)) (hgl : g < w0.heap.size) (hp : ∀ (d : Nat) v c b w, Q (.panic c) (Act.put b (some d) v) w → Q (.panic c) b w)
  (h1 : ∀ X, Calls Tryz.prog 42 #[.int .i16 z0, .int .i16 z1] X (SmallPost q1 X)) (h2 : ∀ X, Calls Tryz.prog 42 #[.int .i16 z2, .int .i16 z3] X (SmallPost q2 X)) (h3 : ∀ X, Calls Tryz.prog 42 #[.int .i16 z4, .int .i16 z5] X (SmallPost q3 X))
  (hQ : ∀ (w : World) (x1 x2 x3 : Nat) (v1 v2 v3 : Value), Below w0.heap.size w0 w → FB w x1 v1 q1 → FB w x2 v2 q2 → FB w x3 v3 q3 → (w0.heap.size ≤ x1 ∧ w0.heap.size ≤ x2 ∧ w0.heap.size ≤ x3 ∧ x1 ≠ x2 ∧ x1 ≠ x3 ∧ x2 ≠ x3) → Q .normal (wpF14 v3 (wpF9 v2 (wpF4 v1 (wpF17 x3 (wpF16 x2 (wpF15 x1 (sqF g z0 z1 z2 z3 z4 z5 a))))))) w)
include ha hg hgl hp h1 h2 h3 hQ
set_option maxHeartbeats 4000000 in
theorem stF3111 (w : World) (x1 x2 x3 : Nat) (v1 v2 v3 : Value) (hS : SixC g z0 z1 z2 z3 z4 z5 w) (hb : Below w0.heap.size w0 w) (r1 : ResZ x1 w) (k1 : w0.heap.size ≤ x1) (r2 : ResZ x2 w) (k2 : w0.heap.size ≤ x2) (r3 : ResZ x3 w) (k3 : w0.heap.size ≤ x3) (n12 : x1 ≠ x2) (n13 : x1 ≠ x3) (n23 : x2 ≠ x3) (f1 : Rv w v1 q1) (f2 : Rv w v2 q2) (f3 : Rv w v3 q3) :
    wpAnyH Tryz.prog .any opsF Q (SixC g z0 z1 z2 z3 z4 z5) 3 #[true, true, true, true, true, true, true, true, true, true, true, true, true, true, true, true, true, true, false, false, false] (wpF14 v3 (wpF9 v2 (wpF4 v1 (wpF17 x3 (wpF16 x2 (wpF15 x1 (sqF g z0 z1 z2 z3 z4 z5 a))))))) w := by
  have _hp := hp
  have _u1 := hg
  have _u2 := h1
  have _u3 := h2
  have _u4 := h3
  have _u5 := hgl
  obtain ⟨A1, c1, B1, d1, rfl⟩ := f1.open
  obtain ⟨A2, c2, B2, d2, rfl⟩ := f2.open
  obtain ⟨A3, c3, B3, d3, rfl⟩ := f3.open
  have g1 : g ≠ x1 := by omega
  have g2 : g ≠ x2 := by omega
  have g3 : g ≠ x3 := by omega
  obtain ⟨W1, hW1⟩ : ∃ W, W = ((w.setCell ⟨x1, 0, none⟩ (.bool (qneg q1))).setCell ⟨x1, 1, none⟩ (.slice A1 (nat q1.num.natAbs).length c1)).setCell ⟨x1, 2, none⟩ (.slice B1 (nat q1.den).length d1) := ⟨_, rfl⟩
  have hS1 : SixC g z0 z1 z2 z3 z4 z5 W1 := by subst hW1; exact hS.store3 g1 _ _ _
  refine wpAnyH_ready (rs := [18]) (by kernel_rfl) (by simp) (rdyF18 (by simp [wpF15, wpF16, wpF17, wpF4, wpF9, wpF14, sqF, eval_put, put_size, ha, hg]) (by simp [wpF15, wpF16, wpF17, wpF4, wpF9, wpF14, sqF, eval_put, put_size, ha, hg]) r1 hW1 hS1 ?_)
  have hb1 : Below w0.heap.size w0 W1 := by subst hW1; exact below_store3 hb k1 _ _ _
  have b1 : FB W1 x1 (.agg #[.bool (qneg q1), .slice A1 (nat q1.num.natAbs).length c1, .slice B1 (nat q1.den).length d1]) q1 := by subst hW1; exact ⟨_, _, rfl, Bq.storeS f1 r1.rt⟩
  replace f2 : Rv W1 (.agg #[.bool (qneg q2), .slice A2 (nat q2.num.natAbs).length c2, .slice B2 (nat q2.den).length d2]) q2 := by subst hW1; exact f2.storeR r1.rt _ _ _
  replace r2 : ResZ x2 W1 := by subst hW1; exact resz_keep r2 (by omega) _ _ _
  replace f3 : Rv W1 (.agg #[.bool (qneg q3), .slice A3 (nat q3.num.natAbs).length c3, .slice B3 (nat q3.den).length d3]) q3 := by subst hW1; exact f3.storeR r1.rt _ _ _
  replace r3 : ResZ x3 W1 := by subst hW1; exact resz_keep r3 (by omega) _ _ _
  clear hW1
  obtain ⟨W2, hW2⟩ : ∃ W, W = ((W1.setCell ⟨x2, 0, none⟩ (.bool (qneg q2))).setCell ⟨x2, 1, none⟩ (.slice A2 (nat q2.num.natAbs).length c2)).setCell ⟨x2, 2, none⟩ (.slice B2 (nat q2.den).length d2) := ⟨_, rfl⟩
  have hS2 : SixC g z0 z1 z2 z3 z4 z5 W2 := by subst hW2; exact hS1.store3 g2 _ _ _
  refine wpAnyH_ready (rs := [19]) (by kernel_rfl) (by simp) (rdyF19 (by simp [wpF15, wpF16, wpF17, wpF4, wpF9, wpF14, sqF, eval_put, put_size, ha, hg]) (by simp [wpF15, wpF16, wpF17, wpF4, wpF9, wpF14, sqF, eval_put, put_size, ha, hg]) r2 hW2 hS2 ?_)
  have hb2 : Below w0.heap.size w0 W2 := by subst hW2; exact below_store3 hb1 k2 _ _ _
  have b2 : FB W2 x2 (.agg #[.bool (qneg q2), .slice A2 (nat q2.num.natAbs).length c2, .slice B2 (nat q2.den).length d2]) q2 := by subst hW2; exact ⟨_, _, rfl, Bq.storeS f2 r2.rt⟩
  replace b1 : FB W2 x1 (.agg #[.bool (qneg q1), .slice A1 (nat q1.num.natAbs).length c1, .slice B1 (nat q1.den).length d1]) q1 := by subst hW2; exact b1.storeO r2.rt (by omega) _ _ _
  replace f3 : Rv W2 (.agg #[.bool (qneg q3), .slice A3 (nat q3.num.natAbs).length c3, .slice B3 (nat q3.den).length d3]) q3 := by subst hW2; exact f3.storeR r2.rt _ _ _
  replace r3 : ResZ x3 W2 := by subst hW2; exact resz_keep r3 (by omega) _ _ _
  clear hW2
  obtain ⟨W3, hW3⟩ : ∃ W, W = ((W2.setCell ⟨x3, 0, none⟩ (.bool (qneg q3))).setCell ⟨x3, 1, none⟩ (.slice A3 (nat q3.num.natAbs).length c3)).setCell ⟨x3, 2, none⟩ (.slice B3 (nat q3.den).length d3) := ⟨_, rfl⟩
  have hS3 : SixC g z0 z1 z2 z3 z4 z5 W3 := by subst hW3; exact hS2.store3 g3 _ _ _
  refine wpAnyH_ready (rs := [20]) (by kernel_rfl) (by simp) (rdyF20 (by simp [wpF15, wpF16, wpF17, wpF4, wpF9, wpF14, sqF, eval_put, put_size, ha, hg]) (by simp [wpF15, wpF16, wpF17, wpF4, wpF9, wpF14, sqF, eval_put, put_size, ha, hg]) r3 hW3 hS3 ?_)
  have hb3 : Below w0.heap.size w0 W3 := by subst hW3; exact below_store3 hb2 k3 _ _ _
  have b3 : FB W3 x3 (.agg #[.bool (qneg q3), .slice A3 (nat q3.num.natAbs).length c3, .slice B3 (nat q3.den).length d3]) q3 := by subst hW3; exact ⟨_, _, rfl, Bq.storeS f3 r3.rt⟩
  replace b1 : FB W3 x1 (.agg #[.bool (qneg q1), .slice A1 (nat q1.num.natAbs).length c1, .slice B1 (nat q1.den).length d1]) q1 := by subst hW3; exact b1.storeO r3.rt (by omega) _ _ _
  replace b2 : FB W3 x2 (.agg #[.bool (qneg q2), .slice A2 (nat q2.num.natAbs).length c2, .slice B2 (nat q2.den).length d2]) q2 := by subst hW3; exact b2.storeO r3.rt (by omega) _ _ _
  clear hW3
  exact wpAnyH_done (by kernel_rfl) (hQ _ _ _ _ _ _ _ hb3 b1 b2 b3 ⟨k1, k2, k3, n12, n13, n23⟩) _
theorem stF2111 (w : World) (x1 x2 x3 : Nat) (v1 v2 : Value) (hS : SixC g z0 z1 z2 z3 z4 z5 w) (hb : Below w0.heap.size w0 w) (r1 : ResZ x1 w) (k1 : w0.heap.size ≤ x1) (r2 : ResZ x2 w) (k2 : w0.heap.size ≤ x2) (r3 : ResZ x3 w) (k3 : w0.heap.size ≤ x3) (n12 : x1 ≠ x2) (n13 : x1 ≠ x3) (n23 : x2 ≠ x3) (f1 : Rv w v1 q1) (f2 : Rv w v2 q2) :
    wpAnyH Tryz.prog .any opsF Q (SixC g z0 z1 z2 z3 z4 z5) 4 #[true, true, true, true, true, true, true, true, true, true, true, true, true, true, false, true, true, true, false, false, false] (wpF9 v2 (wpF4 v1 (wpF17 x3 (wpF16 x2 (wpF15 x1 (sqF g z0 z1 z2 z3 z4 z5 a)))))) w := by
  have _hp := hp
  have _u1 := hg
  have _u2 := h1
  have _u3 := h2
  have _u4 := h3
  have _u5 := hgl
  refine wpAnyH_ready (rs := [14]) (by kernel_rfl) (by simp) (AllReadyH.cons rfl (fun K hK => ?_) AllReadyH.nil)
  · refine stpF14 (by simp [wpF15, wpF16, wpF17, wpF4, wpF9, wpF14, sqF, eval_put, put_size, ha, hg]) (by simp [wpF15, wpF16, wpF17, wpF4, wpF9, wpF14, sqF, eval_put, put_size, ha, hg]) (h3 w) (fun v3 w' hv hb' => ?_)
    refine hK.out _ _ (hS.on hb') (fun _ => ?_)
    change wpAnyH _ _ _ _ _ _ _ (wpF14 v3 (wpF9 v2 (wpF4 v1 (wpF17 x3 (wpF16 x2 (wpF15 x1 (sqF g z0 z1 z2 z3 z4 z5 a))))))) _
    exact stF3111 Q w0 a g z0 z1 z2 z3 z4 z5 q1 q2 q3 ha hg hgl hp h1 h2 h3 hQ w' x1 x2 x3 v1 v2 v3 (hS.on hb') (below_join hb hb' hb.size) (r1.on hb' r1.lt) k1 (r2.on hb' r2.lt) k2 (r3.on hb' r3.lt) k3 n12 n13 n23 (f1.on hb') (f2.on hb') hv
theorem stF3011 (w : World) (x2 x3 : Nat) (v1 v2 v3 : Value) (hS : SixC g z0 z1 z2 z3 z4 z5 w) (hb : Below w0.heap.size w0 w) (r2 : ResZ x2 w) (k2 : w0.heap.size ≤ x2) (r3 : ResZ x3 w) (k3 : w0.heap.size ≤ x3) (n23 : x2 ≠ x3) (f1 : Rv w v1 q1) (f2 : Rv w v2 q2) (f3 : Rv w v3 q3) :
    wpAnyH Tryz.prog .any opsF Q (SixC g z0 z1 z2 z3 z4 z5) 4 #[true, true, true, true, true, true, true, true, true, true, true, true, true, true, true, false, true, true, false, false, false] (wpF14 v3 (wpF9 v2 (wpF4 v1 (wpF17 x3 (wpF16 x2 (sqF g z0 z1 z2 z3 z4 z5 a)))))) w := by
  have _hp := hp
  have _u1 := hg
  have _u2 := h1
  have _u3 := h2
  have _u4 := h3
  have _u5 := hgl
  refine wpAnyH_ready (rs := [15]) (by kernel_rfl) (by simp) (AllReadyH.cons rfl (fun K hK => ?_) AllReadyH.nil)
  · refine stpF15 ?_
    refine hK.out _ _ (hS.on (alloc_below w _)) (fun _ => ?_)
    change wpAnyH _ _ _ _ _ _ _ (wpF15 w.heap.size (wpF14 v3 (wpF9 v2 (wpF4 v1 (wpF17 x3 (wpF16 x2 (sqF g z0 z1 z2 z3 z4 z5 a))))))) _
    rw [wsF15_14, wsF15_9, wsF15_4, wsF15_17, wsF15_16]
    exact stF3111 Q w0 a g z0 z1 z2 z3 z4 z5 q1 q2 q3 ha hg hgl hp h1 h2 h3 hQ (w.alloc (.cells #[.bool false, .slice none 0 0, .slice none 0 0] 25)) w.heap.size x2 x3 v1 v2 v3 (hS.on (alloc_below w _)) (below_join hb (alloc_below w _) hb.size) (resz_mk w) hb.size (r2.on (alloc_below w _) r2.lt) k2 (r3.on (alloc_below w _) r3.lt) k3 (Nat.ne_of_gt r2.lt) (Nat.ne_of_gt r3.lt) n23 (f1.on (alloc_below w _)) (f2.on (alloc_below w _)) (f3.on (alloc_below w _))
theorem stF3101 (w : World) (x1 x3 : Nat) (v1 v2 v3 : Value) (hS : SixC g z0 z1 z2 z3 z4 z5 w) (hb : Below w0.heap.size w0 w) (r1 : ResZ x1 w) (k1 : w0.heap.size ≤ x1) (r3 : ResZ x3 w) (k3 : w0.heap.size ≤ x3) (n13 : x1 ≠ x3) (f1 : Rv w v1 q1) (f2 : Rv w v2 q2) (f3 : Rv w v3 q3) :
    wpAnyH Tryz.prog .any opsF Q (SixC g z0 z1 z2 z3 z4 z5) 4 #[true, true, true, true, true, true, true, true, true, true, true, true, true, true, true, true, false, true, false, false, false] (wpF14 v3 (wpF9 v2 (wpF4 v1 (wpF17 x3 (wpF15 x1 (sqF g z0 z1 z2 z3 z4 z5 a)))))) w := by
  have _hp := hp
  have _u1 := hg
  have _u2 := h1
  have _u3 := h2
  have _u4 := h3
  have _u5 := hgl
  refine wpAnyH_ready (rs := [16]) (by kernel_rfl) (by simp) (AllReadyH.cons rfl (fun K hK => ?_) AllReadyH.nil)
  · refine stpF16 ?_
    refine hK.out _ _ (hS.on (alloc_below w _)) (fun _ => ?_)
    change wpAnyH _ _ _ _ _ _ _ (wpF16 w.heap.size (wpF14 v3 (wpF9 v2 (wpF4 v1 (wpF17 x3 (wpF15 x1 (sqF g z0 z1 z2 z3 z4 z5 a))))))) _
    rw [wsF16_14, wsF16_9, wsF16_4, wsF16_17]
    exact stF3111 Q w0 a g z0 z1 z2 z3 z4 z5 q1 q2 q3 ha hg hgl hp h1 h2 h3 hQ (w.alloc (.cells #[.bool false, .slice none 0 0, .slice none 0 0] 25)) x1 w.heap.size x3 v1 v2 v3 (hS.on (alloc_below w _)) (below_join hb (alloc_below w _) hb.size) (r1.on (alloc_below w _) r1.lt) k1 (resz_mk w) hb.size (r3.on (alloc_below w _) r3.lt) k3 (Nat.ne_of_lt r1.lt) n13 (Nat.ne_of_gt r3.lt) (f1.on (alloc_below w _)) (f2.on (alloc_below w _)) (f3.on (alloc_below w _))
theorem stF3110 (w : World) (x1 x2 : Nat) (v1 v2 v3 : Value) (hS : SixC g z0 z1 z2 z3 z4 z5 w) (hb : Below w0.heap.size w0 w) (r1 : ResZ x1 w) (k1 : w0.heap.size ≤ x1) (r2 : ResZ x2 w) (k2 : w0.heap.size ≤ x2) (n12 : x1 ≠ x2) (f1 : Rv w v1 q1) (f2 : Rv w v2 q2) (f3 : Rv w v3 q3) :
    wpAnyH Tryz.prog .any opsF Q (SixC g z0 z1 z2 z3 z4 z5) 4 #[true, true, true, true, true, true, true, true, true, true, true, true, true, true, true, true, true, false, false, false, false] (wpF14 v3 (wpF9 v2 (wpF4 v1 (wpF16 x2 (wpF15 x1 (sqF g z0 z1 z2 z3 z4 z5 a)))))) w := by
  have _hp := hp
  have _u1 := hg
  have _u2 := h1
  have _u3 := h2
  have _u4 := h3
  have _u5 := hgl
  refine wpAnyH_ready (rs := [17]) (by kernel_rfl) (by simp) (AllReadyH.cons rfl (fun K hK => ?_) AllReadyH.nil)
  · refine stpF17 ?_
    refine hK.out _ _ (hS.on (alloc_below w _)) (fun _ => ?_)
    change wpAnyH _ _ _ _ _ _ _ (wpF17 w.heap.size (wpF14 v3 (wpF9 v2 (wpF4 v1 (wpF16 x2 (wpF15 x1 (sqF g z0 z1 z2 z3 z4 z5 a))))))) _
    rw [wsF17_14, wsF17_9, wsF17_4]
    exact stF3111 Q w0 a g z0 z1 z2 z3 z4 z5 q1 q2 q3 ha hg hgl hp h1 h2 h3 hQ (w.alloc (.cells #[.bool false, .slice none 0 0, .slice none 0 0] 25)) x1 x2 w.heap.size v1 v2 v3 (hS.on (alloc_below w _)) (below_join hb (alloc_below w _) hb.size) (r1.on (alloc_below w _) r1.lt) k1 (r2.on (alloc_below w _) r2.lt) k2 (resz_mk w) hb.size n12 (Nat.ne_of_lt r1.lt) (Nat.ne_of_lt r2.lt) (f1.on (alloc_below w _)) (f2.on (alloc_below w _)) (f3.on (alloc_below w _))
theorem stF1111 (w : World) (x1 x2 x3 : Nat) (v1 : Value) (hS : SixC g z0 z1 z2 z3 z4 z5 w) (hb : Below w0.heap.size w0 w) (r1 : ResZ x1 w) (k1 : w0.heap.size ≤ x1) (r2 : ResZ x2 w) (k2 : w0.heap.size ≤ x2) (r3 : ResZ x3 w) (k3 : w0.heap.size ≤ x3) (n12 : x1 ≠ x2) (n13 : x1 ≠ x3) (n23 : x2 ≠ x3) (f1 : Rv w v1 q1) :
    wpAnyH Tryz.prog .any opsF Q (SixC g z0 z1 z2 z3 z4 z5) 5 #[true, true, true, true, true, true, true, true, true, false, true, true, true, true, false, true, true, true, false, false, false] (wpF4 v1 (wpF17 x3 (wpF16 x2 (wpF15 x1 (sqF g z0 z1 z2 z3 z4 z5 a))))) w := by
  have _hp := hp
  have _u1 := hg
  have _u2 := h1
  have _u3 := h2
  have _u4 := h3
  have _u5 := hgl
  refine wpAnyH_ready (rs := [9]) (by kernel_rfl) (by simp) (AllReadyH.cons rfl (fun K hK => ?_) AllReadyH.nil)
  · refine stpF9 (by simp [wpF15, wpF16, wpF17, wpF4, wpF9, wpF14, sqF, eval_put, put_size, ha, hg]) (by simp [wpF15, wpF16, wpF17, wpF4, wpF9, wpF14, sqF, eval_put, put_size, ha, hg]) (h2 w) (fun v2 w' hv hb' => ?_)
    refine hK.out _ _ (hS.on hb') (fun _ => ?_)
    change wpAnyH _ _ _ _ _ _ _ (wpF9 v2 (wpF4 v1 (wpF17 x3 (wpF16 x2 (wpF15 x1 (sqF g z0 z1 z2 z3 z4 z5 a)))))) _
    exact stF2111 Q w0 a g z0 z1 z2 z3 z4 z5 q1 q2 q3 ha hg hgl hp h1 h2 h3 hQ w' x1 x2 x3 v1 v2 (hS.on hb') (below_join hb hb' hb.size) (r1.on hb' r1.lt) k1 (r2.on hb' r2.lt) k2 (r3.on hb' r3.lt) k3 n12 n13 n23 (f1.on hb') hv
theorem stF2011 (w : World) (x2 x3 : Nat) (v1 v2 : Value) (hS : SixC g z0 z1 z2 z3 z4 z5 w) (hb : Below w0.heap.size w0 w) (r2 : ResZ x2 w) (k2 : w0.heap.size ≤ x2) (r3 : ResZ x3 w) (k3 : w0.heap.size ≤ x3) (n23 : x2 ≠ x3) (f1 : Rv w v1 q1) (f2 : Rv w v2 q2) :
    wpAnyH Tryz.prog .any opsF Q (SixC g z0 z1 z2 z3 z4 z5) 5 #[true, true, true, true, true, true, true, true, true, true, true, true, true, true, false, false, true, true, false, false, false] (wpF9 v2 (wpF4 v1 (wpF17 x3 (wpF16 x2 (sqF g z0 z1 z2 z3 z4 z5 a))))) w := by
  have _hp := hp
  have _u1 := hg
  have _u2 := h1
  have _u3 := h2
  have _u4 := h3
  have _u5 := hgl
  refine wpAnyH_ready (rs := [14, 15]) (by kernel_rfl) (by simp) (AllReadyH.cons rfl (fun K hK => ?_) (AllReadyH.cons rfl (fun K hK => ?_) AllReadyH.nil))
  · refine stpF14 (by simp [wpF15, wpF16, wpF17, wpF4, wpF9, wpF14, sqF, eval_put, put_size, ha, hg]) (by simp [wpF15, wpF16, wpF17, wpF4, wpF9, wpF14, sqF, eval_put, put_size, ha, hg]) (h3 w) (fun v3 w' hv hb' => ?_)
    refine hK.out _ _ (hS.on hb') (fun _ => ?_)
    change wpAnyH _ _ _ _ _ _ _ (wpF14 v3 (wpF9 v2 (wpF4 v1 (wpF17 x3 (wpF16 x2 (sqF g z0 z1 z2 z3 z4 z5 a)))))) _
    exact stF3011 Q w0 a g z0 z1 z2 z3 z4 z5 q1 q2 q3 ha hg hgl hp h1 h2 h3 hQ w' x2 x3 v1 v2 v3 (hS.on hb') (below_join hb hb' hb.size) (r2.on hb' r2.lt) k2 (r3.on hb' r3.lt) k3 n23 (f1.on hb') (f2.on hb') hv
  · refine stpF15 ?_
    refine hK.out _ _ (hS.on (alloc_below w _)) (fun _ => ?_)
    change wpAnyH _ _ _ _ _ _ _ (wpF15 w.heap.size (wpF9 v2 (wpF4 v1 (wpF17 x3 (wpF16 x2 (sqF g z0 z1 z2 z3 z4 z5 a)))))) _
    rw [wsF15_9, wsF15_4, wsF15_17, wsF15_16]
    exact stF2111 Q w0 a g z0 z1 z2 z3 z4 z5 q1 q2 q3 ha hg hgl hp h1 h2 h3 hQ (w.alloc (.cells #[.bool false, .slice none 0 0, .slice none 0 0] 25)) w.heap.size x2 x3 v1 v2 (hS.on (alloc_below w _)) (below_join hb (alloc_below w _) hb.size) (resz_mk w) hb.size (r2.on (alloc_below w _) r2.lt) k2 (r3.on (alloc_below w _) r3.lt) k3 (Nat.ne_of_gt r2.lt) (Nat.ne_of_gt r3.lt) n23 (f1.on (alloc_below w _)) (f2.on (alloc_below w _))
theorem stF2101 (w : World) (x1 x3 : Nat) (v1 v2 : Value) (hS : SixC g z0 z1 z2 z3 z4 z5 w) (hb : Below w0.heap.size w0 w) (r1 : ResZ x1 w) (k1 : w0.heap.size ≤ x1) (r3 : ResZ x3 w) (k3 : w0.heap.size ≤ x3) (n13 : x1 ≠ x3) (f1 : Rv w v1 q1) (f2 : Rv w v2 q2) :
    wpAnyH Tryz.prog .any opsF Q (SixC g z0 z1 z2 z3 z4 z5) 5 #[true, true, true, true, true, true, true, true, true, true, true, true, true, true, false, true, false, true, false, false, false] (wpF9 v2 (wpF4 v1 (wpF17 x3 (wpF15 x1 (sqF g z0 z1 z2 z3 z4 z5 a))))) w := by
  have _hp := hp
  have _u1 := hg
  have _u2 := h1
  have _u3 := h2
  have _u4 := h3
  have _u5 := hgl
  refine wpAnyH_ready (rs := [14, 16]) (by kernel_rfl) (by simp) (AllReadyH.cons rfl (fun K hK => ?_) (AllReadyH.cons rfl (fun K hK => ?_) AllReadyH.nil))
  · refine stpF14 (by simp [wpF15, wpF16, wpF17, wpF4, wpF9, wpF14, sqF, eval_put, put_size, ha, hg]) (by simp [wpF15, wpF16, wpF17, wpF4, wpF9, wpF14, sqF, eval_put, put_size, ha, hg]) (h3 w) (fun v3 w' hv hb' => ?_)
    refine hK.out _ _ (hS.on hb') (fun _ => ?_)
    change wpAnyH _ _ _ _ _ _ _ (wpF14 v3 (wpF9 v2 (wpF4 v1 (wpF17 x3 (wpF15 x1 (sqF g z0 z1 z2 z3 z4 z5 a)))))) _
    exact stF3101 Q w0 a g z0 z1 z2 z3 z4 z5 q1 q2 q3 ha hg hgl hp h1 h2 h3 hQ w' x1 x3 v1 v2 v3 (hS.on hb') (below_join hb hb' hb.size) (r1.on hb' r1.lt) k1 (r3.on hb' r3.lt) k3 n13 (f1.on hb') (f2.on hb') hv
  · refine stpF16 ?_
    refine hK.out _ _ (hS.on (alloc_below w _)) (fun _ => ?_)
    change wpAnyH _ _ _ _ _ _ _ (wpF16 w.heap.size (wpF9 v2 (wpF4 v1 (wpF17 x3 (wpF15 x1 (sqF g z0 z1 z2 z3 z4 z5 a)))))) _
    rw [wsF16_9, wsF16_4, wsF16_17]
    exact stF2111 Q w0 a g z0 z1 z2 z3 z4 z5 q1 q2 q3 ha hg hgl hp h1 h2 h3 hQ (w.alloc (.cells #[.bool false, .slice none 0 0, .slice none 0 0] 25)) x1 w.heap.size x3 v1 v2 (hS.on (alloc_below w _)) (below_join hb (alloc_below w _) hb.size) (r1.on (alloc_below w _) r1.lt) k1 (resz_mk w) hb.size (r3.on (alloc_below w _) r3.lt) k3 (Nat.ne_of_lt r1.lt) n13 (Nat.ne_of_gt r3.lt) (f1.on (alloc_below w _)) (f2.on (alloc_below w _))
theorem stF2110 (w : World) (x1 x2 : Nat) (v1 v2 : Value) (hS : SixC g z0 z1 z2 z3 z4 z5 w) (hb : Below w0.heap.size w0 w) (r1 : ResZ x1 w) (k1 : w0.heap.size ≤ x1) (r2 : ResZ x2 w) (k2 : w0.heap.size ≤ x2) (n12 : x1 ≠ x2) (f1 : Rv w v1 q1) (f2 : Rv w v2 q2) :
    wpAnyH Tryz.prog .any opsF Q (SixC g z0 z1 z2 z3 z4 z5) 5 #[true, true, true, true, true, true, true, true, true, true, true, true, true, true, false, true, true, false, false, false, false] (wpF9 v2 (wpF4 v1 (wpF16 x2 (wpF15 x1 (sqF g z0 z1 z2 z3 z4 z5 a))))) w := by
  have _hp := hp
  have _u1 := hg
  have _u2 := h1
  have _u3 := h2
  have _u4 := h3
  have _u5 := hgl
  refine wpAnyH_ready (rs := [14, 17]) (by kernel_rfl) (by simp) (AllReadyH.cons rfl (fun K hK => ?_) (AllReadyH.cons rfl (fun K hK => ?_) AllReadyH.nil))
  · refine stpF14 (by simp [wpF15, wpF16, wpF17, wpF4, wpF9, wpF14, sqF, eval_put, put_size, ha, hg]) (by simp [wpF15, wpF16, wpF17, wpF4, wpF9, wpF14, sqF, eval_put, put_size, ha, hg]) (h3 w) (fun v3 w' hv hb' => ?_)
    refine hK.out _ _ (hS.on hb') (fun _ => ?_)
    change wpAnyH _ _ _ _ _ _ _ (wpF14 v3 (wpF9 v2 (wpF4 v1 (wpF16 x2 (wpF15 x1 (sqF g z0 z1 z2 z3 z4 z5 a)))))) _
    exact stF3110 Q w0 a g z0 z1 z2 z3 z4 z5 q1 q2 q3 ha hg hgl hp h1 h2 h3 hQ w' x1 x2 v1 v2 v3 (hS.on hb') (below_join hb hb' hb.size) (r1.on hb' r1.lt) k1 (r2.on hb' r2.lt) k2 n12 (f1.on hb') (f2.on hb') hv
  · refine stpF17 ?_
    refine hK.out _ _ (hS.on (alloc_below w _)) (fun _ => ?_)
    change wpAnyH _ _ _ _ _ _ _ (wpF17 w.heap.size (wpF9 v2 (wpF4 v1 (wpF16 x2 (wpF15 x1 (sqF g z0 z1 z2 z3 z4 z5 a)))))) _
    rw [wsF17_9, wsF17_4]
    exact stF2111 Q w0 a g z0 z1 z2 z3 z4 z5 q1 q2 q3 ha hg hgl hp h1 h2 h3 hQ (w.alloc (.cells #[.bool false, .slice none 0 0, .slice none 0 0] 25)) x1 x2 w.heap.size v1 v2 (hS.on (alloc_below w _)) (below_join hb (alloc_below w _) hb.size) (r1.on (alloc_below w _) r1.lt) k1 (r2.on (alloc_below w _) r2.lt) k2 (resz_mk w) hb.size n12 (Nat.ne_of_lt r1.lt) (Nat.ne_of_lt r2.lt) (f1.on (alloc_below w _)) (f2.on (alloc_below w _))
theorem stF3001 (w : World) (x3 : Nat) (v1 v2 v3 : Value) (hS : SixC g z0 z1 z2 z3 z4 z5 w) (hb : Below w0.heap.size w0 w) (r3 : ResZ x3 w) (k3 : w0.heap.size ≤ x3) (f1 : Rv w v1 q1) (f2 : Rv w v2 q2) (f3 : Rv w v3 q3) :
    wpAnyH Tryz.prog .any opsF Q (SixC g z0 z1 z2 z3 z4 z5) 5 #[true, true, true, true, true, true, true, true, true, true, true, true, true, true, true, false, false, true, false, false, false] (wpF14 v3 (wpF9 v2 (wpF4 v1 (wpF17 x3 (sqF g z0 z1 z2 z3 z4 z5 a))))) w := by
  have _hp := hp
  have _u1 := hg
  have _u2 := h1
  have _u3 := h2
  have _u4 := h3
  have _u5 := hgl
  refine wpAnyH_ready (rs := [15, 16]) (by kernel_rfl) (by simp) (AllReadyH.cons rfl (fun K hK => ?_) (AllReadyH.cons rfl (fun K hK => ?_) AllReadyH.nil))
  · refine stpF15 ?_
    refine hK.out _ _ (hS.on (alloc_below w _)) (fun _ => ?_)
    change wpAnyH _ _ _ _ _ _ _ (wpF15 w.heap.size (wpF14 v3 (wpF9 v2 (wpF4 v1 (wpF17 x3 (sqF g z0 z1 z2 z3 z4 z5 a)))))) _
    rw [wsF15_14, wsF15_9, wsF15_4, wsF15_17]
    exact stF3101 Q w0 a g z0 z1 z2 z3 z4 z5 q1 q2 q3 ha hg hgl hp h1 h2 h3 hQ (w.alloc (.cells #[.bool false, .slice none 0 0, .slice none 0 0] 25)) w.heap.size x3 v1 v2 v3 (hS.on (alloc_below w _)) (below_join hb (alloc_below w _) hb.size) (resz_mk w) hb.size (r3.on (alloc_below w _) r3.lt) k3 (Nat.ne_of_gt r3.lt) (f1.on (alloc_below w _)) (f2.on (alloc_below w _)) (f3.on (alloc_below w _))
  · refine stpF16 ?_
    refine hK.out _ _ (hS.on (alloc_below w _)) (fun _ => ?_)
    change wpAnyH _ _ _ _ _ _ _ (wpF16 w.heap.size (wpF14 v3 (wpF9 v2 (wpF4 v1 (wpF17 x3 (sqF g z0 z1 z2 z3 z4 z5 a)))))) _
    rw [wsF16_14, wsF16_9, wsF16_4, wsF16_17]
    exact stF3011 Q w0 a g z0 z1 z2 z3 z4 z5 q1 q2 q3 ha hg hgl hp h1 h2 h3 hQ (w.alloc (.cells #[.bool false, .slice none 0 0, .slice none 0 0] 25)) w.heap.size x3 v1 v2 v3 (hS.on (alloc_below w _)) (below_join hb (alloc_below w _) hb.size) (resz_mk w) hb.size (r3.on (alloc_below w _) r3.lt) k3 (Nat.ne_of_gt r3.lt) (f1.on (alloc_below w _)) (f2.on (alloc_below w _)) (f3.on (alloc_below w _))
theorem stF3010 (w : World) (x2 : Nat) (v1 v2 v3 : Value) (hS : SixC g z0 z1 z2 z3 z4 z5 w) (hb : Below w0.heap.size w0 w) (r2 : ResZ x2 w) (k2 : w0.heap.size ≤ x2) (f1 : Rv w v1 q1) (f2 : Rv w v2 q2) (f3 : Rv w v3 q3) :
    wpAnyH Tryz.prog .any opsF Q (SixC g z0 z1 z2 z3 z4 z5) 5 #[true, true, true, true, true, true, true, true, true, true, true, true, true, true, true, false, true, false, false, false, false] (wpF14 v3 (wpF9 v2 (wpF4 v1 (wpF16 x2 (sqF g z0 z1 z2 z3 z4 z5 a))))) w := by
  have _hp := hp
  have _u1 := hg
  have _u2 := h1
  have _u3 := h2
  have _u4 := h3
  have _u5 := hgl
  refine wpAnyH_ready (rs := [15, 17]) (by kernel_rfl) (by simp) (AllReadyH.cons rfl (fun K hK => ?_) (AllReadyH.cons rfl (fun K hK => ?_) AllReadyH.nil))
  · refine stpF15 ?_
    refine hK.out _ _ (hS.on (alloc_below w _)) (fun _ => ?_)
    change wpAnyH _ _ _ _ _ _ _ (wpF15 w.heap.size (wpF14 v3 (wpF9 v2 (wpF4 v1 (wpF16 x2 (sqF g z0 z1 z2 z3 z4 z5 a)))))) _
    rw [wsF15_14, wsF15_9, wsF15_4, wsF15_16]
    exact stF3110 Q w0 a g z0 z1 z2 z3 z4 z5 q1 q2 q3 ha hg hgl hp h1 h2 h3 hQ (w.alloc (.cells #[.bool false, .slice none 0 0, .slice none 0 0] 25)) w.heap.size x2 v1 v2 v3 (hS.on (alloc_below w _)) (below_join hb (alloc_below w _) hb.size) (resz_mk w) hb.size (r2.on (alloc_below w _) r2.lt) k2 (Nat.ne_of_gt r2.lt) (f1.on (alloc_below w _)) (f2.on (alloc_below w _)) (f3.on (alloc_below w _))
  · refine stpF17 ?_
    refine hK.out _ _ (hS.on (alloc_below w _)) (fun _ => ?_)
    change wpAnyH _ _ _ _ _ _ _ (wpF17 w.heap.size (wpF14 v3 (wpF9 v2 (wpF4 v1 (wpF16 x2 (sqF g z0 z1 z2 z3 z4 z5 a)))))) _
    rw [wsF17_14, wsF17_9, wsF17_4]
    exact stF3011 Q w0 a g z0 z1 z2 z3 z4 z5 q1 q2 q3 ha hg hgl hp h1 h2 h3 hQ (w.alloc (.cells #[.bool false, .slice none 0 0, .slice none 0 0] 25)) x2 w.heap.size v1 v2 v3 (hS.on (alloc_below w _)) (below_join hb (alloc_below w _) hb.size) (r2.on (alloc_below w _) r2.lt) k2 (resz_mk w) hb.size (Nat.ne_of_lt r2.lt) (f1.on (alloc_below w _)) (f2.on (alloc_below w _)) (f3.on (alloc_below w _))
theorem stF3100 (w : World) (x1 : Nat) (v1 v2 v3 : Value) (hS : SixC g z0 z1 z2 z3 z4 z5 w) (hb : Below w0.heap.size w0 w) (r1 : ResZ x1 w) (k1 : w0.heap.size ≤ x1) (f1 : Rv w v1 q1) (f2 : Rv w v2 q2) (f3 : Rv w v3 q3) :
    wpAnyH Tryz.prog .any opsF Q (SixC g z0 z1 z2 z3 z4 z5) 5 #[true, true, true, true, true, true, true, true, true, true, true, true, true, true, true, true, false, false, false, false, false] (wpF14 v3 (wpF9 v2 (wpF4 v1 (wpF15 x1 (sqF g z0 z1 z2 z3 z4 z5 a))))) w := by
  have _hp := hp
  have _u1 := hg
  have _u2 := h1
  have _u3 := h2
  have _u4 := h3
  have _u5 := hgl
  refine wpAnyH_ready (rs := [16, 17]) (by kernel_rfl) (by simp) (AllReadyH.cons rfl (fun K hK => ?_) (AllReadyH.cons rfl (fun K hK => ?_) AllReadyH.nil))
  · refine stpF16 ?_
    refine hK.out _ _ (hS.on (alloc_below w _)) (fun _ => ?_)
    change wpAnyH _ _ _ _ _ _ _ (wpF16 w.heap.size (wpF14 v3 (wpF9 v2 (wpF4 v1 (wpF15 x1 (sqF g z0 z1 z2 z3 z4 z5 a)))))) _
    rw [wsF16_14, wsF16_9, wsF16_4]
    exact stF3110 Q w0 a g z0 z1 z2 z3 z4 z5 q1 q2 q3 ha hg hgl hp h1 h2 h3 hQ (w.alloc (.cells #[.bool false, .slice none 0 0, .slice none 0 0] 25)) x1 w.heap.size v1 v2 v3 (hS.on (alloc_below w _)) (below_join hb (alloc_below w _) hb.size) (r1.on (alloc_below w _) r1.lt) k1 (resz_mk w) hb.size (Nat.ne_of_lt r1.lt) (f1.on (alloc_below w _)) (f2.on (alloc_below w _)) (f3.on (alloc_below w _))
  · refine stpF17 ?_
    refine hK.out _ _ (hS.on (alloc_below w _)) (fun _ => ?_)
    change wpAnyH _ _ _ _ _ _ _ (wpF17 w.heap.size (wpF14 v3 (wpF9 v2 (wpF4 v1 (wpF15 x1 (sqF g z0 z1 z2 z3 z4 z5 a)))))) _
    rw [wsF17_14, wsF17_9, wsF17_4]
    exact stF3101 Q w0 a g z0 z1 z2 z3 z4 z5 q1 q2 q3 ha hg hgl hp h1 h2 h3 hQ (w.alloc (.cells #[.bool false, .slice none 0 0, .slice none 0 0] 25)) x1 w.heap.size v1 v2 v3 (hS.on (alloc_below w _)) (below_join hb (alloc_below w _) hb.size) (r1.on (alloc_below w _) r1.lt) k1 (resz_mk w) hb.size (Nat.ne_of_lt r1.lt) (f1.on (alloc_below w _)) (f2.on (alloc_below w _)) (f3.on (alloc_below w _))
theorem stF0111 (w : World) (x1 x2 x3 : Nat) (hS : SixC g z0 z1 z2 z3 z4 z5 w) (hb : Below w0.heap.size w0 w) (r1 : ResZ x1 w) (k1 : w0.heap.size ≤ x1) (r2 : ResZ x2 w) (k2 : w0.heap.size ≤ x2) (r3 : ResZ x3 w) (k3 : w0.heap.size ≤ x3) (n12 : x1 ≠ x2) (n13 : x1 ≠ x3) (n23 : x2 ≠ x3) :
    wpAnyH Tryz.prog .any opsF Q (SixC g z0 z1 z2 z3 z4 z5) 6 #[true, true, true, true, false, true, true, true, true, false, true, true, true, true, false, true, true, true, false, false, false] (wpF17 x3 (wpF16 x2 (wpF15 x1 (sqF g z0 z1 z2 z3 z4 z5 a)))) w := by
  have _hp := hp
  have _u1 := hg
  have _u2 := h1
  have _u3 := h2
  have _u4 := h3
  have _u5 := hgl
  refine wpAnyH_ready (rs := [4]) (by kernel_rfl) (by simp) (AllReadyH.cons rfl (fun K hK => ?_) AllReadyH.nil)
  · refine stpF4 (by simp [wpF15, wpF16, wpF17, wpF4, wpF9, wpF14, sqF, eval_put, put_size, ha, hg]) (by simp [wpF15, wpF16, wpF17, wpF4, wpF9, wpF14, sqF, eval_put, put_size, ha, hg]) (h1 w) (fun v1 w' hv hb' => ?_)
    refine hK.out _ _ (hS.on hb') (fun _ => ?_)
    change wpAnyH _ _ _ _ _ _ _ (wpF4 v1 (wpF17 x3 (wpF16 x2 (wpF15 x1 (sqF g z0 z1 z2 z3 z4 z5 a))))) _
    exact stF1111 Q w0 a g z0 z1 z2 z3 z4 z5 q1 q2 q3 ha hg hgl hp h1 h2 h3 hQ w' x1 x2 x3 v1 (hS.on hb') (below_join hb hb' hb.size) (r1.on hb' r1.lt) k1 (r2.on hb' r2.lt) k2 (r3.on hb' r3.lt) k3 n12 n13 n23 hv
theorem stF1011 (w : World) (x2 x3 : Nat) (v1 : Value) (hS : SixC g z0 z1 z2 z3 z4 z5 w) (hb : Below w0.heap.size w0 w) (r2 : ResZ x2 w) (k2 : w0.heap.size ≤ x2) (r3 : ResZ x3 w) (k3 : w0.heap.size ≤ x3) (n23 : x2 ≠ x3) (f1 : Rv w v1 q1) :
    wpAnyH Tryz.prog .any opsF Q (SixC g z0 z1 z2 z3 z4 z5) 6 #[true, true, true, true, true, true, true, true, true, false, true, true, true, true, false, false, true, true, false, false, false] (wpF4 v1 (wpF17 x3 (wpF16 x2 (sqF g z0 z1 z2 z3 z4 z5 a)))) w := by
  have _hp := hp
  have _u1 := hg
  have _u2 := h1
  have _u3 := h2
  have _u4 := h3
  have _u5 := hgl
  refine wpAnyH_ready (rs := [9, 15]) (by kernel_rfl) (by simp) (AllReadyH.cons rfl (fun K hK => ?_) (AllReadyH.cons rfl (fun K hK => ?_) AllReadyH.nil))
  · refine stpF9 (by simp [wpF15, wpF16, wpF17, wpF4, wpF9, wpF14, sqF, eval_put, put_size, ha, hg]) (by simp [wpF15, wpF16, wpF17, wpF4, wpF9, wpF14, sqF, eval_put, put_size, ha, hg]) (h2 w) (fun v2 w' hv hb' => ?_)
    refine hK.out _ _ (hS.on hb') (fun _ => ?_)
    change wpAnyH _ _ _ _ _ _ _ (wpF9 v2 (wpF4 v1 (wpF17 x3 (wpF16 x2 (sqF g z0 z1 z2 z3 z4 z5 a))))) _
    exact stF2011 Q w0 a g z0 z1 z2 z3 z4 z5 q1 q2 q3 ha hg hgl hp h1 h2 h3 hQ w' x2 x3 v1 v2 (hS.on hb') (below_join hb hb' hb.size) (r2.on hb' r2.lt) k2 (r3.on hb' r3.lt) k3 n23 (f1.on hb') hv
  · refine stpF15 ?_
    refine hK.out _ _ (hS.on (alloc_below w _)) (fun _ => ?_)
    change wpAnyH _ _ _ _ _ _ _ (wpF15 w.heap.size (wpF4 v1 (wpF17 x3 (wpF16 x2 (sqF g z0 z1 z2 z3 z4 z5 a))))) _
    rw [wsF15_4, wsF15_17, wsF15_16]
    exact stF1111 Q w0 a g z0 z1 z2 z3 z4 z5 q1 q2 q3 ha hg hgl hp h1 h2 h3 hQ (w.alloc (.cells #[.bool false, .slice none 0 0, .slice none 0 0] 25)) w.heap.size x2 x3 v1 (hS.on (alloc_below w _)) (below_join hb (alloc_below w _) hb.size) (resz_mk w) hb.size (r2.on (alloc_below w _) r2.lt) k2 (r3.on (alloc_below w _) r3.lt) k3 (Nat.ne_of_gt r2.lt) (Nat.ne_of_gt r3.lt) n23 (f1.on (alloc_below w _))
theorem stF1101 (w : World) (x1 x3 : Nat) (v1 : Value) (hS : SixC g z0 z1 z2 z3 z4 z5 w) (hb : Below w0.heap.size w0 w) (r1 : ResZ x1 w) (k1 : w0.heap.size ≤ x1) (r3 : ResZ x3 w) (k3 : w0.heap.size ≤ x3) (n13 : x1 ≠ x3) (f1 : Rv w v1 q1) :
    wpAnyH Tryz.prog .any opsF Q (SixC g z0 z1 z2 z3 z4 z5) 6 #[true, true, true, true, true, true, true, true, true, false, true, true, true, true, false, true, false, true, false, false, false] (wpF4 v1 (wpF17 x3 (wpF15 x1 (sqF g z0 z1 z2 z3 z4 z5 a)))) w := by
  have _hp := hp
  have _u1 := hg
  have _u2 := h1
  have _u3 := h2
  have _u4 := h3
  have _u5 := hgl
  refine wpAnyH_ready (rs := [9, 16]) (by kernel_rfl) (by simp) (AllReadyH.cons rfl (fun K hK => ?_) (AllReadyH.cons rfl (fun K hK => ?_) AllReadyH.nil))
  · refine stpF9 (by simp [wpF15, wpF16, wpF17, wpF4, wpF9, wpF14, sqF, eval_put, put_size, ha, hg]) (by simp [wpF15, wpF16, wpF17, wpF4, wpF9, wpF14, sqF, eval_put, put_size, ha, hg]) (h2 w) (fun v2 w' hv hb' => ?_)
    refine hK.out _ _ (hS.on hb') (fun _ => ?_)
    change wpAnyH _ _ _ _ _ _ _ (wpF9 v2 (wpF4 v1 (wpF17 x3 (wpF15 x1 (sqF g z0 z1 z2 z3 z4 z5 a))))) _
    exact stF2101 Q w0 a g z0 z1 z2 z3 z4 z5 q1 q2 q3 ha hg hgl hp h1 h2 h3 hQ w' x1 x3 v1 v2 (hS.on hb') (below_join hb hb' hb.size) (r1.on hb' r1.lt) k1 (r3.on hb' r3.lt) k3 n13 (f1.on hb') hv
  · refine stpF16 ?_
    refine hK.out _ _ (hS.on (alloc_below w _)) (fun _ => ?_)
    change wpAnyH _ _ _ _ _ _ _ (wpF16 w.heap.size (wpF4 v1 (wpF17 x3 (wpF15 x1 (sqF g z0 z1 z2 z3 z4 z5 a))))) _
    rw [wsF16_4, wsF16_17]
    exact stF1111 Q w0 a g z0 z1 z2 z3 z4 z5 q1 q2 q3 ha hg hgl hp h1 h2 h3 hQ (w.alloc (.cells #[.bool false, .slice none 0 0, .slice none 0 0] 25)) x1 w.heap.size x3 v1 (hS.on (alloc_below w _)) (below_join hb (alloc_below w _) hb.size) (r1.on (alloc_below w _) r1.lt) k1 (resz_mk w) hb.size (r3.on (alloc_below w _) r3.lt) k3 (Nat.ne_of_lt r1.lt) n13 (Nat.ne_of_gt r3.lt) (f1.on (alloc_below w _))
theorem stF1110 (w : World) (x1 x2 : Nat) (v1 : Value) (hS : SixC g z0 z1 z2 z3 z4 z5 w) (hb : Below w0.heap.size w0 w) (r1 : ResZ x1 w) (k1 : w0.heap.size ≤ x1) (r2 : ResZ x2 w) (k2 : w0.heap.size ≤ x2) (n12 : x1 ≠ x2) (f1 : Rv w v1 q1) :
    wpAnyH Tryz.prog .any opsF Q (SixC g z0 z1 z2 z3 z4 z5) 6 #[true, true, true, true, true, true, true, true, true, false, true, true, true, true, false, true, true, false, false, false, false] (wpF4 v1 (wpF16 x2 (wpF15 x1 (sqF g z0 z1 z2 z3 z4 z5 a)))) w := by
  have _hp := hp
  have _u1 := hg
  have _u2 := h1
  have _u3 := h2
  have _u4 := h3
  have _u5 := hgl
  refine wpAnyH_ready (rs := [9, 17]) (by kernel_rfl) (by simp) (AllReadyH.cons rfl (fun K hK => ?_) (AllReadyH.cons rfl (fun K hK => ?_) AllReadyH.nil))
  · refine stpF9 (by simp [wpF15, wpF16, wpF17, wpF4, wpF9, wpF14, sqF, eval_put, put_size, ha, hg]) (by simp [wpF15, wpF16, wpF17, wpF4, wpF9, wpF14, sqF, eval_put, put_size, ha, hg]) (h2 w) (fun v2 w' hv hb' => ?_)
    refine hK.out _ _ (hS.on hb') (fun _ => ?_)
    change wpAnyH _ _ _ _ _ _ _ (wpF9 v2 (wpF4 v1 (wpF16 x2 (wpF15 x1 (sqF g z0 z1 z2 z3 z4 z5 a))))) _
    exact stF2110 Q w0 a g z0 z1 z2 z3 z4 z5 q1 q2 q3 ha hg hgl hp h1 h2 h3 hQ w' x1 x2 v1 v2 (hS.on hb') (below_join hb hb' hb.size) (r1.on hb' r1.lt) k1 (r2.on hb' r2.lt) k2 n12 (f1.on hb') hv
  · refine stpF17 ?_
    refine hK.out _ _ (hS.on (alloc_below w _)) (fun _ => ?_)
    change wpAnyH _ _ _ _ _ _ _ (wpF17 w.heap.size (wpF4 v1 (wpF16 x2 (wpF15 x1 (sqF g z0 z1 z2 z3 z4 z5 a))))) _
    rw [wsF17_4]
    exact stF1111 Q w0 a g z0 z1 z2 z3 z4 z5 q1 q2 q3 ha hg hgl hp h1 h2 h3 hQ (w.alloc (.cells #[.bool false, .slice none 0 0, .slice none 0 0] 25)) x1 x2 w.heap.size v1 (hS.on (alloc_below w _)) (below_join hb (alloc_below w _) hb.size) (r1.on (alloc_below w _) r1.lt) k1 (r2.on (alloc_below w _) r2.lt) k2 (resz_mk w) hb.size n12 (Nat.ne_of_lt r1.lt) (Nat.ne_of_lt r2.lt) (f1.on (alloc_below w _))
theorem stF2001 (w : World) (x3 : Nat) (v1 v2 : Value) (hS : SixC g z0 z1 z2 z3 z4 z5 w) (hb : Below w0.heap.size w0 w) (r3 : ResZ x3 w) (k3 : w0.heap.size ≤ x3) (f1 : Rv w v1 q1) (f2 : Rv w v2 q2) :
    wpAnyH Tryz.prog .any opsF Q (SixC g z0 z1 z2 z3 z4 z5) 6 #[true, true, true, true, true, true, true, true, true, true, true, true, true, true, false, false, false, true, false, false, false] (wpF9 v2 (wpF4 v1 (wpF17 x3 (sqF g z0 z1 z2 z3 z4 z5 a)))) w := by
  have _hp := hp
  have _u1 := hg
  have _u2 := h1
  have _u3 := h2
  have _u4 := h3
  have _u5 := hgl
  refine wpAnyH_ready (rs := [14, 15, 16]) (by kernel_rfl) (by simp) (AllReadyH.cons rfl (fun K hK => ?_) (AllReadyH.cons rfl (fun K hK => ?_) (AllReadyH.cons rfl (fun K hK => ?_) AllReadyH.nil)))
  · refine stpF14 (by simp [wpF15, wpF16, wpF17, wpF4, wpF9, wpF14, sqF, eval_put, put_size, ha, hg]) (by simp [wpF15, wpF16, wpF17, wpF4, wpF9, wpF14, sqF, eval_put, put_size, ha, hg]) (h3 w) (fun v3 w' hv hb' => ?_)
    refine hK.out _ _ (hS.on hb') (fun _ => ?_)
    change wpAnyH _ _ _ _ _ _ _ (wpF14 v3 (wpF9 v2 (wpF4 v1 (wpF17 x3 (sqF g z0 z1 z2 z3 z4 z5 a))))) _
    exact stF3001 Q w0 a g z0 z1 z2 z3 z4 z5 q1 q2 q3 ha hg hgl hp h1 h2 h3 hQ w' x3 v1 v2 v3 (hS.on hb') (below_join hb hb' hb.size) (r3.on hb' r3.lt) k3 (f1.on hb') (f2.on hb') hv
  · refine stpF15 ?_
    refine hK.out _ _ (hS.on (alloc_below w _)) (fun _ => ?_)
    change wpAnyH _ _ _ _ _ _ _ (wpF15 w.heap.size (wpF9 v2 (wpF4 v1 (wpF17 x3 (sqF g z0 z1 z2 z3 z4 z5 a))))) _
    rw [wsF15_9, wsF15_4, wsF15_17]
    exact stF2101 Q w0 a g z0 z1 z2 z3 z4 z5 q1 q2 q3 ha hg hgl hp h1 h2 h3 hQ (w.alloc (.cells #[.bool false, .slice none 0 0, .slice none 0 0] 25)) w.heap.size x3 v1 v2 (hS.on (alloc_below w _)) (below_join hb (alloc_below w _) hb.size) (resz_mk w) hb.size (r3.on (alloc_below w _) r3.lt) k3 (Nat.ne_of_gt r3.lt) (f1.on (alloc_below w _)) (f2.on (alloc_below w _))
  · refine stpF16 ?_
    refine hK.out _ _ (hS.on (alloc_below w _)) (fun _ => ?_)
    change wpAnyH _ _ _ _ _ _ _ (wpF16 w.heap.size (wpF9 v2 (wpF4 v1 (wpF17 x3 (sqF g z0 z1 z2 z3 z4 z5 a))))) _
    rw [wsF16_9, wsF16_4, wsF16_17]
    exact stF2011 Q w0 a g z0 z1 z2 z3 z4 z5 q1 q2 q3 ha hg hgl hp h1 h2 h3 hQ (w.alloc (.cells #[.bool false, .slice none 0 0, .slice none 0 0] 25)) w.heap.size x3 v1 v2 (hS.on (alloc_below w _)) (below_join hb (alloc_below w _) hb.size) (resz_mk w) hb.size (r3.on (alloc_below w _) r3.lt) k3 (Nat.ne_of_gt r3.lt) (f1.on (alloc_below w _)) (f2.on (alloc_below w _))
theorem stF2010 (w : World) (x2 : Nat) (v1 v2 : Value) (hS : SixC g z0 z1 z2 z3 z4 z5 w) (hb : Below w0.heap.size w0 w) (r2 : ResZ x2 w) (k2 : w0.heap.size ≤ x2) (f1 : Rv w v1 q1) (f2 : Rv w v2 q2) :
    wpAnyH Tryz.prog .any opsF Q (SixC g z0 z1 z2 z3 z4 z5) 6 #[true, true, true, true, true, true, true, true, true, true, true, true, true, true, false, false, true, false, false, false, false] (wpF9 v2 (wpF4 v1 (wpF16 x2 (sqF g z0 z1 z2 z3 z4 z5 a)))) w := by
  have _hp := hp
  have _u1 := hg
  have _u2 := h1
  have _u3 := h2
  have _u4 := h3
  have _u5 := hgl
  refine wpAnyH_ready (rs := [14, 15, 17]) (by kernel_rfl) (by simp) (AllReadyH.cons rfl (fun K hK => ?_) (AllReadyH.cons rfl (fun K hK => ?_) (AllReadyH.cons rfl (fun K hK => ?_) AllReadyH.nil)))
  · refine stpF14 (by simp [wpF15, wpF16, wpF17, wpF4, wpF9, wpF14, sqF, eval_put, put_size, ha, hg]) (by simp [wpF15, wpF16, wpF17, wpF4, wpF9, wpF14, sqF, eval_put, put_size, ha, hg]) (h3 w) (fun v3 w' hv hb' => ?_)
    refine hK.out _ _ (hS.on hb') (fun _ => ?_)
    change wpAnyH _ _ _ _ _ _ _ (wpF14 v3 (wpF9 v2 (wpF4 v1 (wpF16 x2 (sqF g z0 z1 z2 z3 z4 z5 a))))) _
    exact stF3010 Q w0 a g z0 z1 z2 z3 z4 z5 q1 q2 q3 ha hg hgl hp h1 h2 h3 hQ w' x2 v1 v2 v3 (hS.on hb') (below_join hb hb' hb.size) (r2.on hb' r2.lt) k2 (f1.on hb') (f2.on hb') hv
  · refine stpF15 ?_
    refine hK.out _ _ (hS.on (alloc_below w _)) (fun _ => ?_)
    change wpAnyH _ _ _ _ _ _ _ (wpF15 w.heap.size (wpF9 v2 (wpF4 v1 (wpF16 x2 (sqF g z0 z1 z2 z3 z4 z5 a))))) _
    rw [wsF15_9, wsF15_4, wsF15_16]
    exact stF2110 Q w0 a g z0 z1 z2 z3 z4 z5 q1 q2 q3 ha hg hgl hp h1 h2 h3 hQ (w.alloc (.cells #[.bool false, .slice none 0 0, .slice none 0 0] 25)) w.heap.size x2 v1 v2 (hS.on (alloc_below w _)) (below_join hb (alloc_below w _) hb.size) (resz_mk w) hb.size (r2.on (alloc_below w _) r2.lt) k2 (Nat.ne_of_gt r2.lt) (f1.on (alloc_below w _)) (f2.on (alloc_below w _))
  · refine stpF17 ?_
    refine hK.out _ _ (hS.on (alloc_below w _)) (fun _ => ?_)
    change wpAnyH _ _ _ _ _ _ _ (wpF17 w.heap.size (wpF9 v2 (wpF4 v1 (wpF16 x2 (sqF g z0 z1 z2 z3 z4 z5 a))))) _
    rw [wsF17_9, wsF17_4]
    exact stF2011 Q w0 a g z0 z1 z2 z3 z4 z5 q1 q2 q3 ha hg hgl hp h1 h2 h3 hQ (w.alloc (.cells #[.bool false, .slice none 0 0, .slice none 0 0] 25)) x2 w.heap.size v1 v2 (hS.on (alloc_below w _)) (below_join hb (alloc_below w _) hb.size) (r2.on (alloc_below w _) r2.lt) k2 (resz_mk w) hb.size (Nat.ne_of_lt r2.lt) (f1.on (alloc_below w _)) (f2.on (alloc_below w _))
theorem stF2100 (w : World) (x1 : Nat) (v1 v2 : Value) (hS : SixC g z0 z1 z2 z3 z4 z5 w) (hb : Below w0.heap.size w0 w) (r1 : ResZ x1 w) (k1 : w0.heap.size ≤ x1) (f1 : Rv w v1 q1) (f2 : Rv w v2 q2) :
    wpAnyH Tryz.prog .any opsF Q (SixC g z0 z1 z2 z3 z4 z5) 6 #[true, true, true, true, true, true, true, true, true, true, true, true, true, true, false, true, false, false, false, false, false] (wpF9 v2 (wpF4 v1 (wpF15 x1 (sqF g z0 z1 z2 z3 z4 z5 a)))) w := by
  have _hp := hp
  have _u1 := hg
  have _u2 := h1
  have _u3 := h2
  have _u4 := h3
  have _u5 := hgl
  refine wpAnyH_ready (rs := [14, 16, 17]) (by kernel_rfl) (by simp) (AllReadyH.cons rfl (fun K hK => ?_) (AllReadyH.cons rfl (fun K hK => ?_) (AllReadyH.cons rfl (fun K hK => ?_) AllReadyH.nil)))
  · refine stpF14 (by simp [wpF15, wpF16, wpF17, wpF4, wpF9, wpF14, sqF, eval_put, put_size, ha, hg]) (by simp [wpF15, wpF16, wpF17, wpF4, wpF9, wpF14, sqF, eval_put, put_size, ha, hg]) (h3 w) (fun v3 w' hv hb' => ?_)
    refine hK.out _ _ (hS.on hb') (fun _ => ?_)
    change wpAnyH _ _ _ _ _ _ _ (wpF14 v3 (wpF9 v2 (wpF4 v1 (wpF15 x1 (sqF g z0 z1 z2 z3 z4 z5 a))))) _
    exact stF3100 Q w0 a g z0 z1 z2 z3 z4 z5 q1 q2 q3 ha hg hgl hp h1 h2 h3 hQ w' x1 v1 v2 v3 (hS.on hb') (below_join hb hb' hb.size) (r1.on hb' r1.lt) k1 (f1.on hb') (f2.on hb') hv
  · refine stpF16 ?_
    refine hK.out _ _ (hS.on (alloc_below w _)) (fun _ => ?_)
    change wpAnyH _ _ _ _ _ _ _ (wpF16 w.heap.size (wpF9 v2 (wpF4 v1 (wpF15 x1 (sqF g z0 z1 z2 z3 z4 z5 a))))) _
    rw [wsF16_9, wsF16_4]
    exact stF2110 Q w0 a g z0 z1 z2 z3 z4 z5 q1 q2 q3 ha hg hgl hp h1 h2 h3 hQ (w.alloc (.cells #[.bool false, .slice none 0 0, .slice none 0 0] 25)) x1 w.heap.size v1 v2 (hS.on (alloc_below w _)) (below_join hb (alloc_below w _) hb.size) (r1.on (alloc_below w _) r1.lt) k1 (resz_mk w) hb.size (Nat.ne_of_lt r1.lt) (f1.on (alloc_below w _)) (f2.on (alloc_below w _))
  · refine stpF17 ?_
    refine hK.out _ _ (hS.on (alloc_below w _)) (fun _ => ?_)
    change wpAnyH _ _ _ _ _ _ _ (wpF17 w.heap.size (wpF9 v2 (wpF4 v1 (wpF15 x1 (sqF g z0 z1 z2 z3 z4 z5 a))))) _
    rw [wsF17_9, wsF17_4]
    exact stF2101 Q w0 a g z0 z1 z2 z3 z4 z5 q1 q2 q3 ha hg hgl hp h1 h2 h3 hQ (w.alloc (.cells #[.bool false, .slice none 0 0, .slice none 0 0] 25)) x1 w.heap.size v1 v2 (hS.on (alloc_below w _)) (below_join hb (alloc_below w _) hb.size) (r1.on (alloc_below w _) r1.lt) k1 (resz_mk w) hb.size (Nat.ne_of_lt r1.lt) (f1.on (alloc_below w _)) (f2.on (alloc_below w _))
theorem stF3000 (w : World) (v1 v2 v3 : Value) (hS : SixC g z0 z1 z2 z3 z4 z5 w) (hb : Below w0.heap.size w0 w) (f1 : Rv w v1 q1) (f2 : Rv w v2 q2) (f3 : Rv w v3 q3) :
    wpAnyH Tryz.prog .any opsF Q (SixC g z0 z1 z2 z3 z4 z5) 6 #[true, true, true, true, true, true, true, true, true, true, true, true, true, true, true, false, false, false, false, false, false] (wpF14 v3 (wpF9 v2 (wpF4 v1 (sqF g z0 z1 z2 z3 z4 z5 a)))) w := by
  have _hp := hp
  have _u1 := hg
  have _u2 := h1
  have _u3 := h2
  have _u4 := h3
  have _u5 := hgl
  refine wpAnyH_ready (rs := [15, 16, 17]) (by kernel_rfl) (by simp) (AllReadyH.cons rfl (fun K hK => ?_) (AllReadyH.cons rfl (fun K hK => ?_) (AllReadyH.cons rfl (fun K hK => ?_) AllReadyH.nil)))
  · refine stpF15 ?_
    refine hK.out _ _ (hS.on (alloc_below w _)) (fun _ => ?_)
    change wpAnyH _ _ _ _ _ _ _ (wpF15 w.heap.size (wpF14 v3 (wpF9 v2 (wpF4 v1 (sqF g z0 z1 z2 z3 z4 z5 a))))) _
    rw [wsF15_14, wsF15_9, wsF15_4]
    exact stF3100 Q w0 a g z0 z1 z2 z3 z4 z5 q1 q2 q3 ha hg hgl hp h1 h2 h3 hQ (w.alloc (.cells #[.bool false, .slice none 0 0, .slice none 0 0] 25)) w.heap.size v1 v2 v3 (hS.on (alloc_below w _)) (below_join hb (alloc_below w _) hb.size) (resz_mk w) hb.size (f1.on (alloc_below w _)) (f2.on (alloc_below w _)) (f3.on (alloc_below w _))
  · refine stpF16 ?_
    refine hK.out _ _ (hS.on (alloc_below w _)) (fun _ => ?_)
    change wpAnyH _ _ _ _ _ _ _ (wpF16 w.heap.size (wpF14 v3 (wpF9 v2 (wpF4 v1 (sqF g z0 z1 z2 z3 z4 z5 a))))) _
    rw [wsF16_14, wsF16_9, wsF16_4]
    exact stF3010 Q w0 a g z0 z1 z2 z3 z4 z5 q1 q2 q3 ha hg hgl hp h1 h2 h3 hQ (w.alloc (.cells #[.bool false, .slice none 0 0, .slice none 0 0] 25)) w.heap.size v1 v2 v3 (hS.on (alloc_below w _)) (below_join hb (alloc_below w _) hb.size) (resz_mk w) hb.size (f1.on (alloc_below w _)) (f2.on (alloc_below w _)) (f3.on (alloc_below w _))
  · refine stpF17 ?_
    refine hK.out _ _ (hS.on (alloc_below w _)) (fun _ => ?_)
    change wpAnyH _ _ _ _ _ _ _ (wpF17 w.heap.size (wpF14 v3 (wpF9 v2 (wpF4 v1 (sqF g z0 z1 z2 z3 z4 z5 a))))) _
    rw [wsF17_14, wsF17_9, wsF17_4]
    exact stF3001 Q w0 a g z0 z1 z2 z3 z4 z5 q1 q2 q3 ha hg hgl hp h1 h2 h3 hQ (w.alloc (.cells #[.bool false, .slice none 0 0, .slice none 0 0] 25)) w.heap.size v1 v2 v3 (hS.on (alloc_below w _)) (below_join hb (alloc_below w _) hb.size) (resz_mk w) hb.size (f1.on (alloc_below w _)) (f2.on (alloc_below w _)) (f3.on (alloc_below w _))
theorem stF0011 (w : World) (x2 x3 : Nat) (hS : SixC g z0 z1 z2 z3 z4 z5 w) (hb : Below w0.heap.size w0 w) (r2 : ResZ x2 w) (k2 : w0.heap.size ≤ x2) (r3 : ResZ x3 w) (k3 : w0.heap.size ≤ x3) (n23 : x2 ≠ x3) :
    wpAnyH Tryz.prog .any opsF Q (SixC g z0 z1 z2 z3 z4 z5) 7 #[true, true, true, true, false, true, true, true, true, false, true, true, true, true, false, false, true, true, false, false, false] (wpF17 x3 (wpF16 x2 (sqF g z0 z1 z2 z3 z4 z5 a))) w := by
  have _hp := hp
  have _u1 := hg
  have _u2 := h1
  have _u3 := h2
  have _u4 := h3
  have _u5 := hgl
  refine wpAnyH_ready (rs := [4, 15]) (by kernel_rfl) (by simp) (AllReadyH.cons rfl (fun K hK => ?_) (AllReadyH.cons rfl (fun K hK => ?_) AllReadyH.nil))
  · refine stpF4 (by simp [wpF15, wpF16, wpF17, wpF4, wpF9, wpF14, sqF, eval_put, put_size, ha, hg]) (by simp [wpF15, wpF16, wpF17, wpF4, wpF9, wpF14, sqF, eval_put, put_size, ha, hg]) (h1 w) (fun v1 w' hv hb' => ?_)
    refine hK.out _ _ (hS.on hb') (fun _ => ?_)
    change wpAnyH _ _ _ _ _ _ _ (wpF4 v1 (wpF17 x3 (wpF16 x2 (sqF g z0 z1 z2 z3 z4 z5 a)))) _
    exact stF1011 Q w0 a g z0 z1 z2 z3 z4 z5 q1 q2 q3 ha hg hgl hp h1 h2 h3 hQ w' x2 x3 v1 (hS.on hb') (below_join hb hb' hb.size) (r2.on hb' r2.lt) k2 (r3.on hb' r3.lt) k3 n23 hv
  · refine stpF15 ?_
    refine hK.out _ _ (hS.on (alloc_below w _)) (fun _ => ?_)
    change wpAnyH _ _ _ _ _ _ _ (wpF15 w.heap.size (wpF17 x3 (wpF16 x2 (sqF g z0 z1 z2 z3 z4 z5 a)))) _
    rw [wsF15_17, wsF15_16]
    exact stF0111 Q w0 a g z0 z1 z2 z3 z4 z5 q1 q2 q3 ha hg hgl hp h1 h2 h3 hQ (w.alloc (.cells #[.bool false, .slice none 0 0, .slice none 0 0] 25)) w.heap.size x2 x3  (hS.on (alloc_below w _)) (below_join hb (alloc_below w _) hb.size) (resz_mk w) hb.size (r2.on (alloc_below w _) r2.lt) k2 (r3.on (alloc_below w _) r3.lt) k3 (Nat.ne_of_gt r2.lt) (Nat.ne_of_gt r3.lt) n23
theorem stF0101 (w : World) (x1 x3 : Nat) (hS : SixC g z0 z1 z2 z3 z4 z5 w) (hb : Below w0.heap.size w0 w) (r1 : ResZ x1 w) (k1 : w0.heap.size ≤ x1) (r3 : ResZ x3 w) (k3 : w0.heap.size ≤ x3) (n13 : x1 ≠ x3) :
    wpAnyH Tryz.prog .any opsF Q (SixC g z0 z1 z2 z3 z4 z5) 7 #[true, true, true, true, false, true, true, true, true, false, true, true, true, true, false, true, false, true, false, false, false] (wpF17 x3 (wpF15 x1 (sqF g z0 z1 z2 z3 z4 z5 a))) w := by
  have _hp := hp
  have _u1 := hg
  have _u2 := h1
  have _u3 := h2
  have _u4 := h3
  have _u5 := hgl
  refine wpAnyH_ready (rs := [4, 16]) (by kernel_rfl) (by simp) (AllReadyH.cons rfl (fun K hK => ?_) (AllReadyH.cons rfl (fun K hK => ?_) AllReadyH.nil))
  · refine stpF4 (by simp [wpF15, wpF16, wpF17, wpF4, wpF9, wpF14, sqF, eval_put, put_size, ha, hg]) (by simp [wpF15, wpF16, wpF17, wpF4, wpF9, wpF14, sqF, eval_put, put_size, ha, hg]) (h1 w) (fun v1 w' hv hb' => ?_)
    refine hK.out _ _ (hS.on hb') (fun _ => ?_)
    change wpAnyH _ _ _ _ _ _ _ (wpF4 v1 (wpF17 x3 (wpF15 x1 (sqF g z0 z1 z2 z3 z4 z5 a)))) _
    exact stF1101 Q w0 a g z0 z1 z2 z3 z4 z5 q1 q2 q3 ha hg hgl hp h1 h2 h3 hQ w' x1 x3 v1 (hS.on hb') (below_join hb hb' hb.size) (r1.on hb' r1.lt) k1 (r3.on hb' r3.lt) k3 n13 hv
  · refine stpF16 ?_
    refine hK.out _ _ (hS.on (alloc_below w _)) (fun _ => ?_)
    change wpAnyH _ _ _ _ _ _ _ (wpF16 w.heap.size (wpF17 x3 (wpF15 x1 (sqF g z0 z1 z2 z3 z4 z5 a)))) _
    rw [wsF16_17]
    exact stF0111 Q w0 a g z0 z1 z2 z3 z4 z5 q1 q2 q3 ha hg hgl hp h1 h2 h3 hQ (w.alloc (.cells #[.bool false, .slice none 0 0, .slice none 0 0] 25)) x1 w.heap.size x3  (hS.on (alloc_below w _)) (below_join hb (alloc_below w _) hb.size) (r1.on (alloc_below w _) r1.lt) k1 (resz_mk w) hb.size (r3.on (alloc_below w _) r3.lt) k3 (Nat.ne_of_lt r1.lt) n13 (Nat.ne_of_gt r3.lt)
theorem stF0110 (w : World) (x1 x2 : Nat) (hS : SixC g z0 z1 z2 z3 z4 z5 w) (hb : Below w0.heap.size w0 w) (r1 : ResZ x1 w) (k1 : w0.heap.size ≤ x1) (r2 : ResZ x2 w) (k2 : w0.heap.size ≤ x2) (n12 : x1 ≠ x2) :
    wpAnyH Tryz.prog .any opsF Q (SixC g z0 z1 z2 z3 z4 z5) 7 #[true, true, true, true, false, true, true, true, true, false, true, true, true, true, false, true, true, false, false, false, false] (wpF16 x2 (wpF15 x1 (sqF g z0 z1 z2 z3 z4 z5 a))) w := by
  have _hp := hp
  have _u1 := hg
  have _u2 := h1
  have _u3 := h2
  have _u4 := h3
  have _u5 := hgl
  refine wpAnyH_ready (rs := [4, 17]) (by kernel_rfl) (by simp) (AllReadyH.cons rfl (fun K hK => ?_) (AllReadyH.cons rfl (fun K hK => ?_) AllReadyH.nil))
  · refine stpF4 (by simp [wpF15, wpF16, wpF17, wpF4, wpF9, wpF14, sqF, eval_put, put_size, ha, hg]) (by simp [wpF15, wpF16, wpF17, wpF4, wpF9, wpF14, sqF, eval_put, put_size, ha, hg]) (h1 w) (fun v1 w' hv hb' => ?_)
    refine hK.out _ _ (hS.on hb') (fun _ => ?_)
    change wpAnyH _ _ _ _ _ _ _ (wpF4 v1 (wpF16 x2 (wpF15 x1 (sqF g z0 z1 z2 z3 z4 z5 a)))) _
    exact stF1110 Q w0 a g z0 z1 z2 z3 z4 z5 q1 q2 q3 ha hg hgl hp h1 h2 h3 hQ w' x1 x2 v1 (hS.on hb') (below_join hb hb' hb.size) (r1.on hb' r1.lt) k1 (r2.on hb' r2.lt) k2 n12 hv
  · refine stpF17 ?_
    refine hK.out _ _ (hS.on (alloc_below w _)) (fun _ => ?_)
    change wpAnyH _ _ _ _ _ _ _ (wpF17 w.heap.size (wpF16 x2 (wpF15 x1 (sqF g z0 z1 z2 z3 z4 z5 a)))) _
    exact stF0111 Q w0 a g z0 z1 z2 z3 z4 z5 q1 q2 q3 ha hg hgl hp h1 h2 h3 hQ (w.alloc (.cells #[.bool false, .slice none 0 0, .slice none 0 0] 25)) x1 x2 w.heap.size  (hS.on (alloc_below w _)) (below_join hb (alloc_below w _) hb.size) (r1.on (alloc_below w _) r1.lt) k1 (r2.on (alloc_below w _) r2.lt) k2 (resz_mk w) hb.size n12 (Nat.ne_of_lt r1.lt) (Nat.ne_of_lt r2.lt)
theorem stF1001 (w : World) (x3 : Nat) (v1 : Value) (hS : SixC g z0 z1 z2 z3 z4 z5 w) (hb : Below w0.heap.size w0 w) (r3 : ResZ x3 w) (k3 : w0.heap.size ≤ x3) (f1 : Rv w v1 q1) :
    wpAnyH Tryz.prog .any opsF Q (SixC g z0 z1 z2 z3 z4 z5) 7 #[true, true, true, true, true, true, true, true, true, false, true, true, true, true, false, false, false, true, false, false, false] (wpF4 v1 (wpF17 x3 (sqF g z0 z1 z2 z3 z4 z5 a))) w := by
  have _hp := hp
  have _u1 := hg
  have _u2 := h1
  have _u3 := h2
  have _u4 := h3
  have _u5 := hgl
  refine wpAnyH_ready (rs := [9, 15, 16]) (by kernel_rfl) (by simp) (AllReadyH.cons rfl (fun K hK => ?_) (AllReadyH.cons rfl (fun K hK => ?_) (AllReadyH.cons rfl (fun K hK => ?_) AllReadyH.nil)))
  · refine stpF9 (by simp [wpF15, wpF16, wpF17, wpF4, wpF9, wpF14, sqF, eval_put, put_size, ha, hg]) (by simp [wpF15, wpF16, wpF17, wpF4, wpF9, wpF14, sqF, eval_put, put_size, ha, hg]) (h2 w) (fun v2 w' hv hb' => ?_)
    refine hK.out _ _ (hS.on hb') (fun _ => ?_)
    change wpAnyH _ _ _ _ _ _ _ (wpF9 v2 (wpF4 v1 (wpF17 x3 (sqF g z0 z1 z2 z3 z4 z5 a)))) _
    exact stF2001 Q w0 a g z0 z1 z2 z3 z4 z5 q1 q2 q3 ha hg hgl hp h1 h2 h3 hQ w' x3 v1 v2 (hS.on hb') (below_join hb hb' hb.size) (r3.on hb' r3.lt) k3 (f1.on hb') hv
  · refine stpF15 ?_
    refine hK.out _ _ (hS.on (alloc_below w _)) (fun _ => ?_)
    change wpAnyH _ _ _ _ _ _ _ (wpF15 w.heap.size (wpF4 v1 (wpF17 x3 (sqF g z0 z1 z2 z3 z4 z5 a)))) _
    rw [wsF15_4, wsF15_17]
    exact stF1101 Q w0 a g z0 z1 z2 z3 z4 z5 q1 q2 q3 ha hg hgl hp h1 h2 h3 hQ (w.alloc (.cells #[.bool false, .slice none 0 0, .slice none 0 0] 25)) w.heap.size x3 v1 (hS.on (alloc_below w _)) (below_join hb (alloc_below w _) hb.size) (resz_mk w) hb.size (r3.on (alloc_below w _) r3.lt) k3 (Nat.ne_of_gt r3.lt) (f1.on (alloc_below w _))
  · refine stpF16 ?_
    refine hK.out _ _ (hS.on (alloc_below w _)) (fun _ => ?_)
    change wpAnyH _ _ _ _ _ _ _ (wpF16 w.heap.size (wpF4 v1 (wpF17 x3 (sqF g z0 z1 z2 z3 z4 z5 a)))) _
    rw [wsF16_4, wsF16_17]
    exact stF1011 Q w0 a g z0 z1 z2 z3 z4 z5 q1 q2 q3 ha hg hgl hp h1 h2 h3 hQ (w.alloc (.cells #[.bool false, .slice none 0 0, .slice none 0 0] 25)) w.heap.size x3 v1 (hS.on (alloc_below w _)) (below_join hb (alloc_below w _) hb.size) (resz_mk w) hb.size (r3.on (alloc_below w _) r3.lt) k3 (Nat.ne_of_gt r3.lt) (f1.on (alloc_below w _))
theorem stF1010 (w : World) (x2 : Nat) (v1 : Value) (hS : SixC g z0 z1 z2 z3 z4 z5 w) (hb : Below w0.heap.size w0 w) (r2 : ResZ x2 w) (k2 : w0.heap.size ≤ x2) (f1 : Rv w v1 q1) :
    wpAnyH Tryz.prog .any opsF Q (SixC g z0 z1 z2 z3 z4 z5) 7 #[true, true, true, true, true, true, true, true, true, false, true, true, true, true, false, false, true, false, false, false, false] (wpF4 v1 (wpF16 x2 (sqF g z0 z1 z2 z3 z4 z5 a))) w := by
  have _hp := hp
  have _u1 := hg
  have _u2 := h1
  have _u3 := h2
  have _u4 := h3
  have _u5 := hgl
  refine wpAnyH_ready (rs := [9, 15, 17]) (by kernel_rfl) (by simp) (AllReadyH.cons rfl (fun K hK => ?_) (AllReadyH.cons rfl (fun K hK => ?_) (AllReadyH.cons rfl (fun K hK => ?_) AllReadyH.nil)))
  · refine stpF9 (by simp [wpF15, wpF16, wpF17, wpF4, wpF9, wpF14, sqF, eval_put, put_size, ha, hg]) (by simp [wpF15, wpF16, wpF17, wpF4, wpF9, wpF14, sqF, eval_put, put_size, ha, hg]) (h2 w) (fun v2 w' hv hb' => ?_)
    refine hK.out _ _ (hS.on hb') (fun _ => ?_)
    change wpAnyH _ _ _ _ _ _ _ (wpF9 v2 (wpF4 v1 (wpF16 x2 (sqF g z0 z1 z2 z3 z4 z5 a)))) _
    exact stF2010 Q w0 a g z0 z1 z2 z3 z4 z5 q1 q2 q3 ha hg hgl hp h1 h2 h3 hQ w' x2 v1 v2 (hS.on hb') (below_join hb hb' hb.size) (r2.on hb' r2.lt) k2 (f1.on hb') hv
  · refine stpF15 ?_
    refine hK.out _ _ (hS.on (alloc_below w _)) (fun _ => ?_)
    change wpAnyH _ _ _ _ _ _ _ (wpF15 w.heap.size (wpF4 v1 (wpF16 x2 (sqF g z0 z1 z2 z3 z4 z5 a)))) _
    rw [wsF15_4, wsF15_16]
    exact stF1110 Q w0 a g z0 z1 z2 z3 z4 z5 q1 q2 q3 ha hg hgl hp h1 h2 h3 hQ (w.alloc (.cells #[.bool false, .slice none 0 0, .slice none 0 0] 25)) w.heap.size x2 v1 (hS.on (alloc_below w _)) (below_join hb (alloc_below w _) hb.size) (resz_mk w) hb.size (r2.on (alloc_below w _) r2.lt) k2 (Nat.ne_of_gt r2.lt) (f1.on (alloc_below w _))
  · refine stpF17 ?_
    refine hK.out _ _ (hS.on (alloc_below w _)) (fun _ => ?_)
    change wpAnyH _ _ _ _ _ _ _ (wpF17 w.heap.size (wpF4 v1 (wpF16 x2 (sqF g z0 z1 z2 z3 z4 z5 a)))) _
    rw [wsF17_4]
    exact stF1011 Q w0 a g z0 z1 z2 z3 z4 z5 q1 q2 q3 ha hg hgl hp h1 h2 h3 hQ (w.alloc (.cells #[.bool false, .slice none 0 0, .slice none 0 0] 25)) x2 w.heap.size v1 (hS.on (alloc_below w _)) (below_join hb (alloc_below w _) hb.size) (r2.on (alloc_below w _) r2.lt) k2 (resz_mk w) hb.size (Nat.ne_of_lt r2.lt) (f1.on (alloc_below w _))
theorem stF1100 (w : World) (x1 : Nat) (v1 : Value) (hS : SixC g z0 z1 z2 z3 z4 z5 w) (hb : Below w0.heap.size w0 w) (r1 : ResZ x1 w) (k1 : w0.heap.size ≤ x1) (f1 : Rv w v1 q1) :
    wpAnyH Tryz.prog .any opsF Q (SixC g z0 z1 z2 z3 z4 z5) 7 #[true, true, true, true, true, true, true, true, true, false, true, true, true, true, false, true, false, false, false, false, false] (wpF4 v1 (wpF15 x1 (sqF g z0 z1 z2 z3 z4 z5 a))) w := by
  have _hp := hp
  have _u1 := hg
  have _u2 := h1
  have _u3 := h2
  have _u4 := h3
  have _u5 := hgl
  refine wpAnyH_ready (rs := [9, 16, 17]) (by kernel_rfl) (by simp) (AllReadyH.cons rfl (fun K hK => ?_) (AllReadyH.cons rfl (fun K hK => ?_) (AllReadyH.cons rfl (fun K hK => ?_) AllReadyH.nil)))
  · refine stpF9 (by simp [wpF15, wpF16, wpF17, wpF4, wpF9, wpF14, sqF, eval_put, put_size, ha, hg]) (by simp [wpF15, wpF16, wpF17, wpF4, wpF9, wpF14, sqF, eval_put, put_size, ha, hg]) (h2 w) (fun v2 w' hv hb' => ?_)
    refine hK.out _ _ (hS.on hb') (fun _ => ?_)
    change wpAnyH _ _ _ _ _ _ _ (wpF9 v2 (wpF4 v1 (wpF15 x1 (sqF g z0 z1 z2 z3 z4 z5 a)))) _
    exact stF2100 Q w0 a g z0 z1 z2 z3 z4 z5 q1 q2 q3 ha hg hgl hp h1 h2 h3 hQ w' x1 v1 v2 (hS.on hb') (below_join hb hb' hb.size) (r1.on hb' r1.lt) k1 (f1.on hb') hv
  · refine stpF16 ?_
    refine hK.out _ _ (hS.on (alloc_below w _)) (fun _ => ?_)
    change wpAnyH _ _ _ _ _ _ _ (wpF16 w.heap.size (wpF4 v1 (wpF15 x1 (sqF g z0 z1 z2 z3 z4 z5 a)))) _
    rw [wsF16_4]
    exact stF1110 Q w0 a g z0 z1 z2 z3 z4 z5 q1 q2 q3 ha hg hgl hp h1 h2 h3 hQ (w.alloc (.cells #[.bool false, .slice none 0 0, .slice none 0 0] 25)) x1 w.heap.size v1 (hS.on (alloc_below w _)) (below_join hb (alloc_below w _) hb.size) (r1.on (alloc_below w _) r1.lt) k1 (resz_mk w) hb.size (Nat.ne_of_lt r1.lt) (f1.on (alloc_below w _))
  · refine stpF17 ?_
    refine hK.out _ _ (hS.on (alloc_below w _)) (fun _ => ?_)
    change wpAnyH _ _ _ _ _ _ _ (wpF17 w.heap.size (wpF4 v1 (wpF15 x1 (sqF g z0 z1 z2 z3 z4 z5 a)))) _
    rw [wsF17_4]
    exact stF1101 Q w0 a g z0 z1 z2 z3 z4 z5 q1 q2 q3 ha hg hgl hp h1 h2 h3 hQ (w.alloc (.cells #[.bool false, .slice none 0 0, .slice none 0 0] 25)) x1 w.heap.size v1 (hS.on (alloc_below w _)) (below_join hb (alloc_below w _) hb.size) (r1.on (alloc_below w _) r1.lt) k1 (resz_mk w) hb.size (Nat.ne_of_lt r1.lt) (f1.on (alloc_below w _))
theorem stF2000 (w : World) (v1 v2 : Value) (hS : SixC g z0 z1 z2 z3 z4 z5 w) (hb : Below w0.heap.size w0 w) (f1 : Rv w v1 q1) (f2 : Rv w v2 q2) :
    wpAnyH Tryz.prog .any opsF Q (SixC g z0 z1 z2 z3 z4 z5) 7 #[true, true, true, true, true, true, true, true, true, true, true, true, true, true, false, false, false, false, false, false, false] (wpF9 v2 (wpF4 v1 (sqF g z0 z1 z2 z3 z4 z5 a))) w := by
  have _hp := hp
  have _u1 := hg
  have _u2 := h1
  have _u3 := h2
  have _u4 := h3
  have _u5 := hgl
  refine wpAnyH_ready (rs := [14, 15, 16, 17]) (by kernel_rfl) (by simp) (AllReadyH.cons rfl (fun K hK => ?_) (AllReadyH.cons rfl (fun K hK => ?_) (AllReadyH.cons rfl (fun K hK => ?_) (AllReadyH.cons rfl (fun K hK => ?_) AllReadyH.nil))))
  · refine stpF14 (by simp [wpF15, wpF16, wpF17, wpF4, wpF9, wpF14, sqF, eval_put, put_size, ha, hg]) (by simp [wpF15, wpF16, wpF17, wpF4, wpF9, wpF14, sqF, eval_put, put_size, ha, hg]) (h3 w) (fun v3 w' hv hb' => ?_)
    refine hK.out _ _ (hS.on hb') (fun _ => ?_)
    change wpAnyH _ _ _ _ _ _ _ (wpF14 v3 (wpF9 v2 (wpF4 v1 (sqF g z0 z1 z2 z3 z4 z5 a)))) _
    exact stF3000 Q w0 a g z0 z1 z2 z3 z4 z5 q1 q2 q3 ha hg hgl hp h1 h2 h3 hQ w'  v1 v2 v3 (hS.on hb') (below_join hb hb' hb.size) (f1.on hb') (f2.on hb') hv
  · refine stpF15 ?_
    refine hK.out _ _ (hS.on (alloc_below w _)) (fun _ => ?_)
    change wpAnyH _ _ _ _ _ _ _ (wpF15 w.heap.size (wpF9 v2 (wpF4 v1 (sqF g z0 z1 z2 z3 z4 z5 a)))) _
    rw [wsF15_9, wsF15_4]
    exact stF2100 Q w0 a g z0 z1 z2 z3 z4 z5 q1 q2 q3 ha hg hgl hp h1 h2 h3 hQ (w.alloc (.cells #[.bool false, .slice none 0 0, .slice none 0 0] 25)) w.heap.size v1 v2 (hS.on (alloc_below w _)) (below_join hb (alloc_below w _) hb.size) (resz_mk w) hb.size (f1.on (alloc_below w _)) (f2.on (alloc_below w _))
  · refine stpF16 ?_
    refine hK.out _ _ (hS.on (alloc_below w _)) (fun _ => ?_)
    change wpAnyH _ _ _ _ _ _ _ (wpF16 w.heap.size (wpF9 v2 (wpF4 v1 (sqF g z0 z1 z2 z3 z4 z5 a)))) _
    rw [wsF16_9, wsF16_4]
    exact stF2010 Q w0 a g z0 z1 z2 z3 z4 z5 q1 q2 q3 ha hg hgl hp h1 h2 h3 hQ (w.alloc (.cells #[.bool false, .slice none 0 0, .slice none 0 0] 25)) w.heap.size v1 v2 (hS.on (alloc_below w _)) (below_join hb (alloc_below w _) hb.size) (resz_mk w) hb.size (f1.on (alloc_below w _)) (f2.on (alloc_below w _))
  · refine stpF17 ?_
    refine hK.out _ _ (hS.on (alloc_below w _)) (fun _ => ?_)
    change wpAnyH _ _ _ _ _ _ _ (wpF17 w.heap.size (wpF9 v2 (wpF4 v1 (sqF g z0 z1 z2 z3 z4 z5 a)))) _
    rw [wsF17_9, wsF17_4]
    exact stF2001 Q w0 a g z0 z1 z2 z3 z4 z5 q1 q2 q3 ha hg hgl hp h1 h2 h3 hQ (w.alloc (.cells #[.bool false, .slice none 0 0, .slice none 0 0] 25)) w.heap.size v1 v2 (hS.on (alloc_below w _)) (below_join hb (alloc_below w _) hb.size) (resz_mk w) hb.size (f1.on (alloc_below w _)) (f2.on (alloc_below w _))
theorem stF0001 (w : World) (x3 : Nat) (hS : SixC g z0 z1 z2 z3 z4 z5 w) (hb : Below w0.heap.size w0 w) (r3 : ResZ x3 w) (k3 : w0.heap.size ≤ x3) :
    wpAnyH Tryz.prog .any opsF Q (SixC g z0 z1 z2 z3 z4 z5) 8 #[true, true, true, true, false, true, true, true, true, false, true, true, true, true, false, false, false, true, false, false, false] (wpF17 x3 (sqF g z0 z1 z2 z3 z4 z5 a)) w := by
  have _hp := hp
  have _u1 := hg
  have _u2 := h1
  have _u3 := h2
  have _u4 := h3
  have _u5 := hgl
  refine wpAnyH_ready (rs := [4, 15, 16]) (by kernel_rfl) (by simp) (AllReadyH.cons rfl (fun K hK => ?_) (AllReadyH.cons rfl (fun K hK => ?_) (AllReadyH.cons rfl (fun K hK => ?_) AllReadyH.nil)))
  · refine stpF4 (by simp [wpF15, wpF16, wpF17, wpF4, wpF9, wpF14, sqF, eval_put, put_size, ha, hg]) (by simp [wpF15, wpF16, wpF17, wpF4, wpF9, wpF14, sqF, eval_put, put_size, ha, hg]) (h1 w) (fun v1 w' hv hb' => ?_)
    refine hK.out _ _ (hS.on hb') (fun _ => ?_)
    change wpAnyH _ _ _ _ _ _ _ (wpF4 v1 (wpF17 x3 (sqF g z0 z1 z2 z3 z4 z5 a))) _
    exact stF1001 Q w0 a g z0 z1 z2 z3 z4 z5 q1 q2 q3 ha hg hgl hp h1 h2 h3 hQ w' x3 v1 (hS.on hb') (below_join hb hb' hb.size) (r3.on hb' r3.lt) k3 hv
  · refine stpF15 ?_
    refine hK.out _ _ (hS.on (alloc_below w _)) (fun _ => ?_)
    change wpAnyH _ _ _ _ _ _ _ (wpF15 w.heap.size (wpF17 x3 (sqF g z0 z1 z2 z3 z4 z5 a))) _
    rw [wsF15_17]
    exact stF0101 Q w0 a g z0 z1 z2 z3 z4 z5 q1 q2 q3 ha hg hgl hp h1 h2 h3 hQ (w.alloc (.cells #[.bool false, .slice none 0 0, .slice none 0 0] 25)) w.heap.size x3  (hS.on (alloc_below w _)) (below_join hb (alloc_below w _) hb.size) (resz_mk w) hb.size (r3.on (alloc_below w _) r3.lt) k3 (Nat.ne_of_gt r3.lt)
  · refine stpF16 ?_
    refine hK.out _ _ (hS.on (alloc_below w _)) (fun _ => ?_)
    change wpAnyH _ _ _ _ _ _ _ (wpF16 w.heap.size (wpF17 x3 (sqF g z0 z1 z2 z3 z4 z5 a))) _
    rw [wsF16_17]
    exact stF0011 Q w0 a g z0 z1 z2 z3 z4 z5 q1 q2 q3 ha hg hgl hp h1 h2 h3 hQ (w.alloc (.cells #[.bool false, .slice none 0 0, .slice none 0 0] 25)) w.heap.size x3  (hS.on (alloc_below w _)) (below_join hb (alloc_below w _) hb.size) (resz_mk w) hb.size (r3.on (alloc_below w _) r3.lt) k3 (Nat.ne_of_gt r3.lt)
theorem stF0010 (w : World) (x2 : Nat) (hS : SixC g z0 z1 z2 z3 z4 z5 w) (hb : Below w0.heap.size w0 w) (r2 : ResZ x2 w) (k2 : w0.heap.size ≤ x2) :
    wpAnyH Tryz.prog .any opsF Q (SixC g z0 z1 z2 z3 z4 z5) 8 #[true, true, true, true, false, true, true, true, true, false, true, true, true, true, false, false, true, false, false, false, false] (wpF16 x2 (sqF g z0 z1 z2 z3 z4 z5 a)) w := by
  have _hp := hp
  have _u1 := hg
  have _u2 := h1
  have _u3 := h2
  have _u4 := h3
  have _u5 := hgl
  refine wpAnyH_ready (rs := [4, 15, 17]) (by kernel_rfl) (by simp) (AllReadyH.cons rfl (fun K hK => ?_) (AllReadyH.cons rfl (fun K hK => ?_) (AllReadyH.cons rfl (fun K hK => ?_) AllReadyH.nil)))
  · refine stpF4 (by simp [wpF15, wpF16, wpF17, wpF4, wpF9, wpF14, sqF, eval_put, put_size, ha, hg]) (by simp [wpF15, wpF16, wpF17, wpF4, wpF9, wpF14, sqF, eval_put, put_size, ha, hg]) (h1 w) (fun v1 w' hv hb' => ?_)
    refine hK.out _ _ (hS.on hb') (fun _ => ?_)
    change wpAnyH _ _ _ _ _ _ _ (wpF4 v1 (wpF16 x2 (sqF g z0 z1 z2 z3 z4 z5 a))) _
    exact stF1010 Q w0 a g z0 z1 z2 z3 z4 z5 q1 q2 q3 ha hg hgl hp h1 h2 h3 hQ w' x2 v1 (hS.on hb') (below_join hb hb' hb.size) (r2.on hb' r2.lt) k2 hv
  · refine stpF15 ?_
    refine hK.out _ _ (hS.on (alloc_below w _)) (fun _ => ?_)
    change wpAnyH _ _ _ _ _ _ _ (wpF15 w.heap.size (wpF16 x2 (sqF g z0 z1 z2 z3 z4 z5 a))) _
    rw [wsF15_16]
    exact stF0110 Q w0 a g z0 z1 z2 z3 z4 z5 q1 q2 q3 ha hg hgl hp h1 h2 h3 hQ (w.alloc (.cells #[.bool false, .slice none 0 0, .slice none 0 0] 25)) w.heap.size x2  (hS.on (alloc_below w _)) (below_join hb (alloc_below w _) hb.size) (resz_mk w) hb.size (r2.on (alloc_below w _) r2.lt) k2 (Nat.ne_of_gt r2.lt)
  · refine stpF17 ?_
    refine hK.out _ _ (hS.on (alloc_below w _)) (fun _ => ?_)
    change wpAnyH _ _ _ _ _ _ _ (wpF17 w.heap.size (wpF16 x2 (sqF g z0 z1 z2 z3 z4 z5 a))) _
    exact stF0011 Q w0 a g z0 z1 z2 z3 z4 z5 q1 q2 q3 ha hg hgl hp h1 h2 h3 hQ (w.alloc (.cells #[.bool false, .slice none 0 0, .slice none 0 0] 25)) x2 w.heap.size  (hS.on (alloc_below w _)) (below_join hb (alloc_below w _) hb.size) (r2.on (alloc_below w _) r2.lt) k2 (resz_mk w) hb.size (Nat.ne_of_lt r2.lt)
theorem stF0100 (w : World) (x1 : Nat) (hS : SixC g z0 z1 z2 z3 z4 z5 w) (hb : Below w0.heap.size w0 w) (r1 : ResZ x1 w) (k1 : w0.heap.size ≤ x1) :
    wpAnyH Tryz.prog .any opsF Q (SixC g z0 z1 z2 z3 z4 z5) 8 #[true, true, true, true, false, true, true, true, true, false, true, true, true, true, false, true, false, false, false, false, false] (wpF15 x1 (sqF g z0 z1 z2 z3 z4 z5 a)) w := by
  have _hp := hp
  have _u1 := hg
  have _u2 := h1
  have _u3 := h2
  have _u4 := h3
  have _u5 := hgl
  refine wpAnyH_ready (rs := [4, 16, 17]) (by kernel_rfl) (by simp) (AllReadyH.cons rfl (fun K hK => ?_) (AllReadyH.cons rfl (fun K hK => ?_) (AllReadyH.cons rfl (fun K hK => ?_) AllReadyH.nil)))
  · refine stpF4 (by simp [wpF15, wpF16, wpF17, wpF4, wpF9, wpF14, sqF, eval_put, put_size, ha, hg]) (by simp [wpF15, wpF16, wpF17, wpF4, wpF9, wpF14, sqF, eval_put, put_size, ha, hg]) (h1 w) (fun v1 w' hv hb' => ?_)
    refine hK.out _ _ (hS.on hb') (fun _ => ?_)
    change wpAnyH _ _ _ _ _ _ _ (wpF4 v1 (wpF15 x1 (sqF g z0 z1 z2 z3 z4 z5 a))) _
    exact stF1100 Q w0 a g z0 z1 z2 z3 z4 z5 q1 q2 q3 ha hg hgl hp h1 h2 h3 hQ w' x1 v1 (hS.on hb') (below_join hb hb' hb.size) (r1.on hb' r1.lt) k1 hv
  · refine stpF16 ?_
    refine hK.out _ _ (hS.on (alloc_below w _)) (fun _ => ?_)
    change wpAnyH _ _ _ _ _ _ _ (wpF16 w.heap.size (wpF15 x1 (sqF g z0 z1 z2 z3 z4 z5 a))) _
    exact stF0110 Q w0 a g z0 z1 z2 z3 z4 z5 q1 q2 q3 ha hg hgl hp h1 h2 h3 hQ (w.alloc (.cells #[.bool false, .slice none 0 0, .slice none 0 0] 25)) x1 w.heap.size  (hS.on (alloc_below w _)) (below_join hb (alloc_below w _) hb.size) (r1.on (alloc_below w _) r1.lt) k1 (resz_mk w) hb.size (Nat.ne_of_lt r1.lt)
  · refine stpF17 ?_
    refine hK.out _ _ (hS.on (alloc_below w _)) (fun _ => ?_)
    change wpAnyH _ _ _ _ _ _ _ (wpF17 w.heap.size (wpF15 x1 (sqF g z0 z1 z2 z3 z4 z5 a))) _
    exact stF0101 Q w0 a g z0 z1 z2 z3 z4 z5 q1 q2 q3 ha hg hgl hp h1 h2 h3 hQ (w.alloc (.cells #[.bool false, .slice none 0 0, .slice none 0 0] 25)) x1 w.heap.size  (hS.on (alloc_below w _)) (below_join hb (alloc_below w _) hb.size) (r1.on (alloc_below w _) r1.lt) k1 (resz_mk w) hb.size (Nat.ne_of_lt r1.lt)
theorem stF1000 (w : World) (v1 : Value) (hS : SixC g z0 z1 z2 z3 z4 z5 w) (hb : Below w0.heap.size w0 w) (f1 : Rv w v1 q1) :
    wpAnyH Tryz.prog .any opsF Q (SixC g z0 z1 z2 z3 z4 z5) 8 #[true, true, true, true, true, true, true, true, true, false, true, true, true, true, false, false, false, false, false, false, false] (wpF4 v1 (sqF g z0 z1 z2 z3 z4 z5 a)) w := by
  have _hp := hp
  have _u1 := hg
  have _u2 := h1
  have _u3 := h2
  have _u4 := h3
  have _u5 := hgl
  refine wpAnyH_ready (rs := [9, 15, 16, 17]) (by kernel_rfl) (by simp) (AllReadyH.cons rfl (fun K hK => ?_) (AllReadyH.cons rfl (fun K hK => ?_) (AllReadyH.cons rfl (fun K hK => ?_) (AllReadyH.cons rfl (fun K hK => ?_) AllReadyH.nil))))
  · refine stpF9 (by simp [wpF15, wpF16, wpF17, wpF4, wpF9, wpF14, sqF, eval_put, put_size, ha, hg]) (by simp [wpF15, wpF16, wpF17, wpF4, wpF9, wpF14, sqF, eval_put, put_size, ha, hg]) (h2 w) (fun v2 w' hv hb' => ?_)
    refine hK.out _ _ (hS.on hb') (fun _ => ?_)
    change wpAnyH _ _ _ _ _ _ _ (wpF9 v2 (wpF4 v1 (sqF g z0 z1 z2 z3 z4 z5 a))) _
    exact stF2000 Q w0 a g z0 z1 z2 z3 z4 z5 q1 q2 q3 ha hg hgl hp h1 h2 h3 hQ w'  v1 v2 (hS.on hb') (below_join hb hb' hb.size) (f1.on hb') hv
  · refine stpF15 ?_
    refine hK.out _ _ (hS.on (alloc_below w _)) (fun _ => ?_)
    change wpAnyH _ _ _ _ _ _ _ (wpF15 w.heap.size (wpF4 v1 (sqF g z0 z1 z2 z3 z4 z5 a))) _
    rw [wsF15_4]
    exact stF1100 Q w0 a g z0 z1 z2 z3 z4 z5 q1 q2 q3 ha hg hgl hp h1 h2 h3 hQ (w.alloc (.cells #[.bool false, .slice none 0 0, .slice none 0 0] 25)) w.heap.size v1 (hS.on (alloc_below w _)) (below_join hb (alloc_below w _) hb.size) (resz_mk w) hb.size (f1.on (alloc_below w _))
  · refine stpF16 ?_
    refine hK.out _ _ (hS.on (alloc_below w _)) (fun _ => ?_)
    change wpAnyH _ _ _ _ _ _ _ (wpF16 w.heap.size (wpF4 v1 (sqF g z0 z1 z2 z3 z4 z5 a))) _
    rw [wsF16_4]
    exact stF1010 Q w0 a g z0 z1 z2 z3 z4 z5 q1 q2 q3 ha hg hgl hp h1 h2 h3 hQ (w.alloc (.cells #[.bool false, .slice none 0 0, .slice none 0 0] 25)) w.heap.size v1 (hS.on (alloc_below w _)) (below_join hb (alloc_below w _) hb.size) (resz_mk w) hb.size (f1.on (alloc_below w _))
  · refine stpF17 ?_
    refine hK.out _ _ (hS.on (alloc_below w _)) (fun _ => ?_)
    change wpAnyH _ _ _ _ _ _ _ (wpF17 w.heap.size (wpF4 v1 (sqF g z0 z1 z2 z3 z4 z5 a))) _
    rw [wsF17_4]
    exact stF1001 Q w0 a g z0 z1 z2 z3 z4 z5 q1 q2 q3 ha hg hgl hp h1 h2 h3 hQ (w.alloc (.cells #[.bool false, .slice none 0 0, .slice none 0 0] 25)) w.heap.size v1 (hS.on (alloc_below w _)) (below_join hb (alloc_below w _) hb.size) (resz_mk w) hb.size (f1.on (alloc_below w _))
theorem stF0000 (w : World) (hS : SixC g z0 z1 z2 z3 z4 z5 w) (hb : Below w0.heap.size w0 w) :
    wpAnyH Tryz.prog .any opsF Q (SixC g z0 z1 z2 z3 z4 z5) 9 #[true, true, true, true, false, true, true, true, true, false, true, true, true, true, false, false, false, false, false, false, false] (sqF g z0 z1 z2 z3 z4 z5 a) w := by
  have _hp := hp
  have _u1 := hg
  have _u2 := h1
  have _u3 := h2
  have _u4 := h3
  have _u5 := hgl
  refine wpAnyH_ready (rs := [4, 15, 16, 17]) (by kernel_rfl) (by simp) (AllReadyH.cons rfl (fun K hK => ?_) (AllReadyH.cons rfl (fun K hK => ?_) (AllReadyH.cons rfl (fun K hK => ?_) (AllReadyH.cons rfl (fun K hK => ?_) AllReadyH.nil))))
  · refine stpF4 (by simp [wpF15, wpF16, wpF17, wpF4, wpF9, wpF14, sqF, eval_put, put_size, ha, hg]) (by simp [wpF15, wpF16, wpF17, wpF4, wpF9, wpF14, sqF, eval_put, put_size, ha, hg]) (h1 w) (fun v1 w' hv hb' => ?_)
    refine hK.out _ _ (hS.on hb') (fun _ => ?_)
    change wpAnyH _ _ _ _ _ _ _ (wpF4 v1 (sqF g z0 z1 z2 z3 z4 z5 a)) _
    exact stF1000 Q w0 a g z0 z1 z2 z3 z4 z5 q1 q2 q3 ha hg hgl hp h1 h2 h3 hQ w'  v1 (hS.on hb') (below_join hb hb' hb.size) hv
  · refine stpF15 ?_
    refine hK.out _ _ (hS.on (alloc_below w _)) (fun _ => ?_)
    change wpAnyH _ _ _ _ _ _ _ (wpF15 w.heap.size (sqF g z0 z1 z2 z3 z4 z5 a)) _
    exact stF0100 Q w0 a g z0 z1 z2 z3 z4 z5 q1 q2 q3 ha hg hgl hp h1 h2 h3 hQ (w.alloc (.cells #[.bool false, .slice none 0 0, .slice none 0 0] 25)) w.heap.size  (hS.on (alloc_below w _)) (below_join hb (alloc_below w _) hb.size) (resz_mk w) hb.size
  · refine stpF16 ?_
    refine hK.out _ _ (hS.on (alloc_below w _)) (fun _ => ?_)
    change wpAnyH _ _ _ _ _ _ _ (wpF16 w.heap.size (sqF g z0 z1 z2 z3 z4 z5 a)) _
    exact stF0010 Q w0 a g z0 z1 z2 z3 z4 z5 q1 q2 q3 ha hg hgl hp h1 h2 h3 hQ (w.alloc (.cells #[.bool false, .slice none 0 0, .slice none 0 0] 25)) w.heap.size  (hS.on (alloc_below w _)) (below_join hb (alloc_below w _) hb.size) (resz_mk w) hb.size
  · refine stpF17 ?_
    refine hK.out _ _ (hS.on (alloc_below w _)) (fun _ => ?_)
    change wpAnyH _ _ _ _ _ _ _ (wpF17 w.heap.size (sqF g z0 z1 z2 z3 z4 z5 a)) _
    exact stF0001 Q w0 a g z0 z1 z2 z3 z4 z5 q1 q2 q3 ha hg hgl hp h1 h2 h3 hQ (w.alloc (.cells #[.bool false, .slice none 0 0, .slice none 0 0] 25)) w.heap.size  (hS.on (alloc_below w _)) (below_join hb (alloc_below w _) hb.size) (resz_mk w) hb.size
end
theorem rgF (Q : Exit → Act → World → Prop) (w0 : World) (a : Act) (g : Nat) (z0 z1 z2 z3 z4 z5 : Int) (q1 q2 q3 : Rat) (ha : a.tmps.size = 151) (hg : a.eval (.tmp 1) = .pointer (some ⟨g, 0, none⟩)) (hS : SixC g z0 z1 z2 z3 z4 z5 w0) (hp : ∀ (d : Nat) v c b w, Q (.panic c) (Act.put b (some d) v) w → Q (.panic c) b w)
  (h1 : ∀ X, Calls Tryz.prog 42 #[.int .i16 z0, .int .i16 z1] X (SmallPost q1 X)) (h2 : ∀ X, Calls Tryz.prog 42 #[.int .i16 z2, .int .i16 z3] X (SmallPost q2 X)) (h3 : ∀ X, Calls Tryz.prog 42 #[.int .i16 z4, .int .i16 z5] X (SmallPost q3 X))
  (hQ : ∀ (w : World) (x1 x2 x3 : Nat) (v1 v2 v3 : Value), Below w0.heap.size w0 w → FB w x1 v1 q1 → FB w x2 v2 q2 → FB w x3 v3 q3 → (w0.heap.size ≤ x1 ∧ w0.heap.size ≤ x2 ∧ w0.heap.size ≤ x3 ∧ x1 ≠ x2 ∧ x1 ≠ x3 ∧ x2 ≠ x3) → Q .normal (wpF14 v3 (wpF9 v2 (wpF4 v1 (wpF17 x3 (wpF16 x2 (wpF15 x1 (sqF g z0 z1 z2 z3 z4 z5 a))))))) w) :
    (Code.region 1 opsF true).wp Tryz.prog Q a w0 := by
  have hgl := hS.1
  have hS' : SixC g z0 z1 z2 z3 z4 z5 w0.drew := hS.on (Below.refl _ _).drew
  refine wp_region_held (S := SixC g z0 z1 z2 z3 z4 z5) (by kernel_rfl) ?_
  refine wpAnyH_take (i := 0) rfl (by kernel_rfl) (by kernel_rfl) (by kernel_rfl) (fun c b w h => hp _ _ c b w h) (ylF0 (g := g) (by simp [eval_put, put_size, ha, hg])) hS' ?_
  change wpAnyH _ _ _ _ _ _ _ (a.put (some 19) (.pointer (some ⟨g, 0, none⟩))) _
  refine wpAnyH_take (i := 1) rfl (by kernel_rfl) (by kernel_rfl) (by kernel_rfl) (fun c b w h => hp _ _ c b w h) (ylF1 (g := g) (by simp [eval_put, put_size, ha, hg])) hS' ?_
  change wpAnyH _ _ _ _ _ _ _ ((a.put (some 19) (.pointer (some ⟨g, 0, none⟩))).put (some 20) (.int .i16 z0)) _
  refine wpAnyH_take (i := 2) rfl (by kernel_rfl) (by kernel_rfl) (by kernel_rfl) (fun c b w h => hp _ _ c b w h) (ylF2 (g := g) (by simp [eval_put, put_size, ha, hg])) hS' ?_
  change wpAnyH _ _ _ _ _ _ _ (((a.put (some 19) (.pointer (some ⟨g, 0, none⟩))).put (some 20) (.int .i16 z0)).put (some 21) (.pointer (some ⟨g, 1, none⟩))) _
  refine wpAnyH_take (i := 3) rfl (by kernel_rfl) (by kernel_rfl) (by kernel_rfl) (fun c b w h => hp _ _ c b w h) (ylF3 (g := g) (by simp [eval_put, put_size, ha, hg])) hS' ?_
  change wpAnyH _ _ _ _ _ _ _ ((((a.put (some 19) (.pointer (some ⟨g, 0, none⟩))).put (some 20) (.int .i16 z0)).put (some 21) (.pointer (some ⟨g, 1, none⟩))).put (some 22) (.int .i16 z1)) _
  refine wpAnyH_take (i := 5) rfl (by kernel_rfl) (by kernel_rfl) (by kernel_rfl) (fun c b w h => hp _ _ c b w h) (ylF5 (g := g) (by simp [eval_put, put_size, ha, hg])) hS' ?_
  change wpAnyH _ _ _ _ _ _ _ (((((a.put (some 19) (.pointer (some ⟨g, 0, none⟩))).put (some 20) (.int .i16 z0)).put (some 21) (.pointer (some ⟨g, 1, none⟩))).put (some 22) (.int .i16 z1)).put (some 24) (.pointer (some ⟨g, 2, none⟩))) _
  refine wpAnyH_take (i := 6) rfl (by kernel_rfl) (by kernel_rfl) (by kernel_rfl) (fun c b w h => hp _ _ c b w h) (ylF6 (g := g) (by simp [eval_put, put_size, ha, hg])) hS' ?_
  change wpAnyH _ _ _ _ _ _ _ ((((((a.put (some 19) (.pointer (some ⟨g, 0, none⟩))).put (some 20) (.int .i16 z0)).put (some 21) (.pointer (some ⟨g, 1, none⟩))).put (some 22) (.int .i16 z1)).put (some 24) (.pointer (some ⟨g, 2, none⟩))).put (some 25) (.int .i16 z2)) _
  refine wpAnyH_take (i := 7) rfl (by kernel_rfl) (by kernel_rfl) (by kernel_rfl) (fun c b w h => hp _ _ c b w h) (ylF7 (g := g) (by simp [eval_put, put_size, ha, hg])) hS' ?_
  change wpAnyH _ _ _ _ _ _ _ (((((((a.put (some 19) (.pointer (some ⟨g, 0, none⟩))).put (some 20) (.int .i16 z0)).put (some 21) (.pointer (some ⟨g, 1, none⟩))).put (some 22) (.int .i16 z1)).put (some 24) (.pointer (some ⟨g, 2, none⟩))).put (some 25) (.int .i16 z2)).put (some 26) (.pointer (some ⟨g, 3, none⟩))) _
  refine wpAnyH_take (i := 8) rfl (by kernel_rfl) (by kernel_rfl) (by kernel_rfl) (fun c b w h => hp _ _ c b w h) (ylF8 (g := g) (by simp [eval_put, put_size, ha, hg])) hS' ?_
  change wpAnyH _ _ _ _ _ _ _ ((((((((a.put (some 19) (.pointer (some ⟨g, 0, none⟩))).put (some 20) (.int .i16 z0)).put (some 21) (.pointer (some ⟨g, 1, none⟩))).put (some 22) (.int .i16 z1)).put (some 24) (.pointer (some ⟨g, 2, none⟩))).put (some 25) (.int .i16 z2)).put (some 26) (.pointer (some ⟨g, 3, none⟩))).put (some 27) (.int .i16 z3)) _
  refine wpAnyH_take (i := 10) rfl (by kernel_rfl) (by kernel_rfl) (by kernel_rfl) (fun c b w h => hp _ _ c b w h) (ylF10 (g := g) (by simp [eval_put, put_size, ha, hg])) hS' ?_
  change wpAnyH _ _ _ _ _ _ _ (((((((((a.put (some 19) (.pointer (some ⟨g, 0, none⟩))).put (some 20) (.int .i16 z0)).put (some 21) (.pointer (some ⟨g, 1, none⟩))).put (some 22) (.int .i16 z1)).put (some 24) (.pointer (some ⟨g, 2, none⟩))).put (some 25) (.int .i16 z2)).put (some 26) (.pointer (some ⟨g, 3, none⟩))).put (some 27) (.int .i16 z3)).put (some 29) (.pointer (some ⟨g, 4, none⟩))) _
  refine wpAnyH_take (i := 11) rfl (by kernel_rfl) (by kernel_rfl) (by kernel_rfl) (fun c b w h => hp _ _ c b w h) (ylF11 (g := g) (by simp [eval_put, put_size, ha, hg])) hS' ?_
  change wpAnyH _ _ _ _ _ _ _ ((((((((((a.put (some 19) (.pointer (some ⟨g, 0, none⟩))).put (some 20) (.int .i16 z0)).put (some 21) (.pointer (some ⟨g, 1, none⟩))).put (some 22) (.int .i16 z1)).put (some 24) (.pointer (some ⟨g, 2, none⟩))).put (some 25) (.int .i16 z2)).put (some 26) (.pointer (some ⟨g, 3, none⟩))).put (some 27) (.int .i16 z3)).put (some 29) (.pointer (some ⟨g, 4, none⟩))).put (some 30) (.int .i16 z4)) _
  refine wpAnyH_take (i := 12) rfl (by kernel_rfl) (by kernel_rfl) (by kernel_rfl) (fun c b w h => hp _ _ c b w h) (ylF12 (g := g) (by simp [eval_put, put_size, ha, hg])) hS' ?_
  change wpAnyH _ _ _ _ _ _ _ (((((((((((a.put (some 19) (.pointer (some ⟨g, 0, none⟩))).put (some 20) (.int .i16 z0)).put (some 21) (.pointer (some ⟨g, 1, none⟩))).put (some 22) (.int .i16 z1)).put (some 24) (.pointer (some ⟨g, 2, none⟩))).put (some 25) (.int .i16 z2)).put (some 26) (.pointer (some ⟨g, 3, none⟩))).put (some 27) (.int .i16 z3)).put (some 29) (.pointer (some ⟨g, 4, none⟩))).put (some 30) (.int .i16 z4)).put (some 31) (.pointer (some ⟨g, 5, none⟩))) _
  refine wpAnyH_take (i := 13) rfl (by kernel_rfl) (by kernel_rfl) (by kernel_rfl) (fun c b w h => hp _ _ c b w h) (ylF13 (g := g) (by simp [eval_put, put_size, ha, hg])) hS' ?_
  change wpAnyH _ _ _ _ _ _ _ ((((((((((((a.put (some 19) (.pointer (some ⟨g, 0, none⟩))).put (some 20) (.int .i16 z0)).put (some 21) (.pointer (some ⟨g, 1, none⟩))).put (some 22) (.int .i16 z1)).put (some 24) (.pointer (some ⟨g, 2, none⟩))).put (some 25) (.int .i16 z2)).put (some 26) (.pointer (some ⟨g, 3, none⟩))).put (some 27) (.int .i16 z3)).put (some 29) (.pointer (some ⟨g, 4, none⟩))).put (some 30) (.int .i16 z4)).put (some 31) (.pointer (some ⟨g, 5, none⟩))).put (some 32) (.int .i16 z5)) _
  exact stF0000 Q w0 a g z0 z1 z2 z3 z4 z5 q1 q2 q3 ha hg hgl hp h1 h2 h3 hQ w0.drew hS' (Below.refl _ _).drew
end Go.Proofs.YtfdkdloldjfnjaaGreatDoor
