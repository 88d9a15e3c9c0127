/-
  DERIVED. The list of wrong arguments of LinearKnown: made in whatever order (stage 6). (Written by gen/genCG.py.)
-/
import Derived.Test.YthghinkicaafmaaCG
import Derived.BigRegion
namespace Go.Proofs.Ythghinkicaafmaa
open Go.RowKit
set_option maxRecDepth 100000
set_option linter.unusedSimpArgs false

section
variable (Q : Exit → Act → World → Prop) (w0 : World) (a : Act) (ha : a.tmps.size = 348) (hp : ∀ (d : Nat) v c b w, Q (.panic c) (Act.put b (some d) v) w → Q (.panic c) b w)
  (hQ : ∀ (w : World) (xa xb xb2 xc xc2 xd xd2 : Nat), Below w0.heap.size w0 w → LiSl w (.slice (some ⟨xa, 0, none⟩) 17 17) (List.replicate 17 []) → LiSl w (.slice (some ⟨xb2, 0, none⟩) 1 1) [List.replicate 1001 0] → LiSl w (.slice (some ⟨xc2, 0, none⟩) 2 2) [[], [-1]] → LiSl w (.slice (some ⟨xd2, 0, none⟩) 1 1) [[100000001]] → Q .normal (((wp14 xd2 (wp13 xd2 (wp12 xd (wp11 xc2 (wp10 xc2 (wp9 xc (wp8 xb2 (wp7 xb2 (wp6 xb (wp5 xa (wp4 xa (wp3 (wp2 (wp1 (wp0 a))))))))))))))).put (some 135) (.slice (some ⟨w.heap.size, 0, none⟩) 8 8)).put (some 13) (.slice (some ⟨w.heap.size, 0, none⟩) 8 8)) (w.alloc (.cells #[.int .i64 0, .slice none 0 0, .int .i64 (-1), .slice none 0 0, .int .i64 0, .int .i64 0, .int .i64 0, .int .i64 0, .slice none 0 0, .int .i64 100000001, .slice none 0 0, .int .i64 0, .int .i64 0, .int .i64 0, .int .i64 0, .slice none 0 0, .int .i64 0, .slice none 0 0, .int .i64 (-1), .int .i64 0, .int .i64 0, .int .i64 0, .slice none 0 0, .int .i64 0, .slice none 0 0, .int .i64 1001, .int .i64 0, .int .i64 0, .int .i64 0, .slice none 0 0, .int .i64 0, .slice (some ⟨xa, 0, none⟩) 17 17, .int .i64 0, .int .i64 0, .int .i64 0, .int .i64 0, .slice none 0 0, .int .i64 0, .slice (some ⟨xb2, 0, none⟩) 1 1, .int .i64 0, .int .i64 0, .int .i64 0, .int .i64 0, .slice none 0 0, .int .i64 0, .slice (some ⟨xc2, 0, none⟩) 2 2, .int .i64 0, .int .i64 0, .int .i64 0, .int .i64 0, .slice none 0 0, .int .i64 0, .slice (some ⟨xd2, 0, none⟩) 1 1, .int .i64 0, .int .i64 0, .int .i64 0] 27)))
include ha hp hQ
theorem st1222 (w : World) (xa xb xb2 xc xc2 xd xd2 : Nat) (hb : Below w0.heap.size w0 w) (fa : LiSl w (.slice (some ⟨xa, 0, none⟩) 17 17) (List.replicate 17 [])) (fb2 : LiSl w (.slice (some ⟨xb2, 0, none⟩) 1 1) [List.replicate 1001 0]) (fc2 : LiSl w (.slice (some ⟨xc2, 0, none⟩) 2 2) [[], [-1]]) (fd2 : LiSl w (.slice (some ⟨xd2, 0, none⟩) 1 1) [[100000001]]) :
    wpAny Try.prog .any wrOps Q 2 #[true, true, true, true, true, true, true, true, true, true, true, true, true, true, true, false, false] (wp14 xd2 (wp13 xd2 (wp12 xd (wp11 xc2 (wp10 xc2 (wp9 xc (wp8 xb2 (wp7 xb2 (wp6 xb (wp5 xa (wp4 xa (wp3 (wp2 (wp1 (wp0 a))))))))))))))) w := by
  have _hp := hp
  refine wpAny_ready (rs := [15]) (by kernel_rfl) (by simp) (AllReady.cons rfl (fun K hK => ?_) AllReady.nil)
  refine stp15 (xa := xa) (xb2 := xb2) (xc2 := xc2) (xd2 := xd2) (by simp [wp0, wp1, wp2, wp3, wp4, wp5, wp6, wp7, wp8, wp9, wp10, wp11, wp12, wp13, wp14, eval_put, put_size, ha]) (by simp [wp0, wp1, wp2, wp3, wp4, wp5, wp6, wp7, wp8, wp9, wp10, wp11, wp12, wp13, wp14, eval_put, put_size, ha]) (by simp [wp0, wp1, wp2, wp3, wp4, wp5, wp6, wp7, wp8, wp9, wp10, wp11, wp12, wp13, wp14, eval_put, put_size, ha]) (by simp [wp0, wp1, wp2, wp3, wp4, wp5, wp6, wp7, wp8, wp9, wp10, wp11, wp12, wp13, wp14, eval_put, put_size, ha]) (by simp [wp0, wp1, wp2, wp3, wp4, wp5, wp6, wp7, wp8, wp9, wp10, wp11, wp12, wp13, wp14, eval_put, put_size, ha]) (by simp [wp0, wp1, wp2, wp3, wp4, wp5, wp6, wp7, wp8, wp9, wp10, wp11, wp12, wp13, wp14, eval_put, put_size, ha]) (by simp [wp0, wp1, wp2, wp3, wp4, wp5, wp6, wp7, wp8, wp9, wp10, wp11, wp12, wp13, wp14, eval_put, put_size, ha]) (by simp [wp0, wp1, wp2, wp3, wp4, wp5, wp6, wp7, wp8, wp9, wp10, wp11, wp12, wp13, wp14, eval_put, put_size, ha]) (hK _ _ ?_)
  refine wpAny_ready (rs := [16]) (by kernel_rfl) (by simp) (AllReady.cons rfl (fun K hK => ?_) AllReady.nil)
  exact stp16 (by simp [wp0, wp1, wp2, wp3, wp4, wp5, wp6, wp7, wp8, wp9, wp10, wp11, wp12, wp13, wp14, eval_put, put_size, ha]) (hK _ _ (wpAny_done (by kernel_rfl) (hQ w xa xb xb2 xc xc2 xd xd2 hb fa fb2 fc2 fd2) 0))
theorem st0222 (w : World) (xb xb2 xc xc2 xd xd2 : Nat) (hb : Below w0.heap.size w0 w) (fb2 : LiSl w (.slice (some ⟨xb2, 0, none⟩) 1 1) [List.replicate 1001 0]) (fc2 : LiSl w (.slice (some ⟨xc2, 0, none⟩) 2 2) [[], [-1]]) (fd2 : LiSl w (.slice (some ⟨xd2, 0, none⟩) 1 1) [[100000001]]) :
    wpAny Try.prog .any wrOps Q 4 #[true, true, true, true, false, false, true, true, true, true, true, true, true, true, true, false, false] (wp14 xd2 (wp13 xd2 (wp12 xd (wp11 xc2 (wp10 xc2 (wp9 xc (wp8 xb2 (wp7 xb2 (wp6 xb (wp3 (wp2 (wp1 (wp0 a))))))))))))) w := by
  refine wpAny_ready (rs := [4]) (by kernel_rfl) (by simp) (AllReady.cons rfl (fun K hK => ?_) AllReady.nil)
  · refine stp4 (hK _ _ ?_)
    refine wpAny_take (i := 5) rfl (by kernel_rfl) (by kernel_rfl) (by kernel_rfl) (fun c b w h => hp _ _ c b w h) (yl5 (xa := w.heap.size) (by simp [wp0, wp1, wp2, wp3, wp4, wp5, wp6, wp7, wp8, wp9, wp10, wp11, wp12, wp13, wp14, eval_put, put_size, ha])) ?_
    change wpAny _ _ _ _ _ _ (wp5 w.heap.size (wp4 w.heap.size (wp14 xd2 (wp13 xd2 (wp12 xd (wp11 xc2 (wp10 xc2 (wp9 xc (wp8 xb2 (wp7 xb2 (wp6 xb (wp3 (wp2 (wp1 (wp0 a))))))))))))))) _
    rw [ws4_14, ws4_13, ws4_12, ws4_11, ws4_10, ws4_9, ws4_8, ws4_7, ws4_6, ws5_14, ws5_13, ws5_12, ws5_11, ws5_10, ws5_9, ws5_8, ws5_7, ws5_6]
    exact st1222 Q w0 a ha hp hQ (w.alloc (.cells zc17 32)) w.heap.size xb xb2 xc xc2 xd xd2 (hb.alloc hb.size _) (li_zeros17 w) (fb2.on (alloc_below w (.cells zc17 32)) (Nat.le_refl _)) (fc2.on (alloc_below w (.cells zc17 32)) (Nat.le_refl _)) (fd2.on (alloc_below w (.cells zc17 32)) (Nat.le_refl _))
theorem st1122 (w : World) (xa xb xc xc2 xd xd2 : Nat) (hb : Below w0.heap.size w0 w) (fa : LiSl w (.slice (some ⟨xa, 0, none⟩) 17 17) (List.replicate 17 [])) (fb : IntSl w (.slice (some ⟨xb, 0, none⟩) 1001 1001) (List.replicate 1001 0)) (fc2 : LiSl w (.slice (some ⟨xc2, 0, none⟩) 2 2) [[], [-1]]) (fd2 : LiSl w (.slice (some ⟨xd2, 0, none⟩) 1 1) [[100000001]]) :
    wpAny Try.prog .any wrOps Q 4 #[true, true, true, true, true, true, true, false, false, true, true, true, true, true, true, false, false] (wp14 xd2 (wp13 xd2 (wp12 xd (wp11 xc2 (wp10 xc2 (wp9 xc (wp6 xb (wp5 xa (wp4 xa (wp3 (wp2 (wp1 (wp0 a))))))))))))) w := by
  refine wpAny_ready (rs := [7]) (by kernel_rfl) (by simp) (AllReady.cons rfl (fun K hK => ?_) AllReady.nil)
  · refine stp7 (x := xb) (by simp [wp0, wp1, wp2, wp3, wp4, wp5, wp6, wp7, wp8, wp9, wp10, wp11, wp12, wp13, wp14, eval_put, put_size, ha]) (hK _ _ ?_)
    refine wpAny_take (i := 8) rfl (by kernel_rfl) (by kernel_rfl) (by kernel_rfl) (fun c b w h => hp _ _ c b w h) (yl8 (xb2 := w.heap.size) (by simp [wp0, wp1, wp2, wp3, wp4, wp5, wp6, wp7, wp8, wp9, wp10, wp11, wp12, wp13, wp14, eval_put, put_size, ha])) ?_
    change wpAny _ _ _ _ _ _ (wp8 w.heap.size (wp7 w.heap.size (wp14 xd2 (wp13 xd2 (wp12 xd (wp11 xc2 (wp10 xc2 (wp9 xc (wp6 xb (wp5 xa (wp4 xa (wp3 (wp2 (wp1 (wp0 a))))))))))))))) _
    rw [ws7_14, ws7_13, ws7_12, ws7_11, ws7_10, ws7_9, ws8_14, ws8_13, ws8_12, ws8_11, ws8_10, ws8_9]
    exact st1222 Q w0 a ha hp hQ (w.alloc (.cells #[.slice (some ⟨xb, 0, none⟩) 1001 1001] 32)) xa xb w.heap.size xc xc2 xd xd2 (hb.alloc hb.size _) (fa.on (alloc_below w (.cells #[.slice (some ⟨xb, 0, none⟩) 1001 1001] 32)) (Nat.le_refl _)) (li_one fb) (fc2.on (alloc_below w (.cells #[.slice (some ⟨xb, 0, none⟩) 1001 1001] 32)) (Nat.le_refl _)) (fd2.on (alloc_below w (.cells #[.slice (some ⟨xb, 0, none⟩) 1001 1001] 32)) (Nat.le_refl _))
theorem st1212 (w : World) (xa xb xb2 xc xd xd2 : Nat) (hb : Below w0.heap.size w0 w) (fa : LiSl w (.slice (some ⟨xa, 0, none⟩) 17 17) (List.replicate 17 [])) (fb2 : LiSl w (.slice (some ⟨xb2, 0, none⟩) 1 1) [List.replicate 1001 0]) (fc : IntSl w (.slice (some ⟨xc, 0, none⟩) 1 1) [-1]) (fd2 : LiSl w (.slice (some ⟨xd2, 0, none⟩) 1 1) [[100000001]]) :
    wpAny Try.prog .any wrOps Q 4 #[true, true, true, true, true, true, true, true, true, true, false, false, true, true, true, false, false] (wp14 xd2 (wp13 xd2 (wp12 xd (wp9 xc (wp8 xb2 (wp7 xb2 (wp6 xb (wp5 xa (wp4 xa (wp3 (wp2 (wp1 (wp0 a))))))))))))) w := by
  refine wpAny_ready (rs := [10]) (by kernel_rfl) (by simp) (AllReady.cons rfl (fun K hK => ?_) AllReady.nil)
  · refine stp10 (x := xc) (by simp [wp0, wp1, wp2, wp3, wp4, wp5, wp6, wp7, wp8, wp9, wp10, wp11, wp12, wp13, wp14, eval_put, put_size, ha]) (hK _ _ ?_)
    refine wpAny_take (i := 11) rfl (by kernel_rfl) (by kernel_rfl) (by kernel_rfl) (fun c b w h => hp _ _ c b w h) (yl11 (xc2 := w.heap.size) (by simp [wp0, wp1, wp2, wp3, wp4, wp5, wp6, wp7, wp8, wp9, wp10, wp11, wp12, wp13, wp14, eval_put, put_size, ha])) ?_
    change wpAny _ _ _ _ _ _ (wp11 w.heap.size (wp10 w.heap.size (wp14 xd2 (wp13 xd2 (wp12 xd (wp9 xc (wp8 xb2 (wp7 xb2 (wp6 xb (wp5 xa (wp4 xa (wp3 (wp2 (wp1 (wp0 a))))))))))))))) _
    rw [ws10_14, ws10_13, ws10_12, ws11_14, ws11_13, ws11_12]
    exact st1222 Q w0 a ha hp hQ (w.alloc (.cells #[.slice none 0 0, .slice (some ⟨xc, 0, none⟩) 1 1] 32)) xa xb xb2 xc w.heap.size xd xd2 (hb.alloc hb.size _) (fa.on (alloc_below w (.cells #[.slice none 0 0, .slice (some ⟨xc, 0, none⟩) 1 1] 32)) (Nat.le_refl _)) (fb2.on (alloc_below w (.cells #[.slice none 0 0, .slice (some ⟨xc, 0, none⟩) 1 1] 32)) (Nat.le_refl _)) (li_two fc) (fd2.on (alloc_below w (.cells #[.slice none 0 0, .slice (some ⟨xc, 0, none⟩) 1 1] 32)) (Nat.le_refl _))
theorem st1221 (w : World) (xa xb xb2 xc xc2 xd : Nat) (hb : Below w0.heap.size w0 w) (fa : LiSl w (.slice (some ⟨xa, 0, none⟩) 17 17) (List.replicate 17 [])) (fb2 : LiSl w (.slice (some ⟨xb2, 0, none⟩) 1 1) [List.replicate 1001 0]) (fc2 : LiSl w (.slice (some ⟨xc2, 0, none⟩) 2 2) [[], [-1]]) (fd : IntSl w (.slice (some ⟨xd, 0, none⟩) 1 1) [100000001]) :
    wpAny Try.prog .any wrOps Q 4 #[true, true, true, true, true, true, true, true, true, true, true, true, true, false, false, false, false] (wp12 xd (wp11 xc2 (wp10 xc2 (wp9 xc (wp8 xb2 (wp7 xb2 (wp6 xb (wp5 xa (wp4 xa (wp3 (wp2 (wp1 (wp0 a))))))))))))) w := by
  refine wpAny_ready (rs := [13]) (by kernel_rfl) (by simp) (AllReady.cons rfl (fun K hK => ?_) AllReady.nil)
  · refine stp13 (x := xd) (by simp [wp0, wp1, wp2, wp3, wp4, wp5, wp6, wp7, wp8, wp9, wp10, wp11, wp12, wp13, wp14, eval_put, put_size, ha]) (hK _ _ ?_)
    refine wpAny_take (i := 14) rfl (by kernel_rfl) (by kernel_rfl) (by kernel_rfl) (fun c b w h => hp _ _ c b w h) (yl14 (xd2 := w.heap.size) (by simp [wp0, wp1, wp2, wp3, wp4, wp5, wp6, wp7, wp8, wp9, wp10, wp11, wp12, wp13, wp14, eval_put, put_size, ha])) ?_
    change wpAny _ _ _ _ _ _ (wp14 w.heap.size (wp13 w.heap.size (wp12 xd (wp11 xc2 (wp10 xc2 (wp9 xc (wp8 xb2 (wp7 xb2 (wp6 xb (wp5 xa (wp4 xa (wp3 (wp2 (wp1 (wp0 a))))))))))))))) _
    exact st1222 Q w0 a ha hp hQ (w.alloc (.cells #[.slice (some ⟨xd, 0, none⟩) 1 1] 32)) xa xb xb2 xc xc2 xd w.heap.size (hb.alloc hb.size _) (fa.on (alloc_below w (.cells #[.slice (some ⟨xd, 0, none⟩) 1 1] 32)) (Nat.le_refl _)) (fb2.on (alloc_below w (.cells #[.slice (some ⟨xd, 0, none⟩) 1 1] 32)) (Nat.le_refl _)) (fc2.on (alloc_below w (.cells #[.slice (some ⟨xd, 0, none⟩) 1 1] 32)) (Nat.le_refl _)) (li_one fd)
theorem st1022 (w : World) (xa xc xc2 xd xd2 : Nat) (hb : Below w0.heap.size w0 w) (fa : LiSl w (.slice (some ⟨xa, 0, none⟩) 17 17) (List.replicate 17 [])) (fc2 : LiSl w (.slice (some ⟨xc2, 0, none⟩) 2 2) [[], [-1]]) (fd2 : LiSl w (.slice (some ⟨xd2, 0, none⟩) 1 1) [[100000001]]) :
    wpAny Try.prog .any wrOps Q 5 #[true, true, true, true, true, true, false, false, false, true, true, true, true, true, true, false, false] (wp14 xd2 (wp13 xd2 (wp12 xd (wp11 xc2 (wp10 xc2 (wp9 xc (wp5 xa (wp4 xa (wp3 (wp2 (wp1 (wp0 a)))))))))))) w := by
  refine wpAny_ready (rs := [6]) (by kernel_rfl) (by simp) (AllReady.cons rfl (fun K hK => ?_) AllReady.nil)
  · refine stp6 (hK _ _ ?_)
    change wpAny _ _ _ _ _ _ (wp6 w.heap.size (wp14 xd2 (wp13 xd2 (wp12 xd (wp11 xc2 (wp10 xc2 (wp9 xc (wp5 xa (wp4 xa (wp3 (wp2 (wp1 (wp0 a))))))))))))) _
    rw [ws6_14, ws6_13, ws6_12, ws6_11, ws6_10, ws6_9]
    exact st1122 Q w0 a ha hp hQ (w.alloc (.cells zc1001 3)) xa w.heap.size xc xc2 xd xd2 (hb.alloc hb.size _) (fa.on (alloc_below w (.cells zc1001 3)) (Nat.le_refl _)) (int_zeros w) (fc2.on (alloc_below w (.cells zc1001 3)) (Nat.le_refl _)) (fd2.on (alloc_below w (.cells zc1001 3)) (Nat.le_refl _))
theorem st1202 (w : World) (xa xb xb2 xd xd2 : Nat) (hb : Below w0.heap.size w0 w) (fa : LiSl w (.slice (some ⟨xa, 0, none⟩) 17 17) (List.replicate 17 [])) (fb2 : LiSl w (.slice (some ⟨xb2, 0, none⟩) 1 1) [List.replicate 1001 0]) (fd2 : LiSl w (.slice (some ⟨xd2, 0, none⟩) 1 1) [[100000001]]) :
    wpAny Try.prog .any wrOps Q 5 #[true, true, true, true, true, true, true, true, true, false, false, false, true, true, true, false, false] (wp14 xd2 (wp13 xd2 (wp12 xd (wp8 xb2 (wp7 xb2 (wp6 xb (wp5 xa (wp4 xa (wp3 (wp2 (wp1 (wp0 a)))))))))))) w := by
  refine wpAny_ready (rs := [9]) (by kernel_rfl) (by simp) (AllReady.cons rfl (fun K hK => ?_) AllReady.nil)
  · refine stp9 (hK _ _ ?_)
    change wpAny _ _ _ _ _ _ (wp9 w.heap.size (wp14 xd2 (wp13 xd2 (wp12 xd (wp8 xb2 (wp7 xb2 (wp6 xb (wp5 xa (wp4 xa (wp3 (wp2 (wp1 (wp0 a))))))))))))) _
    rw [ws9_14, ws9_13, ws9_12]
    exact st1212 Q w0 a ha hp hQ (w.alloc (.cells #[.int .i64 (-1)] 3)) xa xb xb2 w.heap.size xd xd2 (hb.alloc hb.size _) (fa.on (alloc_below w (.cells #[.int .i64 (-1)] 3)) (Nat.le_refl _)) (fb2.on (alloc_below w (.cells #[.int .i64 (-1)] 3)) (Nat.le_refl _)) (int_one w (-1)) (fd2.on (alloc_below w (.cells #[.int .i64 (-1)] 3)) (Nat.le_refl _))
theorem st1220 (w : World) (xa xb xb2 xc xc2 : Nat) (hb : Below w0.heap.size w0 w) (fa : LiSl w (.slice (some ⟨xa, 0, none⟩) 17 17) (List.replicate 17 [])) (fb2 : LiSl w (.slice (some ⟨xb2, 0, none⟩) 1 1) [List.replicate 1001 0]) (fc2 : LiSl w (.slice (some ⟨xc2, 0, none⟩) 2 2) [[], [-1]]) :
    wpAny Try.prog .any wrOps Q 5 #[true, true, true, true, true, true, true, true, true, true, true, true, false, false, false, false, false] (wp11 xc2 (wp10 xc2 (wp9 xc (wp8 xb2 (wp7 xb2 (wp6 xb (wp5 xa (wp4 xa (wp3 (wp2 (wp1 (wp0 a)))))))))))) w := by
  refine wpAny_ready (rs := [12]) (by kernel_rfl) (by simp) (AllReady.cons rfl (fun K hK => ?_) AllReady.nil)
  · refine stp12 (hK _ _ ?_)
    change wpAny _ _ _ _ _ _ (wp12 w.heap.size (wp11 xc2 (wp10 xc2 (wp9 xc (wp8 xb2 (wp7 xb2 (wp6 xb (wp5 xa (wp4 xa (wp3 (wp2 (wp1 (wp0 a))))))))))))) _
    exact st1221 Q w0 a ha hp hQ (w.alloc (.cells #[.int .i64 100000001] 3)) xa xb xb2 xc xc2 w.heap.size (hb.alloc hb.size _) (fa.on (alloc_below w (.cells #[.int .i64 100000001] 3)) (Nat.le_refl _)) (fb2.on (alloc_below w (.cells #[.int .i64 100000001] 3)) (Nat.le_refl _)) (fc2.on (alloc_below w (.cells #[.int .i64 100000001] 3)) (Nat.le_refl _)) (int_one w 100000001)
theorem st0122 (w : World) (xb xc xc2 xd xd2 : Nat) (hb : Below w0.heap.size w0 w) (fb : IntSl w (.slice (some ⟨xb, 0, none⟩) 1001 1001) (List.replicate 1001 0)) (fc2 : LiSl w (.slice (some ⟨xc2, 0, none⟩) 2 2) [[], [-1]]) (fd2 : LiSl w (.slice (some ⟨xd2, 0, none⟩) 1 1) [[100000001]]) :
    wpAny Try.prog .any wrOps Q 6 #[true, true, true, true, false, false, true, false, false, true, true, true, true, true, true, false, false] (wp14 xd2 (wp13 xd2 (wp12 xd (wp11 xc2 (wp10 xc2 (wp9 xc (wp6 xb (wp3 (wp2 (wp1 (wp0 a))))))))))) w := by
  refine wpAny_ready (rs := [4, 7]) (by kernel_rfl) (by simp) (AllReady.cons rfl (fun K hK => ?_) (AllReady.cons rfl (fun K hK => ?_) AllReady.nil))
  · refine stp4 (hK _ _ ?_)
    refine wpAny_take (i := 5) rfl (by kernel_rfl) (by kernel_rfl) (by kernel_rfl) (fun c b w h => hp _ _ c b w h) (yl5 (xa := w.heap.size) (by simp [wp0, wp1, wp2, wp3, wp4, wp5, wp6, wp7, wp8, wp9, wp10, wp11, wp12, wp13, wp14, eval_put, put_size, ha])) ?_
    change wpAny _ _ _ _ _ _ (wp5 w.heap.size (wp4 w.heap.size (wp14 xd2 (wp13 xd2 (wp12 xd (wp11 xc2 (wp10 xc2 (wp9 xc (wp6 xb (wp3 (wp2 (wp1 (wp0 a))))))))))))) _
    rw [ws4_14, ws4_13, ws4_12, ws4_11, ws4_10, ws4_9, ws4_6, ws5_14, ws5_13, ws5_12, ws5_11, ws5_10, ws5_9, ws5_6]
    exact st1122 Q w0 a ha hp hQ (w.alloc (.cells zc17 32)) w.heap.size xb xc xc2 xd xd2 (hb.alloc hb.size _) (li_zeros17 w) (fb.on (alloc_below w (.cells zc17 32)) (Nat.le_refl _)) (fc2.on (alloc_below w (.cells zc17 32)) (Nat.le_refl _)) (fd2.on (alloc_below w (.cells zc17 32)) (Nat.le_refl _))
  · refine stp7 (x := xb) (by simp [wp0, wp1, wp2, wp3, wp4, wp5, wp6, wp7, wp8, wp9, wp10, wp11, wp12, wp13, wp14, eval_put, put_size, ha]) (hK _ _ ?_)
    refine wpAny_take (i := 8) rfl (by kernel_rfl) (by kernel_rfl) (by kernel_rfl) (fun c b w h => hp _ _ c b w h) (yl8 (xb2 := w.heap.size) (by simp [wp0, wp1, wp2, wp3, wp4, wp5, wp6, wp7, wp8, wp9, wp10, wp11, wp12, wp13, wp14, eval_put, put_size, ha])) ?_
    change wpAny _ _ _ _ _ _ (wp8 w.heap.size (wp7 w.heap.size (wp14 xd2 (wp13 xd2 (wp12 xd (wp11 xc2 (wp10 xc2 (wp9 xc (wp6 xb (wp3 (wp2 (wp1 (wp0 a))))))))))))) _
    rw [ws7_14, ws7_13, ws7_12, ws7_11, ws7_10, ws7_9, ws8_14, ws8_13, ws8_12, ws8_11, ws8_10, ws8_9]
    exact st0222 Q w0 a ha hp hQ (w.alloc (.cells #[.slice (some ⟨xb, 0, none⟩) 1001 1001] 32)) xb w.heap.size xc xc2 xd xd2 (hb.alloc hb.size _) (li_one fb) (fc2.on (alloc_below w (.cells #[.slice (some ⟨xb, 0, none⟩) 1001 1001] 32)) (Nat.le_refl _)) (fd2.on (alloc_below w (.cells #[.slice (some ⟨xb, 0, none⟩) 1001 1001] 32)) (Nat.le_refl _))
theorem st0212 (w : World) (xb xb2 xc xd xd2 : Nat) (hb : Below w0.heap.size w0 w) (fb2 : LiSl w (.slice (some ⟨xb2, 0, none⟩) 1 1) [List.replicate 1001 0]) (fc : IntSl w (.slice (some ⟨xc, 0, none⟩) 1 1) [-1]) (fd2 : LiSl w (.slice (some ⟨xd2, 0, none⟩) 1 1) [[100000001]]) :
    wpAny Try.prog .any wrOps Q 6 #[true, true, true, true, false, false, true, true, true, true, false, false, true, true, true, false, false] (wp14 xd2 (wp13 xd2 (wp12 xd (wp9 xc (wp8 xb2 (wp7 xb2 (wp6 xb (wp3 (wp2 (wp1 (wp0 a))))))))))) w := by
  refine wpAny_ready (rs := [4, 10]) (by kernel_rfl) (by simp) (AllReady.cons rfl (fun K hK => ?_) (AllReady.cons rfl (fun K hK => ?_) AllReady.nil))
  · refine stp4 (hK _ _ ?_)
    refine wpAny_take (i := 5) rfl (by kernel_rfl) (by kernel_rfl) (by kernel_rfl) (fun c b w h => hp _ _ c b w h) (yl5 (xa := w.heap.size) (by simp [wp0, wp1, wp2, wp3, wp4, wp5, wp6, wp7, wp8, wp9, wp10, wp11, wp12, wp13, wp14, eval_put, put_size, ha])) ?_
    change wpAny _ _ _ _ _ _ (wp5 w.heap.size (wp4 w.heap.size (wp14 xd2 (wp13 xd2 (wp12 xd (wp9 xc (wp8 xb2 (wp7 xb2 (wp6 xb (wp3 (wp2 (wp1 (wp0 a))))))))))))) _
    rw [ws4_14, ws4_13, ws4_12, ws4_9, ws4_8, ws4_7, ws4_6, ws5_14, ws5_13, ws5_12, ws5_9, ws5_8, ws5_7, ws5_6]
    exact st1212 Q w0 a ha hp hQ (w.alloc (.cells zc17 32)) w.heap.size xb xb2 xc xd xd2 (hb.alloc hb.size _) (li_zeros17 w) (fb2.on (alloc_below w (.cells zc17 32)) (Nat.le_refl _)) (fc.on (alloc_below w (.cells zc17 32)) (Nat.le_refl _)) (fd2.on (alloc_below w (.cells zc17 32)) (Nat.le_refl _))
  · refine stp10 (x := xc) (by simp [wp0, wp1, wp2, wp3, wp4, wp5, wp6, wp7, wp8, wp9, wp10, wp11, wp12, wp13, wp14, eval_put, put_size, ha]) (hK _ _ ?_)
    refine wpAny_take (i := 11) rfl (by kernel_rfl) (by kernel_rfl) (by kernel_rfl) (fun c b w h => hp _ _ c b w h) (yl11 (xc2 := w.heap.size) (by simp [wp0, wp1, wp2, wp3, wp4, wp5, wp6, wp7, wp8, wp9, wp10, wp11, wp12, wp13, wp14, eval_put, put_size, ha])) ?_
    change wpAny _ _ _ _ _ _ (wp11 w.heap.size (wp10 w.heap.size (wp14 xd2 (wp13 xd2 (wp12 xd (wp9 xc (wp8 xb2 (wp7 xb2 (wp6 xb (wp3 (wp2 (wp1 (wp0 a))))))))))))) _
    rw [ws10_14, ws10_13, ws10_12, ws11_14, ws11_13, ws11_12]
    exact st0222 Q w0 a ha hp hQ (w.alloc (.cells #[.slice none 0 0, .slice (some ⟨xc, 0, none⟩) 1 1] 32)) xb xb2 xc w.heap.size xd xd2 (hb.alloc hb.size _) (fb2.on (alloc_below w (.cells #[.slice none 0 0, .slice (some ⟨xc, 0, none⟩) 1 1] 32)) (Nat.le_refl _)) (li_two fc) (fd2.on (alloc_below w (.cells #[.slice none 0 0, .slice (some ⟨xc, 0, none⟩) 1 1] 32)) (Nat.le_refl _))
theorem st0221 (w : World) (xb xb2 xc xc2 xd : Nat) (hb : Below w0.heap.size w0 w) (fb2 : LiSl w (.slice (some ⟨xb2, 0, none⟩) 1 1) [List.replicate 1001 0]) (fc2 : LiSl w (.slice (some ⟨xc2, 0, none⟩) 2 2) [[], [-1]]) (fd : IntSl w (.slice (some ⟨xd, 0, none⟩) 1 1) [100000001]) :
    wpAny Try.prog .any wrOps Q 6 #[true, true, true, true, false, false, true, true, true, true, true, true, true, false, false, false, false] (wp12 xd (wp11 xc2 (wp10 xc2 (wp9 xc (wp8 xb2 (wp7 xb2 (wp6 xb (wp3 (wp2 (wp1 (wp0 a))))))))))) w := by
  refine wpAny_ready (rs := [4, 13]) (by kernel_rfl) (by simp) (AllReady.cons rfl (fun K hK => ?_) (AllReady.cons rfl (fun K hK => ?_) AllReady.nil))
  · refine stp4 (hK _ _ ?_)
    refine wpAny_take (i := 5) rfl (by kernel_rfl) (by kernel_rfl) (by kernel_rfl) (fun c b w h => hp _ _ c b w h) (yl5 (xa := w.heap.size) (by simp [wp0, wp1, wp2, wp3, wp4, wp5, wp6, wp7, wp8, wp9, wp10, wp11, wp12, wp13, wp14, eval_put, put_size, ha])) ?_
    change wpAny _ _ _ _ _ _ (wp5 w.heap.size (wp4 w.heap.size (wp12 xd (wp11 xc2 (wp10 xc2 (wp9 xc (wp8 xb2 (wp7 xb2 (wp6 xb (wp3 (wp2 (wp1 (wp0 a))))))))))))) _
    rw [ws4_12, ws4_11, ws4_10, ws4_9, ws4_8, ws4_7, ws4_6, ws5_12, ws5_11, ws5_10, ws5_9, ws5_8, ws5_7, ws5_6]
    exact st1221 Q w0 a ha hp hQ (w.alloc (.cells zc17 32)) w.heap.size xb xb2 xc xc2 xd (hb.alloc hb.size _) (li_zeros17 w) (fb2.on (alloc_below w (.cells zc17 32)) (Nat.le_refl _)) (fc2.on (alloc_below w (.cells zc17 32)) (Nat.le_refl _)) (fd.on (alloc_below w (.cells zc17 32)) (Nat.le_refl _))
  · refine stp13 (x := xd) (by simp [wp0, wp1, wp2, wp3, wp4, wp5, wp6, wp7, wp8, wp9, wp10, wp11, wp12, wp13, wp14, eval_put, put_size, ha]) (hK _ _ ?_)
    refine wpAny_take (i := 14) rfl (by kernel_rfl) (by kernel_rfl) (by kernel_rfl) (fun c b w h => hp _ _ c b w h) (yl14 (xd2 := w.heap.size) (by simp [wp0, wp1, wp2, wp3, wp4, wp5, wp6, wp7, wp8, wp9, wp10, wp11, wp12, wp13, wp14, eval_put, put_size, ha])) ?_
    change wpAny _ _ _ _ _ _ (wp14 w.heap.size (wp13 w.heap.size (wp12 xd (wp11 xc2 (wp10 xc2 (wp9 xc (wp8 xb2 (wp7 xb2 (wp6 xb (wp3 (wp2 (wp1 (wp0 a))))))))))))) _
    exact st0222 Q w0 a ha hp hQ (w.alloc (.cells #[.slice (some ⟨xd, 0, none⟩) 1 1] 32)) xb xb2 xc xc2 xd w.heap.size (hb.alloc hb.size _) (fb2.on (alloc_below w (.cells #[.slice (some ⟨xd, 0, none⟩) 1 1] 32)) (Nat.le_refl _)) (fc2.on (alloc_below w (.cells #[.slice (some ⟨xd, 0, none⟩) 1 1] 32)) (Nat.le_refl _)) (li_one fd)
theorem st1112 (w : World) (xa xb xc xd xd2 : Nat) (hb : Below w0.heap.size w0 w) (fa : LiSl w (.slice (some ⟨xa, 0, none⟩) 17 17) (List.replicate 17 [])) (fb : IntSl w (.slice (some ⟨xb, 0, none⟩) 1001 1001) (List.replicate 1001 0)) (fc : IntSl w (.slice (some ⟨xc, 0, none⟩) 1 1) [-1]) (fd2 : LiSl w (.slice (some ⟨xd2, 0, none⟩) 1 1) [[100000001]]) :
    wpAny Try.prog .any wrOps Q 6 #[true, true, true, true, true, true, true, false, false, true, false, false, true, true, true, false, false] (wp14 xd2 (wp13 xd2 (wp12 xd (wp9 xc (wp6 xb (wp5 xa (wp4 xa (wp3 (wp2 (wp1 (wp0 a))))))))))) w := by
  refine wpAny_ready (rs := [7, 10]) (by kernel_rfl) (by simp) (AllReady.cons rfl (fun K hK => ?_) (AllReady.cons rfl (fun K hK => ?_) AllReady.nil))
  · refine stp7 (x := xb) (by simp [wp0, wp1, wp2, wp3, wp4, wp5, wp6, wp7, wp8, wp9, wp10, wp11, wp12, wp13, wp14, eval_put, put_size, ha]) (hK _ _ ?_)
    refine wpAny_take (i := 8) rfl (by kernel_rfl) (by kernel_rfl) (by kernel_rfl) (fun c b w h => hp _ _ c b w h) (yl8 (xb2 := w.heap.size) (by simp [wp0, wp1, wp2, wp3, wp4, wp5, wp6, wp7, wp8, wp9, wp10, wp11, wp12, wp13, wp14, eval_put, put_size, ha])) ?_
    change wpAny _ _ _ _ _ _ (wp8 w.heap.size (wp7 w.heap.size (wp14 xd2 (wp13 xd2 (wp12 xd (wp9 xc (wp6 xb (wp5 xa (wp4 xa (wp3 (wp2 (wp1 (wp0 a))))))))))))) _
    rw [ws7_14, ws7_13, ws7_12, ws7_9, ws8_14, ws8_13, ws8_12, ws8_9]
    exact st1212 Q w0 a ha hp hQ (w.alloc (.cells #[.slice (some ⟨xb, 0, none⟩) 1001 1001] 32)) xa xb w.heap.size xc xd xd2 (hb.alloc hb.size _) (fa.on (alloc_below w (.cells #[.slice (some ⟨xb, 0, none⟩) 1001 1001] 32)) (Nat.le_refl _)) (li_one fb) (fc.on (alloc_below w (.cells #[.slice (some ⟨xb, 0, none⟩) 1001 1001] 32)) (Nat.le_refl _)) (fd2.on (alloc_below w (.cells #[.slice (some ⟨xb, 0, none⟩) 1001 1001] 32)) (Nat.le_refl _))
  · refine stp10 (x := xc) (by simp [wp0, wp1, wp2, wp3, wp4, wp5, wp6, wp7, wp8, wp9, wp10, wp11, wp12, wp13, wp14, eval_put, put_size, ha]) (hK _ _ ?_)
    refine wpAny_take (i := 11) rfl (by kernel_rfl) (by kernel_rfl) (by kernel_rfl) (fun c b w h => hp _ _ c b w h) (yl11 (xc2 := w.heap.size) (by simp [wp0, wp1, wp2, wp3, wp4, wp5, wp6, wp7, wp8, wp9, wp10, wp11, wp12, wp13, wp14, eval_put, put_size, ha])) ?_
    change wpAny _ _ _ _ _ _ (wp11 w.heap.size (wp10 w.heap.size (wp14 xd2 (wp13 xd2 (wp12 xd (wp9 xc (wp6 xb (wp5 xa (wp4 xa (wp3 (wp2 (wp1 (wp0 a))))))))))))) _
    rw [ws10_14, ws10_13, ws10_12, ws11_14, ws11_13, ws11_12]
    exact st1122 Q w0 a ha hp hQ (w.alloc (.cells #[.slice none 0 0, .slice (some ⟨xc, 0, none⟩) 1 1] 32)) xa xb xc w.heap.size xd xd2 (hb.alloc hb.size _) (fa.on (alloc_below w (.cells #[.slice none 0 0, .slice (some ⟨xc, 0, none⟩) 1 1] 32)) (Nat.le_refl _)) (fb.on (alloc_below w (.cells #[.slice none 0 0, .slice (some ⟨xc, 0, none⟩) 1 1] 32)) (Nat.le_refl _)) (li_two fc) (fd2.on (alloc_below w (.cells #[.slice none 0 0, .slice (some ⟨xc, 0, none⟩) 1 1] 32)) (Nat.le_refl _))
theorem st1121 (w : World) (xa xb xc xc2 xd : Nat) (hb : Below w0.heap.size w0 w) (fa : LiSl w (.slice (some ⟨xa, 0, none⟩) 17 17) (List.replicate 17 [])) (fb : IntSl w (.slice (some ⟨xb, 0, none⟩) 1001 1001) (List.replicate 1001 0)) (fc2 : LiSl w (.slice (some ⟨xc2, 0, none⟩) 2 2) [[], [-1]]) (fd : IntSl w (.slice (some ⟨xd, 0, none⟩) 1 1) [100000001]) :
    wpAny Try.prog .any wrOps Q 6 #[true, true, true, true, true, true, true, false, false, true, true, true, true, false, false, false, false] (wp12 xd (wp11 xc2 (wp10 xc2 (wp9 xc (wp6 xb (wp5 xa (wp4 xa (wp3 (wp2 (wp1 (wp0 a))))))))))) w := by
  refine wpAny_ready (rs := [7, 13]) (by kernel_rfl) (by simp) (AllReady.cons rfl (fun K hK => ?_) (AllReady.cons rfl (fun K hK => ?_) AllReady.nil))
  · refine stp7 (x := xb) (by simp [wp0, wp1, wp2, wp3, wp4, wp5, wp6, wp7, wp8, wp9, wp10, wp11, wp12, wp13, wp14, eval_put, put_size, ha]) (hK _ _ ?_)
    refine wpAny_take (i := 8) rfl (by kernel_rfl) (by kernel_rfl) (by kernel_rfl) (fun c b w h => hp _ _ c b w h) (yl8 (xb2 := w.heap.size) (by simp [wp0, wp1, wp2, wp3, wp4, wp5, wp6, wp7, wp8, wp9, wp10, wp11, wp12, wp13, wp14, eval_put, put_size, ha])) ?_
    change wpAny _ _ _ _ _ _ (wp8 w.heap.size (wp7 w.heap.size (wp12 xd (wp11 xc2 (wp10 xc2 (wp9 xc (wp6 xb (wp5 xa (wp4 xa (wp3 (wp2 (wp1 (wp0 a))))))))))))) _
    rw [ws7_12, ws7_11, ws7_10, ws7_9, ws8_12, ws8_11, ws8_10, ws8_9]
    exact st1221 Q w0 a ha hp hQ (w.alloc (.cells #[.slice (some ⟨xb, 0, none⟩) 1001 1001] 32)) xa xb w.heap.size xc xc2 xd (hb.alloc hb.size _) (fa.on (alloc_below w (.cells #[.slice (some ⟨xb, 0, none⟩) 1001 1001] 32)) (Nat.le_refl _)) (li_one fb) (fc2.on (alloc_below w (.cells #[.slice (some ⟨xb, 0, none⟩) 1001 1001] 32)) (Nat.le_refl _)) (fd.on (alloc_below w (.cells #[.slice (some ⟨xb, 0, none⟩) 1001 1001] 32)) (Nat.le_refl _))
  · refine stp13 (x := xd) (by simp [wp0, wp1, wp2, wp3, wp4, wp5, wp6, wp7, wp8, wp9, wp10, wp11, wp12, wp13, wp14, eval_put, put_size, ha]) (hK _ _ ?_)
    refine wpAny_take (i := 14) rfl (by kernel_rfl) (by kernel_rfl) (by kernel_rfl) (fun c b w h => hp _ _ c b w h) (yl14 (xd2 := w.heap.size) (by simp [wp0, wp1, wp2, wp3, wp4, wp5, wp6, wp7, wp8, wp9, wp10, wp11, wp12, wp13, wp14, eval_put, put_size, ha])) ?_
    change wpAny _ _ _ _ _ _ (wp14 w.heap.size (wp13 w.heap.size (wp12 xd (wp11 xc2 (wp10 xc2 (wp9 xc (wp6 xb (wp5 xa (wp4 xa (wp3 (wp2 (wp1 (wp0 a))))))))))))) _
    exact st1122 Q w0 a ha hp hQ (w.alloc (.cells #[.slice (some ⟨xd, 0, none⟩) 1 1] 32)) xa xb xc xc2 xd w.heap.size (hb.alloc hb.size _) (fa.on (alloc_below w (.cells #[.slice (some ⟨xd, 0, none⟩) 1 1] 32)) (Nat.le_refl _)) (fb.on (alloc_below w (.cells #[.slice (some ⟨xd, 0, none⟩) 1 1] 32)) (Nat.le_refl _)) (fc2.on (alloc_below w (.cells #[.slice (some ⟨xd, 0, none⟩) 1 1] 32)) (Nat.le_refl _)) (li_one fd)
theorem st1211 (w : World) (xa xb xb2 xc xd : Nat) (hb : Below w0.heap.size w0 w) (fa : LiSl w (.slice (some ⟨xa, 0, none⟩) 17 17) (List.replicate 17 [])) (fb2 : LiSl w (.slice (some ⟨xb2, 0, none⟩) 1 1) [List.replicate 1001 0]) (fc : IntSl w (.slice (some ⟨xc, 0, none⟩) 1 1) [-1]) (fd : IntSl w (.slice (some ⟨xd, 0, none⟩) 1 1) [100000001]) :
    wpAny Try.prog .any wrOps Q 6 #[true, true, true, true, true, true, true, true, true, true, false, false, true, false, false, false, false] (wp12 xd (wp9 xc (wp8 xb2 (wp7 xb2 (wp6 xb (wp5 xa (wp4 xa (wp3 (wp2 (wp1 (wp0 a))))))))))) w := by
  refine wpAny_ready (rs := [10, 13]) (by kernel_rfl) (by simp) (AllReady.cons rfl (fun K hK => ?_) (AllReady.cons rfl (fun K hK => ?_) AllReady.nil))
  · refine stp10 (x := xc) (by simp [wp0, wp1, wp2, wp3, wp4, wp5, wp6, wp7, wp8, wp9, wp10, wp11, wp12, wp13, wp14, eval_put, put_size, ha]) (hK _ _ ?_)
    refine wpAny_take (i := 11) rfl (by kernel_rfl) (by kernel_rfl) (by kernel_rfl) (fun c b w h => hp _ _ c b w h) (yl11 (xc2 := w.heap.size) (by simp [wp0, wp1, wp2, wp3, wp4, wp5, wp6, wp7, wp8, wp9, wp10, wp11, wp12, wp13, wp14, eval_put, put_size, ha])) ?_
    change wpAny _ _ _ _ _ _ (wp11 w.heap.size (wp10 w.heap.size (wp12 xd (wp9 xc (wp8 xb2 (wp7 xb2 (wp6 xb (wp5 xa (wp4 xa (wp3 (wp2 (wp1 (wp0 a))))))))))))) _
    rw [ws10_12, ws11_12]
    exact st1221 Q w0 a ha hp hQ (w.alloc (.cells #[.slice none 0 0, .slice (some ⟨xc, 0, none⟩) 1 1] 32)) xa xb xb2 xc w.heap.size xd (hb.alloc hb.size _) (fa.on (alloc_below w (.cells #[.slice none 0 0, .slice (some ⟨xc, 0, none⟩) 1 1] 32)) (Nat.le_refl _)) (fb2.on (alloc_below w (.cells #[.slice none 0 0, .slice (some ⟨xc, 0, none⟩) 1 1] 32)) (Nat.le_refl _)) (li_two fc) (fd.on (alloc_below w (.cells #[.slice none 0 0, .slice (some ⟨xc, 0, none⟩) 1 1] 32)) (Nat.le_refl _))
  · refine stp13 (x := xd) (by simp [wp0, wp1, wp2, wp3, wp4, wp5, wp6, wp7, wp8, wp9, wp10, wp11, wp12, wp13, wp14, eval_put, put_size, ha]) (hK _ _ ?_)
    refine wpAny_take (i := 14) rfl (by kernel_rfl) (by kernel_rfl) (by kernel_rfl) (fun c b w h => hp _ _ c b w h) (yl14 (xd2 := w.heap.size) (by simp [wp0, wp1, wp2, wp3, wp4, wp5, wp6, wp7, wp8, wp9, wp10, wp11, wp12, wp13, wp14, eval_put, put_size, ha])) ?_
    change wpAny _ _ _ _ _ _ (wp14 w.heap.size (wp13 w.heap.size (wp12 xd (wp9 xc (wp8 xb2 (wp7 xb2 (wp6 xb (wp5 xa (wp4 xa (wp3 (wp2 (wp1 (wp0 a))))))))))))) _
    exact st1212 Q w0 a ha hp hQ (w.alloc (.cells #[.slice (some ⟨xd, 0, none⟩) 1 1] 32)) xa xb xb2 xc xd w.heap.size (hb.alloc hb.size _) (fa.on (alloc_below w (.cells #[.slice (some ⟨xd, 0, none⟩) 1 1] 32)) (Nat.le_refl _)) (fb2.on (alloc_below w (.cells #[.slice (some ⟨xd, 0, none⟩) 1 1] 32)) (Nat.le_refl _)) (fc.on (alloc_below w (.cells #[.slice (some ⟨xd, 0, none⟩) 1 1] 32)) (Nat.le_refl _)) (li_one fd)
theorem st0022 (w : World) (xc xc2 xd xd2 : Nat) (hb : Below w0.heap.size w0 w) (fc2 : LiSl w (.slice (some ⟨xc2, 0, none⟩) 2 2) [[], [-1]]) (fd2 : LiSl w (.slice (some ⟨xd2, 0, none⟩) 1 1) [[100000001]]) :
    wpAny Try.prog .any wrOps Q 7 #[true, true, true, true, false, false, false, false, false, true, true, true, true, true, true, false, false] (wp14 xd2 (wp13 xd2 (wp12 xd (wp11 xc2 (wp10 xc2 (wp9 xc (wp3 (wp2 (wp1 (wp0 a)))))))))) w := by
  refine wpAny_ready (rs := [4, 6]) (by kernel_rfl) (by simp) (AllReady.cons rfl (fun K hK => ?_) (AllReady.cons rfl (fun K hK => ?_) AllReady.nil))
  · refine stp4 (hK _ _ ?_)
    refine wpAny_take (i := 5) rfl (by kernel_rfl) (by kernel_rfl) (by kernel_rfl) (fun c b w h => hp _ _ c b w h) (yl5 (xa := w.heap.size) (by simp [wp0, wp1, wp2, wp3, wp4, wp5, wp6, wp7, wp8, wp9, wp10, wp11, wp12, wp13, wp14, eval_put, put_size, ha])) ?_
    change wpAny _ _ _ _ _ _ (wp5 w.heap.size (wp4 w.heap.size (wp14 xd2 (wp13 xd2 (wp12 xd (wp11 xc2 (wp10 xc2 (wp9 xc (wp3 (wp2 (wp1 (wp0 a)))))))))))) _
    rw [ws4_14, ws4_13, ws4_12, ws4_11, ws4_10, ws4_9, ws5_14, ws5_13, ws5_12, ws5_11, ws5_10, ws5_9]
    exact st1022 Q w0 a ha hp hQ (w.alloc (.cells zc17 32)) w.heap.size xc xc2 xd xd2 (hb.alloc hb.size _) (li_zeros17 w) (fc2.on (alloc_below w (.cells zc17 32)) (Nat.le_refl _)) (fd2.on (alloc_below w (.cells zc17 32)) (Nat.le_refl _))
  · refine stp6 (hK _ _ ?_)
    change wpAny _ _ _ _ _ _ (wp6 w.heap.size (wp14 xd2 (wp13 xd2 (wp12 xd (wp11 xc2 (wp10 xc2 (wp9 xc (wp3 (wp2 (wp1 (wp0 a))))))))))) _
    rw [ws6_14, ws6_13, ws6_12, ws6_11, ws6_10, ws6_9]
    exact st0122 Q w0 a ha hp hQ (w.alloc (.cells zc1001 3)) w.heap.size xc xc2 xd xd2 (hb.alloc hb.size _) (int_zeros w) (fc2.on (alloc_below w (.cells zc1001 3)) (Nat.le_refl _)) (fd2.on (alloc_below w (.cells zc1001 3)) (Nat.le_refl _))
theorem st0202 (w : World) (xb xb2 xd xd2 : Nat) (hb : Below w0.heap.size w0 w) (fb2 : LiSl w (.slice (some ⟨xb2, 0, none⟩) 1 1) [List.replicate 1001 0]) (fd2 : LiSl w (.slice (some ⟨xd2, 0, none⟩) 1 1) [[100000001]]) :
    wpAny Try.prog .any wrOps Q 7 #[true, true, true, true, false, false, true, true, true, false, false, false, true, true, true, false, false] (wp14 xd2 (wp13 xd2 (wp12 xd (wp8 xb2 (wp7 xb2 (wp6 xb (wp3 (wp2 (wp1 (wp0 a)))))))))) w := by
  refine wpAny_ready (rs := [4, 9]) (by kernel_rfl) (by simp) (AllReady.cons rfl (fun K hK => ?_) (AllReady.cons rfl (fun K hK => ?_) AllReady.nil))
  · refine stp4 (hK _ _ ?_)
    refine wpAny_take (i := 5) rfl (by kernel_rfl) (by kernel_rfl) (by kernel_rfl) (fun c b w h => hp _ _ c b w h) (yl5 (xa := w.heap.size) (by simp [wp0, wp1, wp2, wp3, wp4, wp5, wp6, wp7, wp8, wp9, wp10, wp11, wp12, wp13, wp14, eval_put, put_size, ha])) ?_
    change wpAny _ _ _ _ _ _ (wp5 w.heap.size (wp4 w.heap.size (wp14 xd2 (wp13 xd2 (wp12 xd (wp8 xb2 (wp7 xb2 (wp6 xb (wp3 (wp2 (wp1 (wp0 a)))))))))))) _
    rw [ws4_14, ws4_13, ws4_12, ws4_8, ws4_7, ws4_6, ws5_14, ws5_13, ws5_12, ws5_8, ws5_7, ws5_6]
    exact st1202 Q w0 a ha hp hQ (w.alloc (.cells zc17 32)) w.heap.size xb xb2 xd xd2 (hb.alloc hb.size _) (li_zeros17 w) (fb2.on (alloc_below w (.cells zc17 32)) (Nat.le_refl _)) (fd2.on (alloc_below w (.cells zc17 32)) (Nat.le_refl _))
  · refine stp9 (hK _ _ ?_)
    change wpAny _ _ _ _ _ _ (wp9 w.heap.size (wp14 xd2 (wp13 xd2 (wp12 xd (wp8 xb2 (wp7 xb2 (wp6 xb (wp3 (wp2 (wp1 (wp0 a))))))))))) _
    rw [ws9_14, ws9_13, ws9_12]
    exact st0212 Q w0 a ha hp hQ (w.alloc (.cells #[.int .i64 (-1)] 3)) xb xb2 w.heap.size xd xd2 (hb.alloc hb.size _) (fb2.on (alloc_below w (.cells #[.int .i64 (-1)] 3)) (Nat.le_refl _)) (int_one w (-1)) (fd2.on (alloc_below w (.cells #[.int .i64 (-1)] 3)) (Nat.le_refl _))
theorem st0220 (w : World) (xb xb2 xc xc2 : Nat) (hb : Below w0.heap.size w0 w) (fb2 : LiSl w (.slice (some ⟨xb2, 0, none⟩) 1 1) [List.replicate 1001 0]) (fc2 : LiSl w (.slice (some ⟨xc2, 0, none⟩) 2 2) [[], [-1]]) :
    wpAny Try.prog .any wrOps Q 7 #[true, true, true, true, false, false, true, true, true, true, true, true, false, false, false, false, false] (wp11 xc2 (wp10 xc2 (wp9 xc (wp8 xb2 (wp7 xb2 (wp6 xb (wp3 (wp2 (wp1 (wp0 a)))))))))) w := by
  refine wpAny_ready (rs := [4, 12]) (by kernel_rfl) (by simp) (AllReady.cons rfl (fun K hK => ?_) (AllReady.cons rfl (fun K hK => ?_) AllReady.nil))
  · refine stp4 (hK _ _ ?_)
    refine wpAny_take (i := 5) rfl (by kernel_rfl) (by kernel_rfl) (by kernel_rfl) (fun c b w h => hp _ _ c b w h) (yl5 (xa := w.heap.size) (by simp [wp0, wp1, wp2, wp3, wp4, wp5, wp6, wp7, wp8, wp9, wp10, wp11, wp12, wp13, wp14, eval_put, put_size, ha])) ?_
    change wpAny _ _ _ _ _ _ (wp5 w.heap.size (wp4 w.heap.size (wp11 xc2 (wp10 xc2 (wp9 xc (wp8 xb2 (wp7 xb2 (wp6 xb (wp3 (wp2 (wp1 (wp0 a)))))))))))) _
    rw [ws4_11, ws4_10, ws4_9, ws4_8, ws4_7, ws4_6, ws5_11, ws5_10, ws5_9, ws5_8, ws5_7, ws5_6]
    exact st1220 Q w0 a ha hp hQ (w.alloc (.cells zc17 32)) w.heap.size xb xb2 xc xc2 (hb.alloc hb.size _) (li_zeros17 w) (fb2.on (alloc_below w (.cells zc17 32)) (Nat.le_refl _)) (fc2.on (alloc_below w (.cells zc17 32)) (Nat.le_refl _))
  · refine stp12 (hK _ _ ?_)
    change wpAny _ _ _ _ _ _ (wp12 w.heap.size (wp11 xc2 (wp10 xc2 (wp9 xc (wp8 xb2 (wp7 xb2 (wp6 xb (wp3 (wp2 (wp1 (wp0 a))))))))))) _
    exact st0221 Q w0 a ha hp hQ (w.alloc (.cells #[.int .i64 100000001] 3)) xb xb2 xc xc2 w.heap.size (hb.alloc hb.size _) (fb2.on (alloc_below w (.cells #[.int .i64 100000001] 3)) (Nat.le_refl _)) (fc2.on (alloc_below w (.cells #[.int .i64 100000001] 3)) (Nat.le_refl _)) (int_one w 100000001)
theorem st1012 (w : World) (xa xc xd xd2 : Nat) (hb : Below w0.heap.size w0 w) (fa : LiSl w (.slice (some ⟨xa, 0, none⟩) 17 17) (List.replicate 17 [])) (fc : IntSl w (.slice (some ⟨xc, 0, none⟩) 1 1) [-1]) (fd2 : LiSl w (.slice (some ⟨xd2, 0, none⟩) 1 1) [[100000001]]) :
    wpAny Try.prog .any wrOps Q 7 #[true, true, true, true, true, true, false, false, false, true, false, false, true, true, true, false, false] (wp14 xd2 (wp13 xd2 (wp12 xd (wp9 xc (wp5 xa (wp4 xa (wp3 (wp2 (wp1 (wp0 a)))))))))) w := by
  refine wpAny_ready (rs := [6, 10]) (by kernel_rfl) (by simp) (AllReady.cons rfl (fun K hK => ?_) (AllReady.cons rfl (fun K hK => ?_) AllReady.nil))
  · refine stp6 (hK _ _ ?_)
    change wpAny _ _ _ _ _ _ (wp6 w.heap.size (wp14 xd2 (wp13 xd2 (wp12 xd (wp9 xc (wp5 xa (wp4 xa (wp3 (wp2 (wp1 (wp0 a))))))))))) _
    rw [ws6_14, ws6_13, ws6_12, ws6_9]
    exact st1112 Q w0 a ha hp hQ (w.alloc (.cells zc1001 3)) xa w.heap.size xc xd xd2 (hb.alloc hb.size _) (fa.on (alloc_below w (.cells zc1001 3)) (Nat.le_refl _)) (int_zeros w) (fc.on (alloc_below w (.cells zc1001 3)) (Nat.le_refl _)) (fd2.on (alloc_below w (.cells zc1001 3)) (Nat.le_refl _))
  · refine stp10 (x := xc) (by simp [wp0, wp1, wp2, wp3, wp4, wp5, wp6, wp7, wp8, wp9, wp10, wp11, wp12, wp13, wp14, eval_put, put_size, ha]) (hK _ _ ?_)
    refine wpAny_take (i := 11) rfl (by kernel_rfl) (by kernel_rfl) (by kernel_rfl) (fun c b w h => hp _ _ c b w h) (yl11 (xc2 := w.heap.size) (by simp [wp0, wp1, wp2, wp3, wp4, wp5, wp6, wp7, wp8, wp9, wp10, wp11, wp12, wp13, wp14, eval_put, put_size, ha])) ?_
    change wpAny _ _ _ _ _ _ (wp11 w.heap.size (wp10 w.heap.size (wp14 xd2 (wp13 xd2 (wp12 xd (wp9 xc (wp5 xa (wp4 xa (wp3 (wp2 (wp1 (wp0 a)))))))))))) _
    rw [ws10_14, ws10_13, ws10_12, ws11_14, ws11_13, ws11_12]
    exact st1022 Q w0 a ha hp hQ (w.alloc (.cells #[.slice none 0 0, .slice (some ⟨xc, 0, none⟩) 1 1] 32)) xa xc w.heap.size xd xd2 (hb.alloc hb.size _) (fa.on (alloc_below w (.cells #[.slice none 0 0, .slice (some ⟨xc, 0, none⟩) 1 1] 32)) (Nat.le_refl _)) (li_two fc) (fd2.on (alloc_below w (.cells #[.slice none 0 0, .slice (some ⟨xc, 0, none⟩) 1 1] 32)) (Nat.le_refl _))
theorem st1021 (w : World) (xa xc xc2 xd : Nat) (hb : Below w0.heap.size w0 w) (fa : LiSl w (.slice (some ⟨xa, 0, none⟩) 17 17) (List.replicate 17 [])) (fc2 : LiSl w (.slice (some ⟨xc2, 0, none⟩) 2 2) [[], [-1]]) (fd : IntSl w (.slice (some ⟨xd, 0, none⟩) 1 1) [100000001]) :
    wpAny Try.prog .any wrOps Q 7 #[true, true, true, true, true, true, false, false, false, true, true, true, true, false, false, false, false] (wp12 xd (wp11 xc2 (wp10 xc2 (wp9 xc (wp5 xa (wp4 xa (wp3 (wp2 (wp1 (wp0 a)))))))))) w := by
  refine wpAny_ready (rs := [6, 13]) (by kernel_rfl) (by simp) (AllReady.cons rfl (fun K hK => ?_) (AllReady.cons rfl (fun K hK => ?_) AllReady.nil))
  · refine stp6 (hK _ _ ?_)
    change wpAny _ _ _ _ _ _ (wp6 w.heap.size (wp12 xd (wp11 xc2 (wp10 xc2 (wp9 xc (wp5 xa (wp4 xa (wp3 (wp2 (wp1 (wp0 a))))))))))) _
    rw [ws6_12, ws6_11, ws6_10, ws6_9]
    exact st1121 Q w0 a ha hp hQ (w.alloc (.cells zc1001 3)) xa w.heap.size xc xc2 xd (hb.alloc hb.size _) (fa.on (alloc_below w (.cells zc1001 3)) (Nat.le_refl _)) (int_zeros w) (fc2.on (alloc_below w (.cells zc1001 3)) (Nat.le_refl _)) (fd.on (alloc_below w (.cells zc1001 3)) (Nat.le_refl _))
  · refine stp13 (x := xd) (by simp [wp0, wp1, wp2, wp3, wp4, wp5, wp6, wp7, wp8, wp9, wp10, wp11, wp12, wp13, wp14, eval_put, put_size, ha]) (hK _ _ ?_)
    refine wpAny_take (i := 14) rfl (by kernel_rfl) (by kernel_rfl) (by kernel_rfl) (fun c b w h => hp _ _ c b w h) (yl14 (xd2 := w.heap.size) (by simp [wp0, wp1, wp2, wp3, wp4, wp5, wp6, wp7, wp8, wp9, wp10, wp11, wp12, wp13, wp14, eval_put, put_size, ha])) ?_
    change wpAny _ _ _ _ _ _ (wp14 w.heap.size (wp13 w.heap.size (wp12 xd (wp11 xc2 (wp10 xc2 (wp9 xc (wp5 xa (wp4 xa (wp3 (wp2 (wp1 (wp0 a)))))))))))) _
    exact st1022 Q w0 a ha hp hQ (w.alloc (.cells #[.slice (some ⟨xd, 0, none⟩) 1 1] 32)) xa xc xc2 xd w.heap.size (hb.alloc hb.size _) (fa.on (alloc_below w (.cells #[.slice (some ⟨xd, 0, none⟩) 1 1] 32)) (Nat.le_refl _)) (fc2.on (alloc_below w (.cells #[.slice (some ⟨xd, 0, none⟩) 1 1] 32)) (Nat.le_refl _)) (li_one fd)
theorem st1102 (w : World) (xa xb xd xd2 : Nat) (hb : Below w0.heap.size w0 w) (fa : LiSl w (.slice (some ⟨xa, 0, none⟩) 17 17) (List.replicate 17 [])) (fb : IntSl w (.slice (some ⟨xb, 0, none⟩) 1001 1001) (List.replicate 1001 0)) (fd2 : LiSl w (.slice (some ⟨xd2, 0, none⟩) 1 1) [[100000001]]) :
    wpAny Try.prog .any wrOps Q 7 #[true, true, true, true, true, true, true, false, false, false, false, false, true, true, true, false, false] (wp14 xd2 (wp13 xd2 (wp12 xd (wp6 xb (wp5 xa (wp4 xa (wp3 (wp2 (wp1 (wp0 a)))))))))) w := by
  refine wpAny_ready (rs := [7, 9]) (by kernel_rfl) (by simp) (AllReady.cons rfl (fun K hK => ?_) (AllReady.cons rfl (fun K hK => ?_) AllReady.nil))
  · refine stp7 (x := xb) (by simp [wp0, wp1, wp2, wp3, wp4, wp5, wp6, wp7, wp8, wp9, wp10, wp11, wp12, wp13, wp14, eval_put, put_size, ha]) (hK _ _ ?_)
    refine wpAny_take (i := 8) rfl (by kernel_rfl) (by kernel_rfl) (by kernel_rfl) (fun c b w h => hp _ _ c b w h) (yl8 (xb2 := w.heap.size) (by simp [wp0, wp1, wp2, wp3, wp4, wp5, wp6, wp7, wp8, wp9, wp10, wp11, wp12, wp13, wp14, eval_put, put_size, ha])) ?_
    change wpAny _ _ _ _ _ _ (wp8 w.heap.size (wp7 w.heap.size (wp14 xd2 (wp13 xd2 (wp12 xd (wp6 xb (wp5 xa (wp4 xa (wp3 (wp2 (wp1 (wp0 a)))))))))))) _
    rw [ws7_14, ws7_13, ws7_12, ws8_14, ws8_13, ws8_12]
    exact st1202 Q w0 a ha hp hQ (w.alloc (.cells #[.slice (some ⟨xb, 0, none⟩) 1001 1001] 32)) xa xb w.heap.size xd xd2 (hb.alloc hb.size _) (fa.on (alloc_below w (.cells #[.slice (some ⟨xb, 0, none⟩) 1001 1001] 32)) (Nat.le_refl _)) (li_one fb) (fd2.on (alloc_below w (.cells #[.slice (some ⟨xb, 0, none⟩) 1001 1001] 32)) (Nat.le_refl _))
  · refine stp9 (hK _ _ ?_)
    change wpAny _ _ _ _ _ _ (wp9 w.heap.size (wp14 xd2 (wp13 xd2 (wp12 xd (wp6 xb (wp5 xa (wp4 xa (wp3 (wp2 (wp1 (wp0 a))))))))))) _
    rw [ws9_14, ws9_13, ws9_12]
    exact st1112 Q w0 a ha hp hQ (w.alloc (.cells #[.int .i64 (-1)] 3)) xa xb w.heap.size xd xd2 (hb.alloc hb.size _) (fa.on (alloc_below w (.cells #[.int .i64 (-1)] 3)) (Nat.le_refl _)) (fb.on (alloc_below w (.cells #[.int .i64 (-1)] 3)) (Nat.le_refl _)) (int_one w (-1)) (fd2.on (alloc_below w (.cells #[.int .i64 (-1)] 3)) (Nat.le_refl _))
theorem st1120 (w : World) (xa xb xc xc2 : Nat) (hb : Below w0.heap.size w0 w) (fa : LiSl w (.slice (some ⟨xa, 0, none⟩) 17 17) (List.replicate 17 [])) (fb : IntSl w (.slice (some ⟨xb, 0, none⟩) 1001 1001) (List.replicate 1001 0)) (fc2 : LiSl w (.slice (some ⟨xc2, 0, none⟩) 2 2) [[], [-1]]) :
    wpAny Try.prog .any wrOps Q 7 #[true, true, true, true, true, true, true, false, false, true, true, true, false, false, false, false, false] (wp11 xc2 (wp10 xc2 (wp9 xc (wp6 xb (wp5 xa (wp4 xa (wp3 (wp2 (wp1 (wp0 a)))))))))) w := by
  refine wpAny_ready (rs := [7, 12]) (by kernel_rfl) (by simp) (AllReady.cons rfl (fun K hK => ?_) (AllReady.cons rfl (fun K hK => ?_) AllReady.nil))
  · refine stp7 (x := xb) (by simp [wp0, wp1, wp2, wp3, wp4, wp5, wp6, wp7, wp8, wp9, wp10, wp11, wp12, wp13, wp14, eval_put, put_size, ha]) (hK _ _ ?_)
    refine wpAny_take (i := 8) rfl (by kernel_rfl) (by kernel_rfl) (by kernel_rfl) (fun c b w h => hp _ _ c b w h) (yl8 (xb2 := w.heap.size) (by simp [wp0, wp1, wp2, wp3, wp4, wp5, wp6, wp7, wp8, wp9, wp10, wp11, wp12, wp13, wp14, eval_put, put_size, ha])) ?_
    change wpAny _ _ _ _ _ _ (wp8 w.heap.size (wp7 w.heap.size (wp11 xc2 (wp10 xc2 (wp9 xc (wp6 xb (wp5 xa (wp4 xa (wp3 (wp2 (wp1 (wp0 a)))))))))))) _
    rw [ws7_11, ws7_10, ws7_9, ws8_11, ws8_10, ws8_9]
    exact st1220 Q w0 a ha hp hQ (w.alloc (.cells #[.slice (some ⟨xb, 0, none⟩) 1001 1001] 32)) xa xb w.heap.size xc xc2 (hb.alloc hb.size _) (fa.on (alloc_below w (.cells #[.slice (some ⟨xb, 0, none⟩) 1001 1001] 32)) (Nat.le_refl _)) (li_one fb) (fc2.on (alloc_below w (.cells #[.slice (some ⟨xb, 0, none⟩) 1001 1001] 32)) (Nat.le_refl _))
  · refine stp12 (hK _ _ ?_)
    change wpAny _ _ _ _ _ _ (wp12 w.heap.size (wp11 xc2 (wp10 xc2 (wp9 xc (wp6 xb (wp5 xa (wp4 xa (wp3 (wp2 (wp1 (wp0 a))))))))))) _
    exact st1121 Q w0 a ha hp hQ (w.alloc (.cells #[.int .i64 100000001] 3)) xa xb xc xc2 w.heap.size (hb.alloc hb.size _) (fa.on (alloc_below w (.cells #[.int .i64 100000001] 3)) (Nat.le_refl _)) (fb.on (alloc_below w (.cells #[.int .i64 100000001] 3)) (Nat.le_refl _)) (fc2.on (alloc_below w (.cells #[.int .i64 100000001] 3)) (Nat.le_refl _)) (int_one w 100000001)
theorem st1201 (w : World) (xa xb xb2 xd : Nat) (hb : Below w0.heap.size w0 w) (fa : LiSl w (.slice (some ⟨xa, 0, none⟩) 17 17) (List.replicate 17 [])) (fb2 : LiSl w (.slice (some ⟨xb2, 0, none⟩) 1 1) [List.replicate 1001 0]) (fd : IntSl w (.slice (some ⟨xd, 0, none⟩) 1 1) [100000001]) :
    wpAny Try.prog .any wrOps Q 7 #[true, true, true, true, true, true, true, true, true, false, false, false, true, false, false, false, false] (wp12 xd (wp8 xb2 (wp7 xb2 (wp6 xb (wp5 xa (wp4 xa (wp3 (wp2 (wp1 (wp0 a)))))))))) w := by
  refine wpAny_ready (rs := [9, 13]) (by kernel_rfl) (by simp) (AllReady.cons rfl (fun K hK => ?_) (AllReady.cons rfl (fun K hK => ?_) AllReady.nil))
  · refine stp9 (hK _ _ ?_)
    change wpAny _ _ _ _ _ _ (wp9 w.heap.size (wp12 xd (wp8 xb2 (wp7 xb2 (wp6 xb (wp5 xa (wp4 xa (wp3 (wp2 (wp1 (wp0 a))))))))))) _
    rw [ws9_12]
    exact st1211 Q w0 a ha hp hQ (w.alloc (.cells #[.int .i64 (-1)] 3)) xa xb xb2 w.heap.size xd (hb.alloc hb.size _) (fa.on (alloc_below w (.cells #[.int .i64 (-1)] 3)) (Nat.le_refl _)) (fb2.on (alloc_below w (.cells #[.int .i64 (-1)] 3)) (Nat.le_refl _)) (int_one w (-1)) (fd.on (alloc_below w (.cells #[.int .i64 (-1)] 3)) (Nat.le_refl _))
  · refine stp13 (x := xd) (by simp [wp0, wp1, wp2, wp3, wp4, wp5, wp6, wp7, wp8, wp9, wp10, wp11, wp12, wp13, wp14, eval_put, put_size, ha]) (hK _ _ ?_)
    refine wpAny_take (i := 14) rfl (by kernel_rfl) (by kernel_rfl) (by kernel_rfl) (fun c b w h => hp _ _ c b w h) (yl14 (xd2 := w.heap.size) (by simp [wp0, wp1, wp2, wp3, wp4, wp5, wp6, wp7, wp8, wp9, wp10, wp11, wp12, wp13, wp14, eval_put, put_size, ha])) ?_
    change wpAny _ _ _ _ _ _ (wp14 w.heap.size (wp13 w.heap.size (wp12 xd (wp8 xb2 (wp7 xb2 (wp6 xb (wp5 xa (wp4 xa (wp3 (wp2 (wp1 (wp0 a)))))))))))) _
    exact st1202 Q w0 a ha hp hQ (w.alloc (.cells #[.slice (some ⟨xd, 0, none⟩) 1 1] 32)) xa xb xb2 xd w.heap.size (hb.alloc hb.size _) (fa.on (alloc_below w (.cells #[.slice (some ⟨xd, 0, none⟩) 1 1] 32)) (Nat.le_refl _)) (fb2.on (alloc_below w (.cells #[.slice (some ⟨xd, 0, none⟩) 1 1] 32)) (Nat.le_refl _)) (li_one fd)
theorem st1210 (w : World) (xa xb xb2 xc : Nat) (hb : Below w0.heap.size w0 w) (fa : LiSl w (.slice (some ⟨xa, 0, none⟩) 17 17) (List.replicate 17 [])) (fb2 : LiSl w (.slice (some ⟨xb2, 0, none⟩) 1 1) [List.replicate 1001 0]) (fc : IntSl w (.slice (some ⟨xc, 0, none⟩) 1 1) [-1]) :
    wpAny Try.prog .any wrOps Q 7 #[true, true, true, true, true, true, true, true, true, true, false, false, false, false, false, false, false] (wp9 xc (wp8 xb2 (wp7 xb2 (wp6 xb (wp5 xa (wp4 xa (wp3 (wp2 (wp1 (wp0 a)))))))))) w := by
  refine wpAny_ready (rs := [10, 12]) (by kernel_rfl) (by simp) (AllReady.cons rfl (fun K hK => ?_) (AllReady.cons rfl (fun K hK => ?_) AllReady.nil))
  · refine stp10 (x := xc) (by simp [wp0, wp1, wp2, wp3, wp4, wp5, wp6, wp7, wp8, wp9, wp10, wp11, wp12, wp13, wp14, eval_put, put_size, ha]) (hK _ _ ?_)
    refine wpAny_take (i := 11) rfl (by kernel_rfl) (by kernel_rfl) (by kernel_rfl) (fun c b w h => hp _ _ c b w h) (yl11 (xc2 := w.heap.size) (by simp [wp0, wp1, wp2, wp3, wp4, wp5, wp6, wp7, wp8, wp9, wp10, wp11, wp12, wp13, wp14, eval_put, put_size, ha])) ?_
    change wpAny _ _ _ _ _ _ (wp11 w.heap.size (wp10 w.heap.size (wp9 xc (wp8 xb2 (wp7 xb2 (wp6 xb (wp5 xa (wp4 xa (wp3 (wp2 (wp1 (wp0 a)))))))))))) _
    exact st1220 Q w0 a ha hp hQ (w.alloc (.cells #[.slice none 0 0, .slice (some ⟨xc, 0, none⟩) 1 1] 32)) xa xb xb2 xc w.heap.size (hb.alloc hb.size _) (fa.on (alloc_below w (.cells #[.slice none 0 0, .slice (some ⟨xc, 0, none⟩) 1 1] 32)) (Nat.le_refl _)) (fb2.on (alloc_below w (.cells #[.slice none 0 0, .slice (some ⟨xc, 0, none⟩) 1 1] 32)) (Nat.le_refl _)) (li_two fc)
  · refine stp12 (hK _ _ ?_)
    change wpAny _ _ _ _ _ _ (wp12 w.heap.size (wp9 xc (wp8 xb2 (wp7 xb2 (wp6 xb (wp5 xa (wp4 xa (wp3 (wp2 (wp1 (wp0 a))))))))))) _
    exact st1211 Q w0 a ha hp hQ (w.alloc (.cells #[.int .i64 100000001] 3)) xa xb xb2 xc w.heap.size (hb.alloc hb.size _) (fa.on (alloc_below w (.cells #[.int .i64 100000001] 3)) (Nat.le_refl _)) (fb2.on (alloc_below w (.cells #[.int .i64 100000001] 3)) (Nat.le_refl _)) (fc.on (alloc_below w (.cells #[.int .i64 100000001] 3)) (Nat.le_refl _)) (int_one w 100000001)
theorem st0112 (w : World) (xb xc xd xd2 : Nat) (hb : Below w0.heap.size w0 w) (fb : IntSl w (.slice (some ⟨xb, 0, none⟩) 1001 1001) (List.replicate 1001 0)) (fc : IntSl w (.slice (some ⟨xc, 0, none⟩) 1 1) [-1]) (fd2 : LiSl w (.slice (some ⟨xd2, 0, none⟩) 1 1) [[100000001]]) :
    wpAny Try.prog .any wrOps Q 8 #[true, true, true, true, false, false, true, false, false, true, false, false, true, true, true, false, false] (wp14 xd2 (wp13 xd2 (wp12 xd (wp9 xc (wp6 xb (wp3 (wp2 (wp1 (wp0 a))))))))) w := by
  refine wpAny_ready (rs := [4, 7, 10]) (by kernel_rfl) (by simp) (AllReady.cons rfl (fun K hK => ?_) (AllReady.cons rfl (fun K hK => ?_) (AllReady.cons rfl (fun K hK => ?_) AllReady.nil)))
  · refine stp4 (hK _ _ ?_)
    refine wpAny_take (i := 5) rfl (by kernel_rfl) (by kernel_rfl) (by kernel_rfl) (fun c b w h => hp _ _ c b w h) (yl5 (xa := w.heap.size) (by simp [wp0, wp1, wp2, wp3, wp4, wp5, wp6, wp7, wp8, wp9, wp10, wp11, wp12, wp13, wp14, eval_put, put_size, ha])) ?_
    change wpAny _ _ _ _ _ _ (wp5 w.heap.size (wp4 w.heap.size (wp14 xd2 (wp13 xd2 (wp12 xd (wp9 xc (wp6 xb (wp3 (wp2 (wp1 (wp0 a))))))))))) _
    rw [ws4_14, ws4_13, ws4_12, ws4_9, ws4_6, ws5_14, ws5_13, ws5_12, ws5_9, ws5_6]
    exact st1112 Q w0 a ha hp hQ (w.alloc (.cells zc17 32)) w.heap.size xb xc xd xd2 (hb.alloc hb.size _) (li_zeros17 w) (fb.on (alloc_below w (.cells zc17 32)) (Nat.le_refl _)) (fc.on (alloc_below w (.cells zc17 32)) (Nat.le_refl _)) (fd2.on (alloc_below w (.cells zc17 32)) (Nat.le_refl _))
  · refine stp7 (x := xb) (by simp [wp0, wp1, wp2, wp3, wp4, wp5, wp6, wp7, wp8, wp9, wp10, wp11, wp12, wp13, wp14, eval_put, put_size, ha]) (hK _ _ ?_)
    refine wpAny_take (i := 8) rfl (by kernel_rfl) (by kernel_rfl) (by kernel_rfl) (fun c b w h => hp _ _ c b w h) (yl8 (xb2 := w.heap.size) (by simp [wp0, wp1, wp2, wp3, wp4, wp5, wp6, wp7, wp8, wp9, wp10, wp11, wp12, wp13, wp14, eval_put, put_size, ha])) ?_
    change wpAny _ _ _ _ _ _ (wp8 w.heap.size (wp7 w.heap.size (wp14 xd2 (wp13 xd2 (wp12 xd (wp9 xc (wp6 xb (wp3 (wp2 (wp1 (wp0 a))))))))))) _
    rw [ws7_14, ws7_13, ws7_12, ws7_9, ws8_14, ws8_13, ws8_12, ws8_9]
    exact st0212 Q w0 a ha hp hQ (w.alloc (.cells #[.slice (some ⟨xb, 0, none⟩) 1001 1001] 32)) xb w.heap.size xc xd xd2 (hb.alloc hb.size _) (li_one fb) (fc.on (alloc_below w (.cells #[.slice (some ⟨xb, 0, none⟩) 1001 1001] 32)) (Nat.le_refl _)) (fd2.on (alloc_below w (.cells #[.slice (some ⟨xb, 0, none⟩) 1001 1001] 32)) (Nat.le_refl _))
  · refine stp10 (x := xc) (by simp [wp0, wp1, wp2, wp3, wp4, wp5, wp6, wp7, wp8, wp9, wp10, wp11, wp12, wp13, wp14, eval_put, put_size, ha]) (hK _ _ ?_)
    refine wpAny_take (i := 11) rfl (by kernel_rfl) (by kernel_rfl) (by kernel_rfl) (fun c b w h => hp _ _ c b w h) (yl11 (xc2 := w.heap.size) (by simp [wp0, wp1, wp2, wp3, wp4, wp5, wp6, wp7, wp8, wp9, wp10, wp11, wp12, wp13, wp14, eval_put, put_size, ha])) ?_
    change wpAny _ _ _ _ _ _ (wp11 w.heap.size (wp10 w.heap.size (wp14 xd2 (wp13 xd2 (wp12 xd (wp9 xc (wp6 xb (wp3 (wp2 (wp1 (wp0 a))))))))))) _
    rw [ws10_14, ws10_13, ws10_12, ws11_14, ws11_13, ws11_12]
    exact st0122 Q w0 a ha hp hQ (w.alloc (.cells #[.slice none 0 0, .slice (some ⟨xc, 0, none⟩) 1 1] 32)) xb xc w.heap.size xd xd2 (hb.alloc hb.size _) (fb.on (alloc_below w (.cells #[.slice none 0 0, .slice (some ⟨xc, 0, none⟩) 1 1] 32)) (Nat.le_refl _)) (li_two fc) (fd2.on (alloc_below w (.cells #[.slice none 0 0, .slice (some ⟨xc, 0, none⟩) 1 1] 32)) (Nat.le_refl _))
theorem st0121 (w : World) (xb xc xc2 xd : Nat) (hb : Below w0.heap.size w0 w) (fb : IntSl w (.slice (some ⟨xb, 0, none⟩) 1001 1001) (List.replicate 1001 0)) (fc2 : LiSl w (.slice (some ⟨xc2, 0, none⟩) 2 2) [[], [-1]]) (fd : IntSl w (.slice (some ⟨xd, 0, none⟩) 1 1) [100000001]) :
    wpAny Try.prog .any wrOps Q 8 #[true, true, true, true, false, false, true, false, false, true, true, true, true, false, false, false, false] (wp12 xd (wp11 xc2 (wp10 xc2 (wp9 xc (wp6 xb (wp3 (wp2 (wp1 (wp0 a))))))))) w := by
  refine wpAny_ready (rs := [4, 7, 13]) (by kernel_rfl) (by simp) (AllReady.cons rfl (fun K hK => ?_) (AllReady.cons rfl (fun K hK => ?_) (AllReady.cons rfl (fun K hK => ?_) AllReady.nil)))
  · refine stp4 (hK _ _ ?_)
    refine wpAny_take (i := 5) rfl (by kernel_rfl) (by kernel_rfl) (by kernel_rfl) (fun c b w h => hp _ _ c b w h) (yl5 (xa := w.heap.size) (by simp [wp0, wp1, wp2, wp3, wp4, wp5, wp6, wp7, wp8, wp9, wp10, wp11, wp12, wp13, wp14, eval_put, put_size, ha])) ?_
    change wpAny _ _ _ _ _ _ (wp5 w.heap.size (wp4 w.heap.size (wp12 xd (wp11 xc2 (wp10 xc2 (wp9 xc (wp6 xb (wp3 (wp2 (wp1 (wp0 a))))))))))) _
    rw [ws4_12, ws4_11, ws4_10, ws4_9, ws4_6, ws5_12, ws5_11, ws5_10, ws5_9, ws5_6]
    exact st1121 Q w0 a ha hp hQ (w.alloc (.cells zc17 32)) w.heap.size xb xc xc2 xd (hb.alloc hb.size _) (li_zeros17 w) (fb.on (alloc_below w (.cells zc17 32)) (Nat.le_refl _)) (fc2.on (alloc_below w (.cells zc17 32)) (Nat.le_refl _)) (fd.on (alloc_below w (.cells zc17 32)) (Nat.le_refl _))
  · refine stp7 (x := xb) (by simp [wp0, wp1, wp2, wp3, wp4, wp5, wp6, wp7, wp8, wp9, wp10, wp11, wp12, wp13, wp14, eval_put, put_size, ha]) (hK _ _ ?_)
    refine wpAny_take (i := 8) rfl (by kernel_rfl) (by kernel_rfl) (by kernel_rfl) (fun c b w h => hp _ _ c b w h) (yl8 (xb2 := w.heap.size) (by simp [wp0, wp1, wp2, wp3, wp4, wp5, wp6, wp7, wp8, wp9, wp10, wp11, wp12, wp13, wp14, eval_put, put_size, ha])) ?_
    change wpAny _ _ _ _ _ _ (wp8 w.heap.size (wp7 w.heap.size (wp12 xd (wp11 xc2 (wp10 xc2 (wp9 xc (wp6 xb (wp3 (wp2 (wp1 (wp0 a))))))))))) _
    rw [ws7_12, ws7_11, ws7_10, ws7_9, ws8_12, ws8_11, ws8_10, ws8_9]
    exact st0221 Q w0 a ha hp hQ (w.alloc (.cells #[.slice (some ⟨xb, 0, none⟩) 1001 1001] 32)) xb w.heap.size xc xc2 xd (hb.alloc hb.size _) (li_one fb) (fc2.on (alloc_below w (.cells #[.slice (some ⟨xb, 0, none⟩) 1001 1001] 32)) (Nat.le_refl _)) (fd.on (alloc_below w (.cells #[.slice (some ⟨xb, 0, none⟩) 1001 1001] 32)) (Nat.le_refl _))
  · refine stp13 (x := xd) (by simp [wp0, wp1, wp2, wp3, wp4, wp5, wp6, wp7, wp8, wp9, wp10, wp11, wp12, wp13, wp14, eval_put, put_size, ha]) (hK _ _ ?_)
    refine wpAny_take (i := 14) rfl (by kernel_rfl) (by kernel_rfl) (by kernel_rfl) (fun c b w h => hp _ _ c b w h) (yl14 (xd2 := w.heap.size) (by simp [wp0, wp1, wp2, wp3, wp4, wp5, wp6, wp7, wp8, wp9, wp10, wp11, wp12, wp13, wp14, eval_put, put_size, ha])) ?_
    change wpAny _ _ _ _ _ _ (wp14 w.heap.size (wp13 w.heap.size (wp12 xd (wp11 xc2 (wp10 xc2 (wp9 xc (wp6 xb (wp3 (wp2 (wp1 (wp0 a))))))))))) _
    exact st0122 Q w0 a ha hp hQ (w.alloc (.cells #[.slice (some ⟨xd, 0, none⟩) 1 1] 32)) xb xc xc2 xd w.heap.size (hb.alloc hb.size _) (fb.on (alloc_below w (.cells #[.slice (some ⟨xd, 0, none⟩) 1 1] 32)) (Nat.le_refl _)) (fc2.on (alloc_below w (.cells #[.slice (some ⟨xd, 0, none⟩) 1 1] 32)) (Nat.le_refl _)) (li_one fd)
theorem st0211 (w : World) (xb xb2 xc xd : Nat) (hb : Below w0.heap.size w0 w) (fb2 : LiSl w (.slice (some ⟨xb2, 0, none⟩) 1 1) [List.replicate 1001 0]) (fc : IntSl w (.slice (some ⟨xc, 0, none⟩) 1 1) [-1]) (fd : IntSl w (.slice (some ⟨xd, 0, none⟩) 1 1) [100000001]) :
    wpAny Try.prog .any wrOps Q 8 #[true, true, true, true, false, false, true, true, true, true, false, false, true, false, false, false, false] (wp12 xd (wp9 xc (wp8 xb2 (wp7 xb2 (wp6 xb (wp3 (wp2 (wp1 (wp0 a))))))))) w := by
  refine wpAny_ready (rs := [4, 10, 13]) (by kernel_rfl) (by simp) (AllReady.cons rfl (fun K hK => ?_) (AllReady.cons rfl (fun K hK => ?_) (AllReady.cons rfl (fun K hK => ?_) AllReady.nil)))
  · refine stp4 (hK _ _ ?_)
    refine wpAny_take (i := 5) rfl (by kernel_rfl) (by kernel_rfl) (by kernel_rfl) (fun c b w h => hp _ _ c b w h) (yl5 (xa := w.heap.size) (by simp [wp0, wp1, wp2, wp3, wp4, wp5, wp6, wp7, wp8, wp9, wp10, wp11, wp12, wp13, wp14, eval_put, put_size, ha])) ?_
    change wpAny _ _ _ _ _ _ (wp5 w.heap.size (wp4 w.heap.size (wp12 xd (wp9 xc (wp8 xb2 (wp7 xb2 (wp6 xb (wp3 (wp2 (wp1 (wp0 a))))))))))) _
    rw [ws4_12, ws4_9, ws4_8, ws4_7, ws4_6, ws5_12, ws5_9, ws5_8, ws5_7, ws5_6]
    exact st1211 Q w0 a ha hp hQ (w.alloc (.cells zc17 32)) w.heap.size xb xb2 xc xd (hb.alloc hb.size _) (li_zeros17 w) (fb2.on (alloc_below w (.cells zc17 32)) (Nat.le_refl _)) (fc.on (alloc_below w (.cells zc17 32)) (Nat.le_refl _)) (fd.on (alloc_below w (.cells zc17 32)) (Nat.le_refl _))
  · refine stp10 (x := xc) (by simp [wp0, wp1, wp2, wp3, wp4, wp5, wp6, wp7, wp8, wp9, wp10, wp11, wp12, wp13, wp14, eval_put, put_size, ha]) (hK _ _ ?_)
    refine wpAny_take (i := 11) rfl (by kernel_rfl) (by kernel_rfl) (by kernel_rfl) (fun c b w h => hp _ _ c b w h) (yl11 (xc2 := w.heap.size) (by simp [wp0, wp1, wp2, wp3, wp4, wp5, wp6, wp7, wp8, wp9, wp10, wp11, wp12, wp13, wp14, eval_put, put_size, ha])) ?_
    change wpAny _ _ _ _ _ _ (wp11 w.heap.size (wp10 w.heap.size (wp12 xd (wp9 xc (wp8 xb2 (wp7 xb2 (wp6 xb (wp3 (wp2 (wp1 (wp0 a))))))))))) _
    rw [ws10_12, ws11_12]
    exact st0221 Q w0 a ha hp hQ (w.alloc (.cells #[.slice none 0 0, .slice (some ⟨xc, 0, none⟩) 1 1] 32)) xb xb2 xc w.heap.size xd (hb.alloc hb.size _) (fb2.on (alloc_below w (.cells #[.slice none 0 0, .slice (some ⟨xc, 0, none⟩) 1 1] 32)) (Nat.le_refl _)) (li_two fc) (fd.on (alloc_below w (.cells #[.slice none 0 0, .slice (some ⟨xc, 0, none⟩) 1 1] 32)) (Nat.le_refl _))
  · refine stp13 (x := xd) (by simp [wp0, wp1, wp2, wp3, wp4, wp5, wp6, wp7, wp8, wp9, wp10, wp11, wp12, wp13, wp14, eval_put, put_size, ha]) (hK _ _ ?_)
    refine wpAny_take (i := 14) rfl (by kernel_rfl) (by kernel_rfl) (by kernel_rfl) (fun c b w h => hp _ _ c b w h) (yl14 (xd2 := w.heap.size) (by simp [wp0, wp1, wp2, wp3, wp4, wp5, wp6, wp7, wp8, wp9, wp10, wp11, wp12, wp13, wp14, eval_put, put_size, ha])) ?_
    change wpAny _ _ _ _ _ _ (wp14 w.heap.size (wp13 w.heap.size (wp12 xd (wp9 xc (wp8 xb2 (wp7 xb2 (wp6 xb (wp3 (wp2 (wp1 (wp0 a))))))))))) _
    exact st0212 Q w0 a ha hp hQ (w.alloc (.cells #[.slice (some ⟨xd, 0, none⟩) 1 1] 32)) xb xb2 xc xd w.heap.size (hb.alloc hb.size _) (fb2.on (alloc_below w (.cells #[.slice (some ⟨xd, 0, none⟩) 1 1] 32)) (Nat.le_refl _)) (fc.on (alloc_below w (.cells #[.slice (some ⟨xd, 0, none⟩) 1 1] 32)) (Nat.le_refl _)) (li_one fd)
theorem st1002 (w : World) (xa xd xd2 : Nat) (hb : Below w0.heap.size w0 w) (fa : LiSl w (.slice (some ⟨xa, 0, none⟩) 17 17) (List.replicate 17 [])) (fd2 : LiSl w (.slice (some ⟨xd2, 0, none⟩) 1 1) [[100000001]]) :
    wpAny Try.prog .any wrOps Q 8 #[true, true, true, true, true, true, false, false, false, false, false, false, true, true, true, false, false] (wp14 xd2 (wp13 xd2 (wp12 xd (wp5 xa (wp4 xa (wp3 (wp2 (wp1 (wp0 a))))))))) w := by
  refine wpAny_ready (rs := [6, 9]) (by kernel_rfl) (by simp) (AllReady.cons rfl (fun K hK => ?_) (AllReady.cons rfl (fun K hK => ?_) AllReady.nil))
  · refine stp6 (hK _ _ ?_)
    change wpAny _ _ _ _ _ _ (wp6 w.heap.size (wp14 xd2 (wp13 xd2 (wp12 xd (wp5 xa (wp4 xa (wp3 (wp2 (wp1 (wp0 a)))))))))) _
    rw [ws6_14, ws6_13, ws6_12]
    exact st1102 Q w0 a ha hp hQ (w.alloc (.cells zc1001 3)) xa w.heap.size xd xd2 (hb.alloc hb.size _) (fa.on (alloc_below w (.cells zc1001 3)) (Nat.le_refl _)) (int_zeros w) (fd2.on (alloc_below w (.cells zc1001 3)) (Nat.le_refl _))
  · refine stp9 (hK _ _ ?_)
    change wpAny _ _ _ _ _ _ (wp9 w.heap.size (wp14 xd2 (wp13 xd2 (wp12 xd (wp5 xa (wp4 xa (wp3 (wp2 (wp1 (wp0 a)))))))))) _
    rw [ws9_14, ws9_13, ws9_12]
    exact st1012 Q w0 a ha hp hQ (w.alloc (.cells #[.int .i64 (-1)] 3)) xa w.heap.size xd xd2 (hb.alloc hb.size _) (fa.on (alloc_below w (.cells #[.int .i64 (-1)] 3)) (Nat.le_refl _)) (int_one w (-1)) (fd2.on (alloc_below w (.cells #[.int .i64 (-1)] 3)) (Nat.le_refl _))
theorem st1020 (w : World) (xa xc xc2 : Nat) (hb : Below w0.heap.size w0 w) (fa : LiSl w (.slice (some ⟨xa, 0, none⟩) 17 17) (List.replicate 17 [])) (fc2 : LiSl w (.slice (some ⟨xc2, 0, none⟩) 2 2) [[], [-1]]) :
    wpAny Try.prog .any wrOps Q 8 #[true, true, true, true, true, true, false, false, false, true, true, true, false, false, false, false, false] (wp11 xc2 (wp10 xc2 (wp9 xc (wp5 xa (wp4 xa (wp3 (wp2 (wp1 (wp0 a))))))))) w := by
  refine wpAny_ready (rs := [6, 12]) (by kernel_rfl) (by simp) (AllReady.cons rfl (fun K hK => ?_) (AllReady.cons rfl (fun K hK => ?_) AllReady.nil))
  · refine stp6 (hK _ _ ?_)
    change wpAny _ _ _ _ _ _ (wp6 w.heap.size (wp11 xc2 (wp10 xc2 (wp9 xc (wp5 xa (wp4 xa (wp3 (wp2 (wp1 (wp0 a)))))))))) _
    rw [ws6_11, ws6_10, ws6_9]
    exact st1120 Q w0 a ha hp hQ (w.alloc (.cells zc1001 3)) xa w.heap.size xc xc2 (hb.alloc hb.size _) (fa.on (alloc_below w (.cells zc1001 3)) (Nat.le_refl _)) (int_zeros w) (fc2.on (alloc_below w (.cells zc1001 3)) (Nat.le_refl _))
  · refine stp12 (hK _ _ ?_)
    change wpAny _ _ _ _ _ _ (wp12 w.heap.size (wp11 xc2 (wp10 xc2 (wp9 xc (wp5 xa (wp4 xa (wp3 (wp2 (wp1 (wp0 a)))))))))) _
    exact st1021 Q w0 a ha hp hQ (w.alloc (.cells #[.int .i64 100000001] 3)) xa xc xc2 w.heap.size (hb.alloc hb.size _) (fa.on (alloc_below w (.cells #[.int .i64 100000001] 3)) (Nat.le_refl _)) (fc2.on (alloc_below w (.cells #[.int .i64 100000001] 3)) (Nat.le_refl _)) (int_one w 100000001)
theorem st1111 (w : World) (xa xb xc xd : Nat) (hb : Below w0.heap.size w0 w) (fa : LiSl w (.slice (some ⟨xa, 0, none⟩) 17 17) (List.replicate 17 [])) (fb : IntSl w (.slice (some ⟨xb, 0, none⟩) 1001 1001) (List.replicate 1001 0)) (fc : IntSl w (.slice (some ⟨xc, 0, none⟩) 1 1) [-1]) (fd : IntSl w (.slice (some ⟨xd, 0, none⟩) 1 1) [100000001]) :
    wpAny Try.prog .any wrOps Q 8 #[true, true, true, true, true, true, true, false, false, true, false, false, true, false, false, false, false] (wp12 xd (wp9 xc (wp6 xb (wp5 xa (wp4 xa (wp3 (wp2 (wp1 (wp0 a))))))))) w := by
  refine wpAny_ready (rs := [7, 10, 13]) (by kernel_rfl) (by simp) (AllReady.cons rfl (fun K hK => ?_) (AllReady.cons rfl (fun K hK => ?_) (AllReady.cons rfl (fun K hK => ?_) AllReady.nil)))
  · refine stp7 (x := xb) (by simp [wp0, wp1, wp2, wp3, wp4, wp5, wp6, wp7, wp8, wp9, wp10, wp11, wp12, wp13, wp14, eval_put, put_size, ha]) (hK _ _ ?_)
    refine wpAny_take (i := 8) rfl (by kernel_rfl) (by kernel_rfl) (by kernel_rfl) (fun c b w h => hp _ _ c b w h) (yl8 (xb2 := w.heap.size) (by simp [wp0, wp1, wp2, wp3, wp4, wp5, wp6, wp7, wp8, wp9, wp10, wp11, wp12, wp13, wp14, eval_put, put_size, ha])) ?_
    change wpAny _ _ _ _ _ _ (wp8 w.heap.size (wp7 w.heap.size (wp12 xd (wp9 xc (wp6 xb (wp5 xa (wp4 xa (wp3 (wp2 (wp1 (wp0 a))))))))))) _
    rw [ws7_12, ws7_9, ws8_12, ws8_9]
    exact st1211 Q w0 a ha hp hQ (w.alloc (.cells #[.slice (some ⟨xb, 0, none⟩) 1001 1001] 32)) xa xb w.heap.size xc xd (hb.alloc hb.size _) (fa.on (alloc_below w (.cells #[.slice (some ⟨xb, 0, none⟩) 1001 1001] 32)) (Nat.le_refl _)) (li_one fb) (fc.on (alloc_below w (.cells #[.slice (some ⟨xb, 0, none⟩) 1001 1001] 32)) (Nat.le_refl _)) (fd.on (alloc_below w (.cells #[.slice (some ⟨xb, 0, none⟩) 1001 1001] 32)) (Nat.le_refl _))
  · refine stp10 (x := xc) (by simp [wp0, wp1, wp2, wp3, wp4, wp5, wp6, wp7, wp8, wp9, wp10, wp11, wp12, wp13, wp14, eval_put, put_size, ha]) (hK _ _ ?_)
    refine wpAny_take (i := 11) rfl (by kernel_rfl) (by kernel_rfl) (by kernel_rfl) (fun c b w h => hp _ _ c b w h) (yl11 (xc2 := w.heap.size) (by simp [wp0, wp1, wp2, wp3, wp4, wp5, wp6, wp7, wp8, wp9, wp10, wp11, wp12, wp13, wp14, eval_put, put_size, ha])) ?_
    change wpAny _ _ _ _ _ _ (wp11 w.heap.size (wp10 w.heap.size (wp12 xd (wp9 xc (wp6 xb (wp5 xa (wp4 xa (wp3 (wp2 (wp1 (wp0 a))))))))))) _
    rw [ws10_12, ws11_12]
    exact st1121 Q w0 a ha hp hQ (w.alloc (.cells #[.slice none 0 0, .slice (some ⟨xc, 0, none⟩) 1 1] 32)) xa xb xc w.heap.size xd (hb.alloc hb.size _) (fa.on (alloc_below w (.cells #[.slice none 0 0, .slice (some ⟨xc, 0, none⟩) 1 1] 32)) (Nat.le_refl _)) (fb.on (alloc_below w (.cells #[.slice none 0 0, .slice (some ⟨xc, 0, none⟩) 1 1] 32)) (Nat.le_refl _)) (li_two fc) (fd.on (alloc_below w (.cells #[.slice none 0 0, .slice (some ⟨xc, 0, none⟩) 1 1] 32)) (Nat.le_refl _))
  · refine stp13 (x := xd) (by simp [wp0, wp1, wp2, wp3, wp4, wp5, wp6, wp7, wp8, wp9, wp10, wp11, wp12, wp13, wp14, eval_put, put_size, ha]) (hK _ _ ?_)
    refine wpAny_take (i := 14) rfl (by kernel_rfl) (by kernel_rfl) (by kernel_rfl) (fun c b w h => hp _ _ c b w h) (yl14 (xd2 := w.heap.size) (by simp [wp0, wp1, wp2, wp3, wp4, wp5, wp6, wp7, wp8, wp9, wp10, wp11, wp12, wp13, wp14, eval_put, put_size, ha])) ?_
    change wpAny _ _ _ _ _ _ (wp14 w.heap.size (wp13 w.heap.size (wp12 xd (wp9 xc (wp6 xb (wp5 xa (wp4 xa (wp3 (wp2 (wp1 (wp0 a))))))))))) _
    exact st1112 Q w0 a ha hp hQ (w.alloc (.cells #[.slice (some ⟨xd, 0, none⟩) 1 1] 32)) xa xb xc xd w.heap.size (hb.alloc hb.size _) (fa.on (alloc_below w (.cells #[.slice (some ⟨xd, 0, none⟩) 1 1] 32)) (Nat.le_refl _)) (fb.on (alloc_below w (.cells #[.slice (some ⟨xd, 0, none⟩) 1 1] 32)) (Nat.le_refl _)) (fc.on (alloc_below w (.cells #[.slice (some ⟨xd, 0, none⟩) 1 1] 32)) (Nat.le_refl _)) (li_one fd)
theorem st1200 (w : World) (xa xb xb2 : Nat) (hb : Below w0.heap.size w0 w) (fa : LiSl w (.slice (some ⟨xa, 0, none⟩) 17 17) (List.replicate 17 [])) (fb2 : LiSl w (.slice (some ⟨xb2, 0, none⟩) 1 1) [List.replicate 1001 0]) :
    wpAny Try.prog .any wrOps Q 8 #[true, true, true, true, true, true, true, true, true, false, false, false, false, false, false, false, false] (wp8 xb2 (wp7 xb2 (wp6 xb (wp5 xa (wp4 xa (wp3 (wp2 (wp1 (wp0 a))))))))) w := by
  refine wpAny_ready (rs := [9, 12]) (by kernel_rfl) (by simp) (AllReady.cons rfl (fun K hK => ?_) (AllReady.cons rfl (fun K hK => ?_) AllReady.nil))
  · refine stp9 (hK _ _ ?_)
    change wpAny _ _ _ _ _ _ (wp9 w.heap.size (wp8 xb2 (wp7 xb2 (wp6 xb (wp5 xa (wp4 xa (wp3 (wp2 (wp1 (wp0 a)))))))))) _
    exact st1210 Q w0 a ha hp hQ (w.alloc (.cells #[.int .i64 (-1)] 3)) xa xb xb2 w.heap.size (hb.alloc hb.size _) (fa.on (alloc_below w (.cells #[.int .i64 (-1)] 3)) (Nat.le_refl _)) (fb2.on (alloc_below w (.cells #[.int .i64 (-1)] 3)) (Nat.le_refl _)) (int_one w (-1))
  · refine stp12 (hK _ _ ?_)
    change wpAny _ _ _ _ _ _ (wp12 w.heap.size (wp8 xb2 (wp7 xb2 (wp6 xb (wp5 xa (wp4 xa (wp3 (wp2 (wp1 (wp0 a)))))))))) _
    exact st1201 Q w0 a ha hp hQ (w.alloc (.cells #[.int .i64 100000001] 3)) xa xb xb2 w.heap.size (hb.alloc hb.size _) (fa.on (alloc_below w (.cells #[.int .i64 100000001] 3)) (Nat.le_refl _)) (fb2.on (alloc_below w (.cells #[.int .i64 100000001] 3)) (Nat.le_refl _)) (int_one w 100000001)
theorem st0012 (w : World) (xc xd xd2 : Nat) (hb : Below w0.heap.size w0 w) (fc : IntSl w (.slice (some ⟨xc, 0, none⟩) 1 1) [-1]) (fd2 : LiSl w (.slice (some ⟨xd2, 0, none⟩) 1 1) [[100000001]]) :
    wpAny Try.prog .any wrOps Q 9 #[true, true, true, true, false, false, false, false, false, true, false, false, true, true, true, false, false] (wp14 xd2 (wp13 xd2 (wp12 xd (wp9 xc (wp3 (wp2 (wp1 (wp0 a)))))))) w := by
  refine wpAny_ready (rs := [4, 6, 10]) (by kernel_rfl) (by simp) (AllReady.cons rfl (fun K hK => ?_) (AllReady.cons rfl (fun K hK => ?_) (AllReady.cons rfl (fun K hK => ?_) AllReady.nil)))
  · refine stp4 (hK _ _ ?_)
    refine wpAny_take (i := 5) rfl (by kernel_rfl) (by kernel_rfl) (by kernel_rfl) (fun c b w h => hp _ _ c b w h) (yl5 (xa := w.heap.size) (by simp [wp0, wp1, wp2, wp3, wp4, wp5, wp6, wp7, wp8, wp9, wp10, wp11, wp12, wp13, wp14, eval_put, put_size, ha])) ?_
    change wpAny _ _ _ _ _ _ (wp5 w.heap.size (wp4 w.heap.size (wp14 xd2 (wp13 xd2 (wp12 xd (wp9 xc (wp3 (wp2 (wp1 (wp0 a)))))))))) _
    rw [ws4_14, ws4_13, ws4_12, ws4_9, ws5_14, ws5_13, ws5_12, ws5_9]
    exact st1012 Q w0 a ha hp hQ (w.alloc (.cells zc17 32)) w.heap.size xc xd xd2 (hb.alloc hb.size _) (li_zeros17 w) (fc.on (alloc_below w (.cells zc17 32)) (Nat.le_refl _)) (fd2.on (alloc_below w (.cells zc17 32)) (Nat.le_refl _))
  · refine stp6 (hK _ _ ?_)
    change wpAny _ _ _ _ _ _ (wp6 w.heap.size (wp14 xd2 (wp13 xd2 (wp12 xd (wp9 xc (wp3 (wp2 (wp1 (wp0 a))))))))) _
    rw [ws6_14, ws6_13, ws6_12, ws6_9]
    exact st0112 Q w0 a ha hp hQ (w.alloc (.cells zc1001 3)) w.heap.size xc xd xd2 (hb.alloc hb.size _) (int_zeros w) (fc.on (alloc_below w (.cells zc1001 3)) (Nat.le_refl _)) (fd2.on (alloc_below w (.cells zc1001 3)) (Nat.le_refl _))
  · refine stp10 (x := xc) (by simp [wp0, wp1, wp2, wp3, wp4, wp5, wp6, wp7, wp8, wp9, wp10, wp11, wp12, wp13, wp14, eval_put, put_size, ha]) (hK _ _ ?_)
    refine wpAny_take (i := 11) rfl (by kernel_rfl) (by kernel_rfl) (by kernel_rfl) (fun c b w h => hp _ _ c b w h) (yl11 (xc2 := w.heap.size) (by simp [wp0, wp1, wp2, wp3, wp4, wp5, wp6, wp7, wp8, wp9, wp10, wp11, wp12, wp13, wp14, eval_put, put_size, ha])) ?_
    change wpAny _ _ _ _ _ _ (wp11 w.heap.size (wp10 w.heap.size (wp14 xd2 (wp13 xd2 (wp12 xd (wp9 xc (wp3 (wp2 (wp1 (wp0 a)))))))))) _
    rw [ws10_14, ws10_13, ws10_12, ws11_14, ws11_13, ws11_12]
    exact st0022 Q w0 a ha hp hQ (w.alloc (.cells #[.slice none 0 0, .slice (some ⟨xc, 0, none⟩) 1 1] 32)) xc w.heap.size xd xd2 (hb.alloc hb.size _) (li_two fc) (fd2.on (alloc_below w (.cells #[.slice none 0 0, .slice (some ⟨xc, 0, none⟩) 1 1] 32)) (Nat.le_refl _))
theorem st0021 (w : World) (xc xc2 xd : Nat) (hb : Below w0.heap.size w0 w) (fc2 : LiSl w (.slice (some ⟨xc2, 0, none⟩) 2 2) [[], [-1]]) (fd : IntSl w (.slice (some ⟨xd, 0, none⟩) 1 1) [100000001]) :
    wpAny Try.prog .any wrOps Q 9 #[true, true, true, true, false, false, false, false, false, true, true, true, true, false, false, false, false] (wp12 xd (wp11 xc2 (wp10 xc2 (wp9 xc (wp3 (wp2 (wp1 (wp0 a)))))))) w := by
  refine wpAny_ready (rs := [4, 6, 13]) (by kernel_rfl) (by simp) (AllReady.cons rfl (fun K hK => ?_) (AllReady.cons rfl (fun K hK => ?_) (AllReady.cons rfl (fun K hK => ?_) AllReady.nil)))
  · refine stp4 (hK _ _ ?_)
    refine wpAny_take (i := 5) rfl (by kernel_rfl) (by kernel_rfl) (by kernel_rfl) (fun c b w h => hp _ _ c b w h) (yl5 (xa := w.heap.size) (by simp [wp0, wp1, wp2, wp3, wp4, wp5, wp6, wp7, wp8, wp9, wp10, wp11, wp12, wp13, wp14, eval_put, put_size, ha])) ?_
    change wpAny _ _ _ _ _ _ (wp5 w.heap.size (wp4 w.heap.size (wp12 xd (wp11 xc2 (wp10 xc2 (wp9 xc (wp3 (wp2 (wp1 (wp0 a)))))))))) _
    rw [ws4_12, ws4_11, ws4_10, ws4_9, ws5_12, ws5_11, ws5_10, ws5_9]
    exact st1021 Q w0 a ha hp hQ (w.alloc (.cells zc17 32)) w.heap.size xc xc2 xd (hb.alloc hb.size _) (li_zeros17 w) (fc2.on (alloc_below w (.cells zc17 32)) (Nat.le_refl _)) (fd.on (alloc_below w (.cells zc17 32)) (Nat.le_refl _))
  · refine stp6 (hK _ _ ?_)
    change wpAny _ _ _ _ _ _ (wp6 w.heap.size (wp12 xd (wp11 xc2 (wp10 xc2 (wp9 xc (wp3 (wp2 (wp1 (wp0 a))))))))) _
    rw [ws6_12, ws6_11, ws6_10, ws6_9]
    exact st0121 Q w0 a ha hp hQ (w.alloc (.cells zc1001 3)) w.heap.size xc xc2 xd (hb.alloc hb.size _) (int_zeros w) (fc2.on (alloc_below w (.cells zc1001 3)) (Nat.le_refl _)) (fd.on (alloc_below w (.cells zc1001 3)) (Nat.le_refl _))
  · refine stp13 (x := xd) (by simp [wp0, wp1, wp2, wp3, wp4, wp5, wp6, wp7, wp8, wp9, wp10, wp11, wp12, wp13, wp14, eval_put, put_size, ha]) (hK _ _ ?_)
    refine wpAny_take (i := 14) rfl (by kernel_rfl) (by kernel_rfl) (by kernel_rfl) (fun c b w h => hp _ _ c b w h) (yl14 (xd2 := w.heap.size) (by simp [wp0, wp1, wp2, wp3, wp4, wp5, wp6, wp7, wp8, wp9, wp10, wp11, wp12, wp13, wp14, eval_put, put_size, ha])) ?_
    change wpAny _ _ _ _ _ _ (wp14 w.heap.size (wp13 w.heap.size (wp12 xd (wp11 xc2 (wp10 xc2 (wp9 xc (wp3 (wp2 (wp1 (wp0 a)))))))))) _
    exact st0022 Q w0 a ha hp hQ (w.alloc (.cells #[.slice (some ⟨xd, 0, none⟩) 1 1] 32)) xc xc2 xd w.heap.size (hb.alloc hb.size _) (fc2.on (alloc_below w (.cells #[.slice (some ⟨xd, 0, none⟩) 1 1] 32)) (Nat.le_refl _)) (li_one fd)
theorem st0102 (w : World) (xb xd xd2 : Nat) (hb : Below w0.heap.size w0 w) (fb : IntSl w (.slice (some ⟨xb, 0, none⟩) 1001 1001) (List.replicate 1001 0)) (fd2 : LiSl w (.slice (some ⟨xd2, 0, none⟩) 1 1) [[100000001]]) :
    wpAny Try.prog .any wrOps Q 9 #[true, true, true, true, false, false, true, false, false, false, false, false, true, true, true, false, false] (wp14 xd2 (wp13 xd2 (wp12 xd (wp6 xb (wp3 (wp2 (wp1 (wp0 a)))))))) w := by
  refine wpAny_ready (rs := [4, 7, 9]) (by kernel_rfl) (by simp) (AllReady.cons rfl (fun K hK => ?_) (AllReady.cons rfl (fun K hK => ?_) (AllReady.cons rfl (fun K hK => ?_) AllReady.nil)))
  · refine stp4 (hK _ _ ?_)
    refine wpAny_take (i := 5) rfl (by kernel_rfl) (by kernel_rfl) (by kernel_rfl) (fun c b w h => hp _ _ c b w h) (yl5 (xa := w.heap.size) (by simp [wp0, wp1, wp2, wp3, wp4, wp5, wp6, wp7, wp8, wp9, wp10, wp11, wp12, wp13, wp14, eval_put, put_size, ha])) ?_
    change wpAny _ _ _ _ _ _ (wp5 w.heap.size (wp4 w.heap.size (wp14 xd2 (wp13 xd2 (wp12 xd (wp6 xb (wp3 (wp2 (wp1 (wp0 a)))))))))) _
    rw [ws4_14, ws4_13, ws4_12, ws4_6, ws5_14, ws5_13, ws5_12, ws5_6]
    exact st1102 Q w0 a ha hp hQ (w.alloc (.cells zc17 32)) w.heap.size xb xd xd2 (hb.alloc hb.size _) (li_zeros17 w) (fb.on (alloc_below w (.cells zc17 32)) (Nat.le_refl _)) (fd2.on (alloc_below w (.cells zc17 32)) (Nat.le_refl _))
  · refine stp7 (x := xb) (by simp [wp0, wp1, wp2, wp3, wp4, wp5, wp6, wp7, wp8, wp9, wp10, wp11, wp12, wp13, wp14, eval_put, put_size, ha]) (hK _ _ ?_)
    refine wpAny_take (i := 8) rfl (by kernel_rfl) (by kernel_rfl) (by kernel_rfl) (fun c b w h => hp _ _ c b w h) (yl8 (xb2 := w.heap.size) (by simp [wp0, wp1, wp2, wp3, wp4, wp5, wp6, wp7, wp8, wp9, wp10, wp11, wp12, wp13, wp14, eval_put, put_size, ha])) ?_
    change wpAny _ _ _ _ _ _ (wp8 w.heap.size (wp7 w.heap.size (wp14 xd2 (wp13 xd2 (wp12 xd (wp6 xb (wp3 (wp2 (wp1 (wp0 a)))))))))) _
    rw [ws7_14, ws7_13, ws7_12, ws8_14, ws8_13, ws8_12]
    exact st0202 Q w0 a ha hp hQ (w.alloc (.cells #[.slice (some ⟨xb, 0, none⟩) 1001 1001] 32)) xb w.heap.size xd xd2 (hb.alloc hb.size _) (li_one fb) (fd2.on (alloc_below w (.cells #[.slice (some ⟨xb, 0, none⟩) 1001 1001] 32)) (Nat.le_refl _))
  · refine stp9 (hK _ _ ?_)
    change wpAny _ _ _ _ _ _ (wp9 w.heap.size (wp14 xd2 (wp13 xd2 (wp12 xd (wp6 xb (wp3 (wp2 (wp1 (wp0 a))))))))) _
    rw [ws9_14, ws9_13, ws9_12]
    exact st0112 Q w0 a ha hp hQ (w.alloc (.cells #[.int .i64 (-1)] 3)) xb w.heap.size xd xd2 (hb.alloc hb.size _) (fb.on (alloc_below w (.cells #[.int .i64 (-1)] 3)) (Nat.le_refl _)) (int_one w (-1)) (fd2.on (alloc_below w (.cells #[.int .i64 (-1)] 3)) (Nat.le_refl _))
theorem st0120 (w : World) (xb xc xc2 : Nat) (hb : Below w0.heap.size w0 w) (fb : IntSl w (.slice (some ⟨xb, 0, none⟩) 1001 1001) (List.replicate 1001 0)) (fc2 : LiSl w (.slice (some ⟨xc2, 0, none⟩) 2 2) [[], [-1]]) :
    wpAny Try.prog .any wrOps Q 9 #[true, true, true, true, false, false, true, false, false, true, true, true, false, false, false, false, false] (wp11 xc2 (wp10 xc2 (wp9 xc (wp6 xb (wp3 (wp2 (wp1 (wp0 a)))))))) w := by
  refine wpAny_ready (rs := [4, 7, 12]) (by kernel_rfl) (by simp) (AllReady.cons rfl (fun K hK => ?_) (AllReady.cons rfl (fun K hK => ?_) (AllReady.cons rfl (fun K hK => ?_) AllReady.nil)))
  · refine stp4 (hK _ _ ?_)
    refine wpAny_take (i := 5) rfl (by kernel_rfl) (by kernel_rfl) (by kernel_rfl) (fun c b w h => hp _ _ c b w h) (yl5 (xa := w.heap.size) (by simp [wp0, wp1, wp2, wp3, wp4, wp5, wp6, wp7, wp8, wp9, wp10, wp11, wp12, wp13, wp14, eval_put, put_size, ha])) ?_
    change wpAny _ _ _ _ _ _ (wp5 w.heap.size (wp4 w.heap.size (wp11 xc2 (wp10 xc2 (wp9 xc (wp6 xb (wp3 (wp2 (wp1 (wp0 a)))))))))) _
    rw [ws4_11, ws4_10, ws4_9, ws4_6, ws5_11, ws5_10, ws5_9, ws5_6]
    exact st1120 Q w0 a ha hp hQ (w.alloc (.cells zc17 32)) w.heap.size xb xc xc2 (hb.alloc hb.size _) (li_zeros17 w) (fb.on (alloc_below w (.cells zc17 32)) (Nat.le_refl _)) (fc2.on (alloc_below w (.cells zc17 32)) (Nat.le_refl _))
  · refine stp7 (x := xb) (by simp [wp0, wp1, wp2, wp3, wp4, wp5, wp6, wp7, wp8, wp9, wp10, wp11, wp12, wp13, wp14, eval_put, put_size, ha]) (hK _ _ ?_)
    refine wpAny_take (i := 8) rfl (by kernel_rfl) (by kernel_rfl) (by kernel_rfl) (fun c b w h => hp _ _ c b w h) (yl8 (xb2 := w.heap.size) (by simp [wp0, wp1, wp2, wp3, wp4, wp5, wp6, wp7, wp8, wp9, wp10, wp11, wp12, wp13, wp14, eval_put, put_size, ha])) ?_
    change wpAny _ _ _ _ _ _ (wp8 w.heap.size (wp7 w.heap.size (wp11 xc2 (wp10 xc2 (wp9 xc (wp6 xb (wp3 (wp2 (wp1 (wp0 a)))))))))) _
    rw [ws7_11, ws7_10, ws7_9, ws8_11, ws8_10, ws8_9]
    exact st0220 Q w0 a ha hp hQ (w.alloc (.cells #[.slice (some ⟨xb, 0, none⟩) 1001 1001] 32)) xb w.heap.size xc xc2 (hb.alloc hb.size _) (li_one fb) (fc2.on (alloc_below w (.cells #[.slice (some ⟨xb, 0, none⟩) 1001 1001] 32)) (Nat.le_refl _))
  · refine stp12 (hK _ _ ?_)
    change wpAny _ _ _ _ _ _ (wp12 w.heap.size (wp11 xc2 (wp10 xc2 (wp9 xc (wp6 xb (wp3 (wp2 (wp1 (wp0 a))))))))) _
    exact st0121 Q w0 a ha hp hQ (w.alloc (.cells #[.int .i64 100000001] 3)) xb xc xc2 w.heap.size (hb.alloc hb.size _) (fb.on (alloc_below w (.cells #[.int .i64 100000001] 3)) (Nat.le_refl _)) (fc2.on (alloc_below w (.cells #[.int .i64 100000001] 3)) (Nat.le_refl _)) (int_one w 100000001)
theorem st0201 (w : World) (xb xb2 xd : Nat) (hb : Below w0.heap.size w0 w) (fb2 : LiSl w (.slice (some ⟨xb2, 0, none⟩) 1 1) [List.replicate 1001 0]) (fd : IntSl w (.slice (some ⟨xd, 0, none⟩) 1 1) [100000001]) :
    wpAny Try.prog .any wrOps Q 9 #[true, true, true, true, false, false, true, true, true, false, false, false, true, false, false, false, false] (wp12 xd (wp8 xb2 (wp7 xb2 (wp6 xb (wp3 (wp2 (wp1 (wp0 a)))))))) w := by
  refine wpAny_ready (rs := [4, 9, 13]) (by kernel_rfl) (by simp) (AllReady.cons rfl (fun K hK => ?_) (AllReady.cons rfl (fun K hK => ?_) (AllReady.cons rfl (fun K hK => ?_) AllReady.nil)))
  · refine stp4 (hK _ _ ?_)
    refine wpAny_take (i := 5) rfl (by kernel_rfl) (by kernel_rfl) (by kernel_rfl) (fun c b w h => hp _ _ c b w h) (yl5 (xa := w.heap.size) (by simp [wp0, wp1, wp2, wp3, wp4, wp5, wp6, wp7, wp8, wp9, wp10, wp11, wp12, wp13, wp14, eval_put, put_size, ha])) ?_
    change wpAny _ _ _ _ _ _ (wp5 w.heap.size (wp4 w.heap.size (wp12 xd (wp8 xb2 (wp7 xb2 (wp6 xb (wp3 (wp2 (wp1 (wp0 a)))))))))) _
    rw [ws4_12, ws4_8, ws4_7, ws4_6, ws5_12, ws5_8, ws5_7, ws5_6]
    exact st1201 Q w0 a ha hp hQ (w.alloc (.cells zc17 32)) w.heap.size xb xb2 xd (hb.alloc hb.size _) (li_zeros17 w) (fb2.on (alloc_below w (.cells zc17 32)) (Nat.le_refl _)) (fd.on (alloc_below w (.cells zc17 32)) (Nat.le_refl _))
  · refine stp9 (hK _ _ ?_)
    change wpAny _ _ _ _ _ _ (wp9 w.heap.size (wp12 xd (wp8 xb2 (wp7 xb2 (wp6 xb (wp3 (wp2 (wp1 (wp0 a))))))))) _
    rw [ws9_12]
    exact st0211 Q w0 a ha hp hQ (w.alloc (.cells #[.int .i64 (-1)] 3)) xb xb2 w.heap.size xd (hb.alloc hb.size _) (fb2.on (alloc_below w (.cells #[.int .i64 (-1)] 3)) (Nat.le_refl _)) (int_one w (-1)) (fd.on (alloc_below w (.cells #[.int .i64 (-1)] 3)) (Nat.le_refl _))
  · refine stp13 (x := xd) (by simp [wp0, wp1, wp2, wp3, wp4, wp5, wp6, wp7, wp8, wp9, wp10, wp11, wp12, wp13, wp14, eval_put, put_size, ha]) (hK _ _ ?_)
    refine wpAny_take (i := 14) rfl (by kernel_rfl) (by kernel_rfl) (by kernel_rfl) (fun c b w h => hp _ _ c b w h) (yl14 (xd2 := w.heap.size) (by simp [wp0, wp1, wp2, wp3, wp4, wp5, wp6, wp7, wp8, wp9, wp10, wp11, wp12, wp13, wp14, eval_put, put_size, ha])) ?_
    change wpAny _ _ _ _ _ _ (wp14 w.heap.size (wp13 w.heap.size (wp12 xd (wp8 xb2 (wp7 xb2 (wp6 xb (wp3 (wp2 (wp1 (wp0 a)))))))))) _
    exact st0202 Q w0 a ha hp hQ (w.alloc (.cells #[.slice (some ⟨xd, 0, none⟩) 1 1] 32)) xb xb2 xd w.heap.size (hb.alloc hb.size _) (fb2.on (alloc_below w (.cells #[.slice (some ⟨xd, 0, none⟩) 1 1] 32)) (Nat.le_refl _)) (li_one fd)
theorem st0210 (w : World) (xb xb2 xc : Nat) (hb : Below w0.heap.size w0 w) (fb2 : LiSl w (.slice (some ⟨xb2, 0, none⟩) 1 1) [List.replicate 1001 0]) (fc : IntSl w (.slice (some ⟨xc, 0, none⟩) 1 1) [-1]) :
    wpAny Try.prog .any wrOps Q 9 #[true, true, true, true, false, false, true, true, true, true, false, false, false, false, false, false, false] (wp9 xc (wp8 xb2 (wp7 xb2 (wp6 xb (wp3 (wp2 (wp1 (wp0 a)))))))) w := by
  refine wpAny_ready (rs := [4, 10, 12]) (by kernel_rfl) (by simp) (AllReady.cons rfl (fun K hK => ?_) (AllReady.cons rfl (fun K hK => ?_) (AllReady.cons rfl (fun K hK => ?_) AllReady.nil)))
  · refine stp4 (hK _ _ ?_)
    refine wpAny_take (i := 5) rfl (by kernel_rfl) (by kernel_rfl) (by kernel_rfl) (fun c b w h => hp _ _ c b w h) (yl5 (xa := w.heap.size) (by simp [wp0, wp1, wp2, wp3, wp4, wp5, wp6, wp7, wp8, wp9, wp10, wp11, wp12, wp13, wp14, eval_put, put_size, ha])) ?_
    change wpAny _ _ _ _ _ _ (wp5 w.heap.size (wp4 w.heap.size (wp9 xc (wp8 xb2 (wp7 xb2 (wp6 xb (wp3 (wp2 (wp1 (wp0 a)))))))))) _
    rw [ws4_9, ws4_8, ws4_7, ws4_6, ws5_9, ws5_8, ws5_7, ws5_6]
    exact st1210 Q w0 a ha hp hQ (w.alloc (.cells zc17 32)) w.heap.size xb xb2 xc (hb.alloc hb.size _) (li_zeros17 w) (fb2.on (alloc_below w (.cells zc17 32)) (Nat.le_refl _)) (fc.on (alloc_below w (.cells zc17 32)) (Nat.le_refl _))
  · refine stp10 (x := xc) (by simp [wp0, wp1, wp2, wp3, wp4, wp5, wp6, wp7, wp8, wp9, wp10, wp11, wp12, wp13, wp14, eval_put, put_size, ha]) (hK _ _ ?_)
    refine wpAny_take (i := 11) rfl (by kernel_rfl) (by kernel_rfl) (by kernel_rfl) (fun c b w h => hp _ _ c b w h) (yl11 (xc2 := w.heap.size) (by simp [wp0, wp1, wp2, wp3, wp4, wp5, wp6, wp7, wp8, wp9, wp10, wp11, wp12, wp13, wp14, eval_put, put_size, ha])) ?_
    change wpAny _ _ _ _ _ _ (wp11 w.heap.size (wp10 w.heap.size (wp9 xc (wp8 xb2 (wp7 xb2 (wp6 xb (wp3 (wp2 (wp1 (wp0 a)))))))))) _
    exact st0220 Q w0 a ha hp hQ (w.alloc (.cells #[.slice none 0 0, .slice (some ⟨xc, 0, none⟩) 1 1] 32)) xb xb2 xc w.heap.size (hb.alloc hb.size _) (fb2.on (alloc_below w (.cells #[.slice none 0 0, .slice (some ⟨xc, 0, none⟩) 1 1] 32)) (Nat.le_refl _)) (li_two fc)
  · refine stp12 (hK _ _ ?_)
    change wpAny _ _ _ _ _ _ (wp12 w.heap.size (wp9 xc (wp8 xb2 (wp7 xb2 (wp6 xb (wp3 (wp2 (wp1 (wp0 a))))))))) _
    exact st0211 Q w0 a ha hp hQ (w.alloc (.cells #[.int .i64 100000001] 3)) xb xb2 xc w.heap.size (hb.alloc hb.size _) (fb2.on (alloc_below w (.cells #[.int .i64 100000001] 3)) (Nat.le_refl _)) (fc.on (alloc_below w (.cells #[.int .i64 100000001] 3)) (Nat.le_refl _)) (int_one w 100000001)
theorem st1011 (w : World) (xa xc xd : Nat) (hb : Below w0.heap.size w0 w) (fa : LiSl w (.slice (some ⟨xa, 0, none⟩) 17 17) (List.replicate 17 [])) (fc : IntSl w (.slice (some ⟨xc, 0, none⟩) 1 1) [-1]) (fd : IntSl w (.slice (some ⟨xd, 0, none⟩) 1 1) [100000001]) :
    wpAny Try.prog .any wrOps Q 9 #[true, true, true, true, true, true, false, false, false, true, false, false, true, false, false, false, false] (wp12 xd (wp9 xc (wp5 xa (wp4 xa (wp3 (wp2 (wp1 (wp0 a)))))))) w := by
  refine wpAny_ready (rs := [6, 10, 13]) (by kernel_rfl) (by simp) (AllReady.cons rfl (fun K hK => ?_) (AllReady.cons rfl (fun K hK => ?_) (AllReady.cons rfl (fun K hK => ?_) AllReady.nil)))
  · refine stp6 (hK _ _ ?_)
    change wpAny _ _ _ _ _ _ (wp6 w.heap.size (wp12 xd (wp9 xc (wp5 xa (wp4 xa (wp3 (wp2 (wp1 (wp0 a))))))))) _
    rw [ws6_12, ws6_9]
    exact st1111 Q w0 a ha hp hQ (w.alloc (.cells zc1001 3)) xa w.heap.size xc xd (hb.alloc hb.size _) (fa.on (alloc_below w (.cells zc1001 3)) (Nat.le_refl _)) (int_zeros w) (fc.on (alloc_below w (.cells zc1001 3)) (Nat.le_refl _)) (fd.on (alloc_below w (.cells zc1001 3)) (Nat.le_refl _))
  · refine stp10 (x := xc) (by simp [wp0, wp1, wp2, wp3, wp4, wp5, wp6, wp7, wp8, wp9, wp10, wp11, wp12, wp13, wp14, eval_put, put_size, ha]) (hK _ _ ?_)
    refine wpAny_take (i := 11) rfl (by kernel_rfl) (by kernel_rfl) (by kernel_rfl) (fun c b w h => hp _ _ c b w h) (yl11 (xc2 := w.heap.size) (by simp [wp0, wp1, wp2, wp3, wp4, wp5, wp6, wp7, wp8, wp9, wp10, wp11, wp12, wp13, wp14, eval_put, put_size, ha])) ?_
    change wpAny _ _ _ _ _ _ (wp11 w.heap.size (wp10 w.heap.size (wp12 xd (wp9 xc (wp5 xa (wp4 xa (wp3 (wp2 (wp1 (wp0 a)))))))))) _
    rw [ws10_12, ws11_12]
    exact st1021 Q w0 a ha hp hQ (w.alloc (.cells #[.slice none 0 0, .slice (some ⟨xc, 0, none⟩) 1 1] 32)) xa xc w.heap.size xd (hb.alloc hb.size _) (fa.on (alloc_below w (.cells #[.slice none 0 0, .slice (some ⟨xc, 0, none⟩) 1 1] 32)) (Nat.le_refl _)) (li_two fc) (fd.on (alloc_below w (.cells #[.slice none 0 0, .slice (some ⟨xc, 0, none⟩) 1 1] 32)) (Nat.le_refl _))
  · refine stp13 (x := xd) (by simp [wp0, wp1, wp2, wp3, wp4, wp5, wp6, wp7, wp8, wp9, wp10, wp11, wp12, wp13, wp14, eval_put, put_size, ha]) (hK _ _ ?_)
    refine wpAny_take (i := 14) rfl (by kernel_rfl) (by kernel_rfl) (by kernel_rfl) (fun c b w h => hp _ _ c b w h) (yl14 (xd2 := w.heap.size) (by simp [wp0, wp1, wp2, wp3, wp4, wp5, wp6, wp7, wp8, wp9, wp10, wp11, wp12, wp13, wp14, eval_put, put_size, ha])) ?_
    change wpAny _ _ _ _ _ _ (wp14 w.heap.size (wp13 w.heap.size (wp12 xd (wp9 xc (wp5 xa (wp4 xa (wp3 (wp2 (wp1 (wp0 a)))))))))) _
    exact st1012 Q w0 a ha hp hQ (w.alloc (.cells #[.slice (some ⟨xd, 0, none⟩) 1 1] 32)) xa xc xd w.heap.size (hb.alloc hb.size _) (fa.on (alloc_below w (.cells #[.slice (some ⟨xd, 0, none⟩) 1 1] 32)) (Nat.le_refl _)) (fc.on (alloc_below w (.cells #[.slice (some ⟨xd, 0, none⟩) 1 1] 32)) (Nat.le_refl _)) (li_one fd)
theorem st1101 (w : World) (xa xb xd : Nat) (hb : Below w0.heap.size w0 w) (fa : LiSl w (.slice (some ⟨xa, 0, none⟩) 17 17) (List.replicate 17 [])) (fb : IntSl w (.slice (some ⟨xb, 0, none⟩) 1001 1001) (List.replicate 1001 0)) (fd : IntSl w (.slice (some ⟨xd, 0, none⟩) 1 1) [100000001]) :
    wpAny Try.prog .any wrOps Q 9 #[true, true, true, true, true, true, true, false, false, false, false, false, true, false, false, false, false] (wp12 xd (wp6 xb (wp5 xa (wp4 xa (wp3 (wp2 (wp1 (wp0 a)))))))) w := by
  refine wpAny_ready (rs := [7, 9, 13]) (by kernel_rfl) (by simp) (AllReady.cons rfl (fun K hK => ?_) (AllReady.cons rfl (fun K hK => ?_) (AllReady.cons rfl (fun K hK => ?_) AllReady.nil)))
  · refine stp7 (x := xb) (by simp [wp0, wp1, wp2, wp3, wp4, wp5, wp6, wp7, wp8, wp9, wp10, wp11, wp12, wp13, wp14, eval_put, put_size, ha]) (hK _ _ ?_)
    refine wpAny_take (i := 8) rfl (by kernel_rfl) (by kernel_rfl) (by kernel_rfl) (fun c b w h => hp _ _ c b w h) (yl8 (xb2 := w.heap.size) (by simp [wp0, wp1, wp2, wp3, wp4, wp5, wp6, wp7, wp8, wp9, wp10, wp11, wp12, wp13, wp14, eval_put, put_size, ha])) ?_
    change wpAny _ _ _ _ _ _ (wp8 w.heap.size (wp7 w.heap.size (wp12 xd (wp6 xb (wp5 xa (wp4 xa (wp3 (wp2 (wp1 (wp0 a)))))))))) _
    rw [ws7_12, ws8_12]
    exact st1201 Q w0 a ha hp hQ (w.alloc (.cells #[.slice (some ⟨xb, 0, none⟩) 1001 1001] 32)) xa xb w.heap.size xd (hb.alloc hb.size _) (fa.on (alloc_below w (.cells #[.slice (some ⟨xb, 0, none⟩) 1001 1001] 32)) (Nat.le_refl _)) (li_one fb) (fd.on (alloc_below w (.cells #[.slice (some ⟨xb, 0, none⟩) 1001 1001] 32)) (Nat.le_refl _))
  · refine stp9 (hK _ _ ?_)
    change wpAny _ _ _ _ _ _ (wp9 w.heap.size (wp12 xd (wp6 xb (wp5 xa (wp4 xa (wp3 (wp2 (wp1 (wp0 a))))))))) _
    rw [ws9_12]
    exact st1111 Q w0 a ha hp hQ (w.alloc (.cells #[.int .i64 (-1)] 3)) xa xb w.heap.size xd (hb.alloc hb.size _) (fa.on (alloc_below w (.cells #[.int .i64 (-1)] 3)) (Nat.le_refl _)) (fb.on (alloc_below w (.cells #[.int .i64 (-1)] 3)) (Nat.le_refl _)) (int_one w (-1)) (fd.on (alloc_below w (.cells #[.int .i64 (-1)] 3)) (Nat.le_refl _))
  · refine stp13 (x := xd) (by simp [wp0, wp1, wp2, wp3, wp4, wp5, wp6, wp7, wp8, wp9, wp10, wp11, wp12, wp13, wp14, eval_put, put_size, ha]) (hK _ _ ?_)
    refine wpAny_take (i := 14) rfl (by kernel_rfl) (by kernel_rfl) (by kernel_rfl) (fun c b w h => hp _ _ c b w h) (yl14 (xd2 := w.heap.size) (by simp [wp0, wp1, wp2, wp3, wp4, wp5, wp6, wp7, wp8, wp9, wp10, wp11, wp12, wp13, wp14, eval_put, put_size, ha])) ?_
    change wpAny _ _ _ _ _ _ (wp14 w.heap.size (wp13 w.heap.size (wp12 xd (wp6 xb (wp5 xa (wp4 xa (wp3 (wp2 (wp1 (wp0 a)))))))))) _
    exact st1102 Q w0 a ha hp hQ (w.alloc (.cells #[.slice (some ⟨xd, 0, none⟩) 1 1] 32)) xa xb xd w.heap.size (hb.alloc hb.size _) (fa.on (alloc_below w (.cells #[.slice (some ⟨xd, 0, none⟩) 1 1] 32)) (Nat.le_refl _)) (fb.on (alloc_below w (.cells #[.slice (some ⟨xd, 0, none⟩) 1 1] 32)) (Nat.le_refl _)) (li_one fd)
theorem st1110 (w : World) (xa xb xc : Nat) (hb : Below w0.heap.size w0 w) (fa : LiSl w (.slice (some ⟨xa, 0, none⟩) 17 17) (List.replicate 17 [])) (fb : IntSl w (.slice (some ⟨xb, 0, none⟩) 1001 1001) (List.replicate 1001 0)) (fc : IntSl w (.slice (some ⟨xc, 0, none⟩) 1 1) [-1]) :
    wpAny Try.prog .any wrOps Q 9 #[true, true, true, true, true, true, true, false, false, true, false, false, false, false, false, false, false] (wp9 xc (wp6 xb (wp5 xa (wp4 xa (wp3 (wp2 (wp1 (wp0 a)))))))) w := by
  refine wpAny_ready (rs := [7, 10, 12]) (by kernel_rfl) (by simp) (AllReady.cons rfl (fun K hK => ?_) (AllReady.cons rfl (fun K hK => ?_) (AllReady.cons rfl (fun K hK => ?_) AllReady.nil)))
  · refine stp7 (x := xb) (by simp [wp0, wp1, wp2, wp3, wp4, wp5, wp6, wp7, wp8, wp9, wp10, wp11, wp12, wp13, wp14, eval_put, put_size, ha]) (hK _ _ ?_)
    refine wpAny_take (i := 8) rfl (by kernel_rfl) (by kernel_rfl) (by kernel_rfl) (fun c b w h => hp _ _ c b w h) (yl8 (xb2 := w.heap.size) (by simp [wp0, wp1, wp2, wp3, wp4, wp5, wp6, wp7, wp8, wp9, wp10, wp11, wp12, wp13, wp14, eval_put, put_size, ha])) ?_
    change wpAny _ _ _ _ _ _ (wp8 w.heap.size (wp7 w.heap.size (wp9 xc (wp6 xb (wp5 xa (wp4 xa (wp3 (wp2 (wp1 (wp0 a)))))))))) _
    rw [ws7_9, ws8_9]
    exact st1210 Q w0 a ha hp hQ (w.alloc (.cells #[.slice (some ⟨xb, 0, none⟩) 1001 1001] 32)) xa xb w.heap.size xc (hb.alloc hb.size _) (fa.on (alloc_below w (.cells #[.slice (some ⟨xb, 0, none⟩) 1001 1001] 32)) (Nat.le_refl _)) (li_one fb) (fc.on (alloc_below w (.cells #[.slice (some ⟨xb, 0, none⟩) 1001 1001] 32)) (Nat.le_refl _))
  · refine stp10 (x := xc) (by simp [wp0, wp1, wp2, wp3, wp4, wp5, wp6, wp7, wp8, wp9, wp10, wp11, wp12, wp13, wp14, eval_put, put_size, ha]) (hK _ _ ?_)
    refine wpAny_take (i := 11) rfl (by kernel_rfl) (by kernel_rfl) (by kernel_rfl) (fun c b w h => hp _ _ c b w h) (yl11 (xc2 := w.heap.size) (by simp [wp0, wp1, wp2, wp3, wp4, wp5, wp6, wp7, wp8, wp9, wp10, wp11, wp12, wp13, wp14, eval_put, put_size, ha])) ?_
    change wpAny _ _ _ _ _ _ (wp11 w.heap.size (wp10 w.heap.size (wp9 xc (wp6 xb (wp5 xa (wp4 xa (wp3 (wp2 (wp1 (wp0 a)))))))))) _
    exact st1120 Q w0 a ha hp hQ (w.alloc (.cells #[.slice none 0 0, .slice (some ⟨xc, 0, none⟩) 1 1] 32)) xa xb xc w.heap.size (hb.alloc hb.size _) (fa.on (alloc_below w (.cells #[.slice none 0 0, .slice (some ⟨xc, 0, none⟩) 1 1] 32)) (Nat.le_refl _)) (fb.on (alloc_below w (.cells #[.slice none 0 0, .slice (some ⟨xc, 0, none⟩) 1 1] 32)) (Nat.le_refl _)) (li_two fc)
  · refine stp12 (hK _ _ ?_)
    change wpAny _ _ _ _ _ _ (wp12 w.heap.size (wp9 xc (wp6 xb (wp5 xa (wp4 xa (wp3 (wp2 (wp1 (wp0 a))))))))) _
    exact st1111 Q w0 a ha hp hQ (w.alloc (.cells #[.int .i64 100000001] 3)) xa xb xc w.heap.size (hb.alloc hb.size _) (fa.on (alloc_below w (.cells #[.int .i64 100000001] 3)) (Nat.le_refl _)) (fb.on (alloc_below w (.cells #[.int .i64 100000001] 3)) (Nat.le_refl _)) (fc.on (alloc_below w (.cells #[.int .i64 100000001] 3)) (Nat.le_refl _)) (int_one w 100000001)
theorem st0002 (w : World) (xd xd2 : Nat) (hb : Below w0.heap.size w0 w) (fd2 : LiSl w (.slice (some ⟨xd2, 0, none⟩) 1 1) [[100000001]]) :
    wpAny Try.prog .any wrOps Q 10 #[true, true, true, true, false, false, false, false, false, false, false, false, true, true, true, false, false] (wp14 xd2 (wp13 xd2 (wp12 xd (wp3 (wp2 (wp1 (wp0 a))))))) w := by
  refine wpAny_ready (rs := [4, 6, 9]) (by kernel_rfl) (by simp) (AllReady.cons rfl (fun K hK => ?_) (AllReady.cons rfl (fun K hK => ?_) (AllReady.cons rfl (fun K hK => ?_) AllReady.nil)))
  · refine stp4 (hK _ _ ?_)
    refine wpAny_take (i := 5) rfl (by kernel_rfl) (by kernel_rfl) (by kernel_rfl) (fun c b w h => hp _ _ c b w h) (yl5 (xa := w.heap.size) (by simp [wp0, wp1, wp2, wp3, wp4, wp5, wp6, wp7, wp8, wp9, wp10, wp11, wp12, wp13, wp14, eval_put, put_size, ha])) ?_
    change wpAny _ _ _ _ _ _ (wp5 w.heap.size (wp4 w.heap.size (wp14 xd2 (wp13 xd2 (wp12 xd (wp3 (wp2 (wp1 (wp0 a))))))))) _
    rw [ws4_14, ws4_13, ws4_12, ws5_14, ws5_13, ws5_12]
    exact st1002 Q w0 a ha hp hQ (w.alloc (.cells zc17 32)) w.heap.size xd xd2 (hb.alloc hb.size _) (li_zeros17 w) (fd2.on (alloc_below w (.cells zc17 32)) (Nat.le_refl _))
  · refine stp6 (hK _ _ ?_)
    change wpAny _ _ _ _ _ _ (wp6 w.heap.size (wp14 xd2 (wp13 xd2 (wp12 xd (wp3 (wp2 (wp1 (wp0 a)))))))) _
    rw [ws6_14, ws6_13, ws6_12]
    exact st0102 Q w0 a ha hp hQ (w.alloc (.cells zc1001 3)) w.heap.size xd xd2 (hb.alloc hb.size _) (int_zeros w) (fd2.on (alloc_below w (.cells zc1001 3)) (Nat.le_refl _))
  · refine stp9 (hK _ _ ?_)
    change wpAny _ _ _ _ _ _ (wp9 w.heap.size (wp14 xd2 (wp13 xd2 (wp12 xd (wp3 (wp2 (wp1 (wp0 a)))))))) _
    rw [ws9_14, ws9_13, ws9_12]
    exact st0012 Q w0 a ha hp hQ (w.alloc (.cells #[.int .i64 (-1)] 3)) w.heap.size xd xd2 (hb.alloc hb.size _) (int_one w (-1)) (fd2.on (alloc_below w (.cells #[.int .i64 (-1)] 3)) (Nat.le_refl _))
theorem st0020 (w : World) (xc xc2 : Nat) (hb : Below w0.heap.size w0 w) (fc2 : LiSl w (.slice (some ⟨xc2, 0, none⟩) 2 2) [[], [-1]]) :
    wpAny Try.prog .any wrOps Q 10 #[true, true, true, true, false, false, false, false, false, true, true, true, false, false, false, false, false] (wp11 xc2 (wp10 xc2 (wp9 xc (wp3 (wp2 (wp1 (wp0 a))))))) w := by
  refine wpAny_ready (rs := [4, 6, 12]) (by kernel_rfl) (by simp) (AllReady.cons rfl (fun K hK => ?_) (AllReady.cons rfl (fun K hK => ?_) (AllReady.cons rfl (fun K hK => ?_) AllReady.nil)))
  · refine stp4 (hK _ _ ?_)
    refine wpAny_take (i := 5) rfl (by kernel_rfl) (by kernel_rfl) (by kernel_rfl) (fun c b w h => hp _ _ c b w h) (yl5 (xa := w.heap.size) (by simp [wp0, wp1, wp2, wp3, wp4, wp5, wp6, wp7, wp8, wp9, wp10, wp11, wp12, wp13, wp14, eval_put, put_size, ha])) ?_
    change wpAny _ _ _ _ _ _ (wp5 w.heap.size (wp4 w.heap.size (wp11 xc2 (wp10 xc2 (wp9 xc (wp3 (wp2 (wp1 (wp0 a))))))))) _
    rw [ws4_11, ws4_10, ws4_9, ws5_11, ws5_10, ws5_9]
    exact st1020 Q w0 a ha hp hQ (w.alloc (.cells zc17 32)) w.heap.size xc xc2 (hb.alloc hb.size _) (li_zeros17 w) (fc2.on (alloc_below w (.cells zc17 32)) (Nat.le_refl _))
  · refine stp6 (hK _ _ ?_)
    change wpAny _ _ _ _ _ _ (wp6 w.heap.size (wp11 xc2 (wp10 xc2 (wp9 xc (wp3 (wp2 (wp1 (wp0 a)))))))) _
    rw [ws6_11, ws6_10, ws6_9]
    exact st0120 Q w0 a ha hp hQ (w.alloc (.cells zc1001 3)) w.heap.size xc xc2 (hb.alloc hb.size _) (int_zeros w) (fc2.on (alloc_below w (.cells zc1001 3)) (Nat.le_refl _))
  · refine stp12 (hK _ _ ?_)
    change wpAny _ _ _ _ _ _ (wp12 w.heap.size (wp11 xc2 (wp10 xc2 (wp9 xc (wp3 (wp2 (wp1 (wp0 a)))))))) _
    exact st0021 Q w0 a ha hp hQ (w.alloc (.cells #[.int .i64 100000001] 3)) xc xc2 w.heap.size (hb.alloc hb.size _) (fc2.on (alloc_below w (.cells #[.int .i64 100000001] 3)) (Nat.le_refl _)) (int_one w 100000001)
theorem st0111 (w : World) (xb xc xd : Nat) (hb : Below w0.heap.size w0 w) (fb : IntSl w (.slice (some ⟨xb, 0, none⟩) 1001 1001) (List.replicate 1001 0)) (fc : IntSl w (.slice (some ⟨xc, 0, none⟩) 1 1) [-1]) (fd : IntSl w (.slice (some ⟨xd, 0, none⟩) 1 1) [100000001]) :
    wpAny Try.prog .any wrOps Q 10 #[true, true, true, true, false, false, true, false, false, true, false, false, true, false, false, false, false] (wp12 xd (wp9 xc (wp6 xb (wp3 (wp2 (wp1 (wp0 a))))))) w := by
  refine wpAny_ready (rs := [4, 7, 10, 13]) (by kernel_rfl) (by simp) (AllReady.cons rfl (fun K hK => ?_) (AllReady.cons rfl (fun K hK => ?_) (AllReady.cons rfl (fun K hK => ?_) (AllReady.cons rfl (fun K hK => ?_) AllReady.nil))))
  · refine stp4 (hK _ _ ?_)
    refine wpAny_take (i := 5) rfl (by kernel_rfl) (by kernel_rfl) (by kernel_rfl) (fun c b w h => hp _ _ c b w h) (yl5 (xa := w.heap.size) (by simp [wp0, wp1, wp2, wp3, wp4, wp5, wp6, wp7, wp8, wp9, wp10, wp11, wp12, wp13, wp14, eval_put, put_size, ha])) ?_
    change wpAny _ _ _ _ _ _ (wp5 w.heap.size (wp4 w.heap.size (wp12 xd (wp9 xc (wp6 xb (wp3 (wp2 (wp1 (wp0 a))))))))) _
    rw [ws4_12, ws4_9, ws4_6, ws5_12, ws5_9, ws5_6]
    exact st1111 Q w0 a ha hp hQ (w.alloc (.cells zc17 32)) w.heap.size xb xc xd (hb.alloc hb.size _) (li_zeros17 w) (fb.on (alloc_below w (.cells zc17 32)) (Nat.le_refl _)) (fc.on (alloc_below w (.cells zc17 32)) (Nat.le_refl _)) (fd.on (alloc_below w (.cells zc17 32)) (Nat.le_refl _))
  · refine stp7 (x := xb) (by simp [wp0, wp1, wp2, wp3, wp4, wp5, wp6, wp7, wp8, wp9, wp10, wp11, wp12, wp13, wp14, eval_put, put_size, ha]) (hK _ _ ?_)
    refine wpAny_take (i := 8) rfl (by kernel_rfl) (by kernel_rfl) (by kernel_rfl) (fun c b w h => hp _ _ c b w h) (yl8 (xb2 := w.heap.size) (by simp [wp0, wp1, wp2, wp3, wp4, wp5, wp6, wp7, wp8, wp9, wp10, wp11, wp12, wp13, wp14, eval_put, put_size, ha])) ?_
    change wpAny _ _ _ _ _ _ (wp8 w.heap.size (wp7 w.heap.size (wp12 xd (wp9 xc (wp6 xb (wp3 (wp2 (wp1 (wp0 a))))))))) _
    rw [ws7_12, ws7_9, ws8_12, ws8_9]
    exact st0211 Q w0 a ha hp hQ (w.alloc (.cells #[.slice (some ⟨xb, 0, none⟩) 1001 1001] 32)) xb w.heap.size xc xd (hb.alloc hb.size _) (li_one fb) (fc.on (alloc_below w (.cells #[.slice (some ⟨xb, 0, none⟩) 1001 1001] 32)) (Nat.le_refl _)) (fd.on (alloc_below w (.cells #[.slice (some ⟨xb, 0, none⟩) 1001 1001] 32)) (Nat.le_refl _))
  · refine stp10 (x := xc) (by simp [wp0, wp1, wp2, wp3, wp4, wp5, wp6, wp7, wp8, wp9, wp10, wp11, wp12, wp13, wp14, eval_put, put_size, ha]) (hK _ _ ?_)
    refine wpAny_take (i := 11) rfl (by kernel_rfl) (by kernel_rfl) (by kernel_rfl) (fun c b w h => hp _ _ c b w h) (yl11 (xc2 := w.heap.size) (by simp [wp0, wp1, wp2, wp3, wp4, wp5, wp6, wp7, wp8, wp9, wp10, wp11, wp12, wp13, wp14, eval_put, put_size, ha])) ?_
    change wpAny _ _ _ _ _ _ (wp11 w.heap.size (wp10 w.heap.size (wp12 xd (wp9 xc (wp6 xb (wp3 (wp2 (wp1 (wp0 a))))))))) _
    rw [ws10_12, ws11_12]
    exact st0121 Q w0 a ha hp hQ (w.alloc (.cells #[.slice none 0 0, .slice (some ⟨xc, 0, none⟩) 1 1] 32)) xb xc w.heap.size xd (hb.alloc hb.size _) (fb.on (alloc_below w (.cells #[.slice none 0 0, .slice (some ⟨xc, 0, none⟩) 1 1] 32)) (Nat.le_refl _)) (li_two fc) (fd.on (alloc_below w (.cells #[.slice none 0 0, .slice (some ⟨xc, 0, none⟩) 1 1] 32)) (Nat.le_refl _))
  · refine stp13 (x := xd) (by simp [wp0, wp1, wp2, wp3, wp4, wp5, wp6, wp7, wp8, wp9, wp10, wp11, wp12, wp13, wp14, eval_put, put_size, ha]) (hK _ _ ?_)
    refine wpAny_take (i := 14) rfl (by kernel_rfl) (by kernel_rfl) (by kernel_rfl) (fun c b w h => hp _ _ c b w h) (yl14 (xd2 := w.heap.size) (by simp [wp0, wp1, wp2, wp3, wp4, wp5, wp6, wp7, wp8, wp9, wp10, wp11, wp12, wp13, wp14, eval_put, put_size, ha])) ?_
    change wpAny _ _ _ _ _ _ (wp14 w.heap.size (wp13 w.heap.size (wp12 xd (wp9 xc (wp6 xb (wp3 (wp2 (wp1 (wp0 a))))))))) _
    exact st0112 Q w0 a ha hp hQ (w.alloc (.cells #[.slice (some ⟨xd, 0, none⟩) 1 1] 32)) xb xc xd w.heap.size (hb.alloc hb.size _) (fb.on (alloc_below w (.cells #[.slice (some ⟨xd, 0, none⟩) 1 1] 32)) (Nat.le_refl _)) (fc.on (alloc_below w (.cells #[.slice (some ⟨xd, 0, none⟩) 1 1] 32)) (Nat.le_refl _)) (li_one fd)
theorem st0200 (w : World) (xb xb2 : Nat) (hb : Below w0.heap.size w0 w) (fb2 : LiSl w (.slice (some ⟨xb2, 0, none⟩) 1 1) [List.replicate 1001 0]) :
    wpAny Try.prog .any wrOps Q 10 #[true, true, true, true, false, false, true, true, true, false, false, false, false, false, false, false, false] (wp8 xb2 (wp7 xb2 (wp6 xb (wp3 (wp2 (wp1 (wp0 a))))))) w := by
  refine wpAny_ready (rs := [4, 9, 12]) (by kernel_rfl) (by simp) (AllReady.cons rfl (fun K hK => ?_) (AllReady.cons rfl (fun K hK => ?_) (AllReady.cons rfl (fun K hK => ?_) AllReady.nil)))
  · refine stp4 (hK _ _ ?_)
    refine wpAny_take (i := 5) rfl (by kernel_rfl) (by kernel_rfl) (by kernel_rfl) (fun c b w h => hp _ _ c b w h) (yl5 (xa := w.heap.size) (by simp [wp0, wp1, wp2, wp3, wp4, wp5, wp6, wp7, wp8, wp9, wp10, wp11, wp12, wp13, wp14, eval_put, put_size, ha])) ?_
    change wpAny _ _ _ _ _ _ (wp5 w.heap.size (wp4 w.heap.size (wp8 xb2 (wp7 xb2 (wp6 xb (wp3 (wp2 (wp1 (wp0 a))))))))) _
    rw [ws4_8, ws4_7, ws4_6, ws5_8, ws5_7, ws5_6]
    exact st1200 Q w0 a ha hp hQ (w.alloc (.cells zc17 32)) w.heap.size xb xb2 (hb.alloc hb.size _) (li_zeros17 w) (fb2.on (alloc_below w (.cells zc17 32)) (Nat.le_refl _))
  · refine stp9 (hK _ _ ?_)
    change wpAny _ _ _ _ _ _ (wp9 w.heap.size (wp8 xb2 (wp7 xb2 (wp6 xb (wp3 (wp2 (wp1 (wp0 a)))))))) _
    exact st0210 Q w0 a ha hp hQ (w.alloc (.cells #[.int .i64 (-1)] 3)) xb xb2 w.heap.size (hb.alloc hb.size _) (fb2.on (alloc_below w (.cells #[.int .i64 (-1)] 3)) (Nat.le_refl _)) (int_one w (-1))
  · refine stp12 (hK _ _ ?_)
    change wpAny _ _ _ _ _ _ (wp12 w.heap.size (wp8 xb2 (wp7 xb2 (wp6 xb (wp3 (wp2 (wp1 (wp0 a)))))))) _
    exact st0201 Q w0 a ha hp hQ (w.alloc (.cells #[.int .i64 100000001] 3)) xb xb2 w.heap.size (hb.alloc hb.size _) (fb2.on (alloc_below w (.cells #[.int .i64 100000001] 3)) (Nat.le_refl _)) (int_one w 100000001)
theorem st1001 (w : World) (xa xd : Nat) (hb : Below w0.heap.size w0 w) (fa : LiSl w (.slice (some ⟨xa, 0, none⟩) 17 17) (List.replicate 17 [])) (fd : IntSl w (.slice (some ⟨xd, 0, none⟩) 1 1) [100000001]) :
    wpAny Try.prog .any wrOps Q 10 #[true, true, true, true, true, true, false, false, false, false, false, false, true, false, false, false, false] (wp12 xd (wp5 xa (wp4 xa (wp3 (wp2 (wp1 (wp0 a))))))) w := by
  refine wpAny_ready (rs := [6, 9, 13]) (by kernel_rfl) (by simp) (AllReady.cons rfl (fun K hK => ?_) (AllReady.cons rfl (fun K hK => ?_) (AllReady.cons rfl (fun K hK => ?_) AllReady.nil)))
  · refine stp6 (hK _ _ ?_)
    change wpAny _ _ _ _ _ _ (wp6 w.heap.size (wp12 xd (wp5 xa (wp4 xa (wp3 (wp2 (wp1 (wp0 a)))))))) _
    rw [ws6_12]
    exact st1101 Q w0 a ha hp hQ (w.alloc (.cells zc1001 3)) xa w.heap.size xd (hb.alloc hb.size _) (fa.on (alloc_below w (.cells zc1001 3)) (Nat.le_refl _)) (int_zeros w) (fd.on (alloc_below w (.cells zc1001 3)) (Nat.le_refl _))
  · refine stp9 (hK _ _ ?_)
    change wpAny _ _ _ _ _ _ (wp9 w.heap.size (wp12 xd (wp5 xa (wp4 xa (wp3 (wp2 (wp1 (wp0 a)))))))) _
    rw [ws9_12]
    exact st1011 Q w0 a ha hp hQ (w.alloc (.cells #[.int .i64 (-1)] 3)) xa w.heap.size xd (hb.alloc hb.size _) (fa.on (alloc_below w (.cells #[.int .i64 (-1)] 3)) (Nat.le_refl _)) (int_one w (-1)) (fd.on (alloc_below w (.cells #[.int .i64 (-1)] 3)) (Nat.le_refl _))
  · refine stp13 (x := xd) (by simp [wp0, wp1, wp2, wp3, wp4, wp5, wp6, wp7, wp8, wp9, wp10, wp11, wp12, wp13, wp14, eval_put, put_size, ha]) (hK _ _ ?_)
    refine wpAny_take (i := 14) rfl (by kernel_rfl) (by kernel_rfl) (by kernel_rfl) (fun c b w h => hp _ _ c b w h) (yl14 (xd2 := w.heap.size) (by simp [wp0, wp1, wp2, wp3, wp4, wp5, wp6, wp7, wp8, wp9, wp10, wp11, wp12, wp13, wp14, eval_put, put_size, ha])) ?_
    change wpAny _ _ _ _ _ _ (wp14 w.heap.size (wp13 w.heap.size (wp12 xd (wp5 xa (wp4 xa (wp3 (wp2 (wp1 (wp0 a))))))))) _
    exact st1002 Q w0 a ha hp hQ (w.alloc (.cells #[.slice (some ⟨xd, 0, none⟩) 1 1] 32)) xa xd w.heap.size (hb.alloc hb.size _) (fa.on (alloc_below w (.cells #[.slice (some ⟨xd, 0, none⟩) 1 1] 32)) (Nat.le_refl _)) (li_one fd)
theorem st1010 (w : World) (xa xc : Nat) (hb : Below w0.heap.size w0 w) (fa : LiSl w (.slice (some ⟨xa, 0, none⟩) 17 17) (List.replicate 17 [])) (fc : IntSl w (.slice (some ⟨xc, 0, none⟩) 1 1) [-1]) :
    wpAny Try.prog .any wrOps Q 10 #[true, true, true, true, true, true, false, false, false, true, false, false, false, false, false, false, false] (wp9 xc (wp5 xa (wp4 xa (wp3 (wp2 (wp1 (wp0 a))))))) w := by
  refine wpAny_ready (rs := [6, 10, 12]) (by kernel_rfl) (by simp) (AllReady.cons rfl (fun K hK => ?_) (AllReady.cons rfl (fun K hK => ?_) (AllReady.cons rfl (fun K hK => ?_) AllReady.nil)))
  · refine stp6 (hK _ _ ?_)
    change wpAny _ _ _ _ _ _ (wp6 w.heap.size (wp9 xc (wp5 xa (wp4 xa (wp3 (wp2 (wp1 (wp0 a)))))))) _
    rw [ws6_9]
    exact st1110 Q w0 a ha hp hQ (w.alloc (.cells zc1001 3)) xa w.heap.size xc (hb.alloc hb.size _) (fa.on (alloc_below w (.cells zc1001 3)) (Nat.le_refl _)) (int_zeros w) (fc.on (alloc_below w (.cells zc1001 3)) (Nat.le_refl _))
  · refine stp10 (x := xc) (by simp [wp0, wp1, wp2, wp3, wp4, wp5, wp6, wp7, wp8, wp9, wp10, wp11, wp12, wp13, wp14, eval_put, put_size, ha]) (hK _ _ ?_)
    refine wpAny_take (i := 11) rfl (by kernel_rfl) (by kernel_rfl) (by kernel_rfl) (fun c b w h => hp _ _ c b w h) (yl11 (xc2 := w.heap.size) (by simp [wp0, wp1, wp2, wp3, wp4, wp5, wp6, wp7, wp8, wp9, wp10, wp11, wp12, wp13, wp14, eval_put, put_size, ha])) ?_
    change wpAny _ _ _ _ _ _ (wp11 w.heap.size (wp10 w.heap.size (wp9 xc (wp5 xa (wp4 xa (wp3 (wp2 (wp1 (wp0 a))))))))) _
    exact st1020 Q w0 a ha hp hQ (w.alloc (.cells #[.slice none 0 0, .slice (some ⟨xc, 0, none⟩) 1 1] 32)) xa xc w.heap.size (hb.alloc hb.size _) (fa.on (alloc_below w (.cells #[.slice none 0 0, .slice (some ⟨xc, 0, none⟩) 1 1] 32)) (Nat.le_refl _)) (li_two fc)
  · refine stp12 (hK _ _ ?_)
    change wpAny _ _ _ _ _ _ (wp12 w.heap.size (wp9 xc (wp5 xa (wp4 xa (wp3 (wp2 (wp1 (wp0 a)))))))) _
    exact st1011 Q w0 a ha hp hQ (w.alloc (.cells #[.int .i64 100000001] 3)) xa xc w.heap.size (hb.alloc hb.size _) (fa.on (alloc_below w (.cells #[.int .i64 100000001] 3)) (Nat.le_refl _)) (fc.on (alloc_below w (.cells #[.int .i64 100000001] 3)) (Nat.le_refl _)) (int_one w 100000001)
theorem st1100 (w : World) (xa xb : Nat) (hb : Below w0.heap.size w0 w) (fa : LiSl w (.slice (some ⟨xa, 0, none⟩) 17 17) (List.replicate 17 [])) (fb : IntSl w (.slice (some ⟨xb, 0, none⟩) 1001 1001) (List.replicate 1001 0)) :
    wpAny Try.prog .any wrOps Q 10 #[true, true, true, true, true, true, true, false, false, false, false, false, false, false, false, false, false] (wp6 xb (wp5 xa (wp4 xa (wp3 (wp2 (wp1 (wp0 a))))))) w := by
  refine wpAny_ready (rs := [7, 9, 12]) (by kernel_rfl) (by simp) (AllReady.cons rfl (fun K hK => ?_) (AllReady.cons rfl (fun K hK => ?_) (AllReady.cons rfl (fun K hK => ?_) AllReady.nil)))
  · refine stp7 (x := xb) (by simp [wp0, wp1, wp2, wp3, wp4, wp5, wp6, wp7, wp8, wp9, wp10, wp11, wp12, wp13, wp14, eval_put, put_size, ha]) (hK _ _ ?_)
    refine wpAny_take (i := 8) rfl (by kernel_rfl) (by kernel_rfl) (by kernel_rfl) (fun c b w h => hp _ _ c b w h) (yl8 (xb2 := w.heap.size) (by simp [wp0, wp1, wp2, wp3, wp4, wp5, wp6, wp7, wp8, wp9, wp10, wp11, wp12, wp13, wp14, eval_put, put_size, ha])) ?_
    change wpAny _ _ _ _ _ _ (wp8 w.heap.size (wp7 w.heap.size (wp6 xb (wp5 xa (wp4 xa (wp3 (wp2 (wp1 (wp0 a))))))))) _
    exact st1200 Q w0 a ha hp hQ (w.alloc (.cells #[.slice (some ⟨xb, 0, none⟩) 1001 1001] 32)) xa xb w.heap.size (hb.alloc hb.size _) (fa.on (alloc_below w (.cells #[.slice (some ⟨xb, 0, none⟩) 1001 1001] 32)) (Nat.le_refl _)) (li_one fb)
  · refine stp9 (hK _ _ ?_)
    change wpAny _ _ _ _ _ _ (wp9 w.heap.size (wp6 xb (wp5 xa (wp4 xa (wp3 (wp2 (wp1 (wp0 a)))))))) _
    exact st1110 Q w0 a ha hp hQ (w.alloc (.cells #[.int .i64 (-1)] 3)) xa xb w.heap.size (hb.alloc hb.size _) (fa.on (alloc_below w (.cells #[.int .i64 (-1)] 3)) (Nat.le_refl _)) (fb.on (alloc_below w (.cells #[.int .i64 (-1)] 3)) (Nat.le_refl _)) (int_one w (-1))
  · refine stp12 (hK _ _ ?_)
    change wpAny _ _ _ _ _ _ (wp12 w.heap.size (wp6 xb (wp5 xa (wp4 xa (wp3 (wp2 (wp1 (wp0 a)))))))) _
    exact st1101 Q w0 a ha hp hQ (w.alloc (.cells #[.int .i64 100000001] 3)) xa xb w.heap.size (hb.alloc hb.size _) (fa.on (alloc_below w (.cells #[.int .i64 100000001] 3)) (Nat.le_refl _)) (fb.on (alloc_below w (.cells #[.int .i64 100000001] 3)) (Nat.le_refl _)) (int_one w 100000001)
theorem st0011 (w : World) (xc xd : Nat) (hb : Below w0.heap.size w0 w) (fc : IntSl w (.slice (some ⟨xc, 0, none⟩) 1 1) [-1]) (fd : IntSl w (.slice (some ⟨xd, 0, none⟩) 1 1) [100000001]) :
    wpAny Try.prog .any wrOps Q 11 #[true, true, true, true, false, false, false, false, false, true, false, false, true, false, false, false, false] (wp12 xd (wp9 xc (wp3 (wp2 (wp1 (wp0 a)))))) w := by
  refine wpAny_ready (rs := [4, 6, 10, 13]) (by kernel_rfl) (by simp) (AllReady.cons rfl (fun K hK => ?_) (AllReady.cons rfl (fun K hK => ?_) (AllReady.cons rfl (fun K hK => ?_) (AllReady.cons rfl (fun K hK => ?_) AllReady.nil))))
  · refine stp4 (hK _ _ ?_)
    refine wpAny_take (i := 5) rfl (by kernel_rfl) (by kernel_rfl) (by kernel_rfl) (fun c b w h => hp _ _ c b w h) (yl5 (xa := w.heap.size) (by simp [wp0, wp1, wp2, wp3, wp4, wp5, wp6, wp7, wp8, wp9, wp10, wp11, wp12, wp13, wp14, eval_put, put_size, ha])) ?_
    change wpAny _ _ _ _ _ _ (wp5 w.heap.size (wp4 w.heap.size (wp12 xd (wp9 xc (wp3 (wp2 (wp1 (wp0 a)))))))) _
    rw [ws4_12, ws4_9, ws5_12, ws5_9]
    exact st1011 Q w0 a ha hp hQ (w.alloc (.cells zc17 32)) w.heap.size xc xd (hb.alloc hb.size _) (li_zeros17 w) (fc.on (alloc_below w (.cells zc17 32)) (Nat.le_refl _)) (fd.on (alloc_below w (.cells zc17 32)) (Nat.le_refl _))
  · refine stp6 (hK _ _ ?_)
    change wpAny _ _ _ _ _ _ (wp6 w.heap.size (wp12 xd (wp9 xc (wp3 (wp2 (wp1 (wp0 a))))))) _
    rw [ws6_12, ws6_9]
    exact st0111 Q w0 a ha hp hQ (w.alloc (.cells zc1001 3)) w.heap.size xc xd (hb.alloc hb.size _) (int_zeros w) (fc.on (alloc_below w (.cells zc1001 3)) (Nat.le_refl _)) (fd.on (alloc_below w (.cells zc1001 3)) (Nat.le_refl _))
  · refine stp10 (x := xc) (by simp [wp0, wp1, wp2, wp3, wp4, wp5, wp6, wp7, wp8, wp9, wp10, wp11, wp12, wp13, wp14, eval_put, put_size, ha]) (hK _ _ ?_)
    refine wpAny_take (i := 11) rfl (by kernel_rfl) (by kernel_rfl) (by kernel_rfl) (fun c b w h => hp _ _ c b w h) (yl11 (xc2 := w.heap.size) (by simp [wp0, wp1, wp2, wp3, wp4, wp5, wp6, wp7, wp8, wp9, wp10, wp11, wp12, wp13, wp14, eval_put, put_size, ha])) ?_
    change wpAny _ _ _ _ _ _ (wp11 w.heap.size (wp10 w.heap.size (wp12 xd (wp9 xc (wp3 (wp2 (wp1 (wp0 a)))))))) _
    rw [ws10_12, ws11_12]
    exact st0021 Q w0 a ha hp hQ (w.alloc (.cells #[.slice none 0 0, .slice (some ⟨xc, 0, none⟩) 1 1] 32)) xc w.heap.size xd (hb.alloc hb.size _) (li_two fc) (fd.on (alloc_below w (.cells #[.slice none 0 0, .slice (some ⟨xc, 0, none⟩) 1 1] 32)) (Nat.le_refl _))
  · refine stp13 (x := xd) (by simp [wp0, wp1, wp2, wp3, wp4, wp5, wp6, wp7, wp8, wp9, wp10, wp11, wp12, wp13, wp14, eval_put, put_size, ha]) (hK _ _ ?_)
    refine wpAny_take (i := 14) rfl (by kernel_rfl) (by kernel_rfl) (by kernel_rfl) (fun c b w h => hp _ _ c b w h) (yl14 (xd2 := w.heap.size) (by simp [wp0, wp1, wp2, wp3, wp4, wp5, wp6, wp7, wp8, wp9, wp10, wp11, wp12, wp13, wp14, eval_put, put_size, ha])) ?_
    change wpAny _ _ _ _ _ _ (wp14 w.heap.size (wp13 w.heap.size (wp12 xd (wp9 xc (wp3 (wp2 (wp1 (wp0 a)))))))) _
    exact st0012 Q w0 a ha hp hQ (w.alloc (.cells #[.slice (some ⟨xd, 0, none⟩) 1 1] 32)) xc xd w.heap.size (hb.alloc hb.size _) (fc.on (alloc_below w (.cells #[.slice (some ⟨xd, 0, none⟩) 1 1] 32)) (Nat.le_refl _)) (li_one fd)
theorem st0101 (w : World) (xb xd : Nat) (hb : Below w0.heap.size w0 w) (fb : IntSl w (.slice (some ⟨xb, 0, none⟩) 1001 1001) (List.replicate 1001 0)) (fd : IntSl w (.slice (some ⟨xd, 0, none⟩) 1 1) [100000001]) :
    wpAny Try.prog .any wrOps Q 11 #[true, true, true, true, false, false, true, false, false, false, false, false, true, false, false, false, false] (wp12 xd (wp6 xb (wp3 (wp2 (wp1 (wp0 a)))))) w := by
  refine wpAny_ready (rs := [4, 7, 9, 13]) (by kernel_rfl) (by simp) (AllReady.cons rfl (fun K hK => ?_) (AllReady.cons rfl (fun K hK => ?_) (AllReady.cons rfl (fun K hK => ?_) (AllReady.cons rfl (fun K hK => ?_) AllReady.nil))))
  · refine stp4 (hK _ _ ?_)
    refine wpAny_take (i := 5) rfl (by kernel_rfl) (by kernel_rfl) (by kernel_rfl) (fun c b w h => hp _ _ c b w h) (yl5 (xa := w.heap.size) (by simp [wp0, wp1, wp2, wp3, wp4, wp5, wp6, wp7, wp8, wp9, wp10, wp11, wp12, wp13, wp14, eval_put, put_size, ha])) ?_
    change wpAny _ _ _ _ _ _ (wp5 w.heap.size (wp4 w.heap.size (wp12 xd (wp6 xb (wp3 (wp2 (wp1 (wp0 a)))))))) _
    rw [ws4_12, ws4_6, ws5_12, ws5_6]
    exact st1101 Q w0 a ha hp hQ (w.alloc (.cells zc17 32)) w.heap.size xb xd (hb.alloc hb.size _) (li_zeros17 w) (fb.on (alloc_below w (.cells zc17 32)) (Nat.le_refl _)) (fd.on (alloc_below w (.cells zc17 32)) (Nat.le_refl _))
  · refine stp7 (x := xb) (by simp [wp0, wp1, wp2, wp3, wp4, wp5, wp6, wp7, wp8, wp9, wp10, wp11, wp12, wp13, wp14, eval_put, put_size, ha]) (hK _ _ ?_)
    refine wpAny_take (i := 8) rfl (by kernel_rfl) (by kernel_rfl) (by kernel_rfl) (fun c b w h => hp _ _ c b w h) (yl8 (xb2 := w.heap.size) (by simp [wp0, wp1, wp2, wp3, wp4, wp5, wp6, wp7, wp8, wp9, wp10, wp11, wp12, wp13, wp14, eval_put, put_size, ha])) ?_
    change wpAny _ _ _ _ _ _ (wp8 w.heap.size (wp7 w.heap.size (wp12 xd (wp6 xb (wp3 (wp2 (wp1 (wp0 a)))))))) _
    rw [ws7_12, ws8_12]
    exact st0201 Q w0 a ha hp hQ (w.alloc (.cells #[.slice (some ⟨xb, 0, none⟩) 1001 1001] 32)) xb w.heap.size xd (hb.alloc hb.size _) (li_one fb) (fd.on (alloc_below w (.cells #[.slice (some ⟨xb, 0, none⟩) 1001 1001] 32)) (Nat.le_refl _))
  · refine stp9 (hK _ _ ?_)
    change wpAny _ _ _ _ _ _ (wp9 w.heap.size (wp12 xd (wp6 xb (wp3 (wp2 (wp1 (wp0 a))))))) _
    rw [ws9_12]
    exact st0111 Q w0 a ha hp hQ (w.alloc (.cells #[.int .i64 (-1)] 3)) xb w.heap.size xd (hb.alloc hb.size _) (fb.on (alloc_below w (.cells #[.int .i64 (-1)] 3)) (Nat.le_refl _)) (int_one w (-1)) (fd.on (alloc_below w (.cells #[.int .i64 (-1)] 3)) (Nat.le_refl _))
  · refine stp13 (x := xd) (by simp [wp0, wp1, wp2, wp3, wp4, wp5, wp6, wp7, wp8, wp9, wp10, wp11, wp12, wp13, wp14, eval_put, put_size, ha]) (hK _ _ ?_)
    refine wpAny_take (i := 14) rfl (by kernel_rfl) (by kernel_rfl) (by kernel_rfl) (fun c b w h => hp _ _ c b w h) (yl14 (xd2 := w.heap.size) (by simp [wp0, wp1, wp2, wp3, wp4, wp5, wp6, wp7, wp8, wp9, wp10, wp11, wp12, wp13, wp14, eval_put, put_size, ha])) ?_
    change wpAny _ _ _ _ _ _ (wp14 w.heap.size (wp13 w.heap.size (wp12 xd (wp6 xb (wp3 (wp2 (wp1 (wp0 a)))))))) _
    exact st0102 Q w0 a ha hp hQ (w.alloc (.cells #[.slice (some ⟨xd, 0, none⟩) 1 1] 32)) xb xd w.heap.size (hb.alloc hb.size _) (fb.on (alloc_below w (.cells #[.slice (some ⟨xd, 0, none⟩) 1 1] 32)) (Nat.le_refl _)) (li_one fd)
theorem st0110 (w : World) (xb xc : Nat) (hb : Below w0.heap.size w0 w) (fb : IntSl w (.slice (some ⟨xb, 0, none⟩) 1001 1001) (List.replicate 1001 0)) (fc : IntSl w (.slice (some ⟨xc, 0, none⟩) 1 1) [-1]) :
    wpAny Try.prog .any wrOps Q 11 #[true, true, true, true, false, false, true, false, false, true, false, false, false, false, false, false, false] (wp9 xc (wp6 xb (wp3 (wp2 (wp1 (wp0 a)))))) w := by
  refine wpAny_ready (rs := [4, 7, 10, 12]) (by kernel_rfl) (by simp) (AllReady.cons rfl (fun K hK => ?_) (AllReady.cons rfl (fun K hK => ?_) (AllReady.cons rfl (fun K hK => ?_) (AllReady.cons rfl (fun K hK => ?_) AllReady.nil))))
  · refine stp4 (hK _ _ ?_)
    refine wpAny_take (i := 5) rfl (by kernel_rfl) (by kernel_rfl) (by kernel_rfl) (fun c b w h => hp _ _ c b w h) (yl5 (xa := w.heap.size) (by simp [wp0, wp1, wp2, wp3, wp4, wp5, wp6, wp7, wp8, wp9, wp10, wp11, wp12, wp13, wp14, eval_put, put_size, ha])) ?_
    change wpAny _ _ _ _ _ _ (wp5 w.heap.size (wp4 w.heap.size (wp9 xc (wp6 xb (wp3 (wp2 (wp1 (wp0 a)))))))) _
    rw [ws4_9, ws4_6, ws5_9, ws5_6]
    exact st1110 Q w0 a ha hp hQ (w.alloc (.cells zc17 32)) w.heap.size xb xc (hb.alloc hb.size _) (li_zeros17 w) (fb.on (alloc_below w (.cells zc17 32)) (Nat.le_refl _)) (fc.on (alloc_below w (.cells zc17 32)) (Nat.le_refl _))
  · refine stp7 (x := xb) (by simp [wp0, wp1, wp2, wp3, wp4, wp5, wp6, wp7, wp8, wp9, wp10, wp11, wp12, wp13, wp14, eval_put, put_size, ha]) (hK _ _ ?_)
    refine wpAny_take (i := 8) rfl (by kernel_rfl) (by kernel_rfl) (by kernel_rfl) (fun c b w h => hp _ _ c b w h) (yl8 (xb2 := w.heap.size) (by simp [wp0, wp1, wp2, wp3, wp4, wp5, wp6, wp7, wp8, wp9, wp10, wp11, wp12, wp13, wp14, eval_put, put_size, ha])) ?_
    change wpAny _ _ _ _ _ _ (wp8 w.heap.size (wp7 w.heap.size (wp9 xc (wp6 xb (wp3 (wp2 (wp1 (wp0 a)))))))) _
    rw [ws7_9, ws8_9]
    exact st0210 Q w0 a ha hp hQ (w.alloc (.cells #[.slice (some ⟨xb, 0, none⟩) 1001 1001] 32)) xb w.heap.size xc (hb.alloc hb.size _) (li_one fb) (fc.on (alloc_below w (.cells #[.slice (some ⟨xb, 0, none⟩) 1001 1001] 32)) (Nat.le_refl _))
  · refine stp10 (x := xc) (by simp [wp0, wp1, wp2, wp3, wp4, wp5, wp6, wp7, wp8, wp9, wp10, wp11, wp12, wp13, wp14, eval_put, put_size, ha]) (hK _ _ ?_)
    refine wpAny_take (i := 11) rfl (by kernel_rfl) (by kernel_rfl) (by kernel_rfl) (fun c b w h => hp _ _ c b w h) (yl11 (xc2 := w.heap.size) (by simp [wp0, wp1, wp2, wp3, wp4, wp5, wp6, wp7, wp8, wp9, wp10, wp11, wp12, wp13, wp14, eval_put, put_size, ha])) ?_
    change wpAny _ _ _ _ _ _ (wp11 w.heap.size (wp10 w.heap.size (wp9 xc (wp6 xb (wp3 (wp2 (wp1 (wp0 a)))))))) _
    exact st0120 Q w0 a ha hp hQ (w.alloc (.cells #[.slice none 0 0, .slice (some ⟨xc, 0, none⟩) 1 1] 32)) xb xc w.heap.size (hb.alloc hb.size _) (fb.on (alloc_below w (.cells #[.slice none 0 0, .slice (some ⟨xc, 0, none⟩) 1 1] 32)) (Nat.le_refl _)) (li_two fc)
  · refine stp12 (hK _ _ ?_)
    change wpAny _ _ _ _ _ _ (wp12 w.heap.size (wp9 xc (wp6 xb (wp3 (wp2 (wp1 (wp0 a))))))) _
    exact st0111 Q w0 a ha hp hQ (w.alloc (.cells #[.int .i64 100000001] 3)) xb xc w.heap.size (hb.alloc hb.size _) (fb.on (alloc_below w (.cells #[.int .i64 100000001] 3)) (Nat.le_refl _)) (fc.on (alloc_below w (.cells #[.int .i64 100000001] 3)) (Nat.le_refl _)) (int_one w 100000001)
theorem st1000 (w : World) (xa : Nat) (hb : Below w0.heap.size w0 w) (fa : LiSl w (.slice (some ⟨xa, 0, none⟩) 17 17) (List.replicate 17 [])) :
    wpAny Try.prog .any wrOps Q 11 #[true, true, true, true, true, true, false, false, false, false, false, false, false, false, false, false, false] (wp5 xa (wp4 xa (wp3 (wp2 (wp1 (wp0 a)))))) w := by
  refine wpAny_ready (rs := [6, 9, 12]) (by kernel_rfl) (by simp) (AllReady.cons rfl (fun K hK => ?_) (AllReady.cons rfl (fun K hK => ?_) (AllReady.cons rfl (fun K hK => ?_) AllReady.nil)))
  · refine stp6 (hK _ _ ?_)
    change wpAny _ _ _ _ _ _ (wp6 w.heap.size (wp5 xa (wp4 xa (wp3 (wp2 (wp1 (wp0 a))))))) _
    exact st1100 Q w0 a ha hp hQ (w.alloc (.cells zc1001 3)) xa w.heap.size (hb.alloc hb.size _) (fa.on (alloc_below w (.cells zc1001 3)) (Nat.le_refl _)) (int_zeros w)
  · refine stp9 (hK _ _ ?_)
    change wpAny _ _ _ _ _ _ (wp9 w.heap.size (wp5 xa (wp4 xa (wp3 (wp2 (wp1 (wp0 a))))))) _
    exact st1010 Q w0 a ha hp hQ (w.alloc (.cells #[.int .i64 (-1)] 3)) xa w.heap.size (hb.alloc hb.size _) (fa.on (alloc_below w (.cells #[.int .i64 (-1)] 3)) (Nat.le_refl _)) (int_one w (-1))
  · refine stp12 (hK _ _ ?_)
    change wpAny _ _ _ _ _ _ (wp12 w.heap.size (wp5 xa (wp4 xa (wp3 (wp2 (wp1 (wp0 a))))))) _
    exact st1001 Q w0 a ha hp hQ (w.alloc (.cells #[.int .i64 100000001] 3)) xa w.heap.size (hb.alloc hb.size _) (fa.on (alloc_below w (.cells #[.int .i64 100000001] 3)) (Nat.le_refl _)) (int_one w 100000001)
theorem st0001 (w : World) (xd : Nat) (hb : Below w0.heap.size w0 w) (fd : IntSl w (.slice (some ⟨xd, 0, none⟩) 1 1) [100000001]) :
    wpAny Try.prog .any wrOps Q 12 #[true, true, true, true, false, false, false, false, false, false, false, false, true, false, false, false, false] (wp12 xd (wp3 (wp2 (wp1 (wp0 a))))) w := by
  refine wpAny_ready (rs := [4, 6, 9, 13]) (by kernel_rfl) (by simp) (AllReady.cons rfl (fun K hK => ?_) (AllReady.cons rfl (fun K hK => ?_) (AllReady.cons rfl (fun K hK => ?_) (AllReady.cons rfl (fun K hK => ?_) AllReady.nil))))
  · refine stp4 (hK _ _ ?_)
    refine wpAny_take (i := 5) rfl (by kernel_rfl) (by kernel_rfl) (by kernel_rfl) (fun c b w h => hp _ _ c b w h) (yl5 (xa := w.heap.size) (by simp [wp0, wp1, wp2, wp3, wp4, wp5, wp6, wp7, wp8, wp9, wp10, wp11, wp12, wp13, wp14, eval_put, put_size, ha])) ?_
    change wpAny _ _ _ _ _ _ (wp5 w.heap.size (wp4 w.heap.size (wp12 xd (wp3 (wp2 (wp1 (wp0 a))))))) _
    rw [ws4_12, ws5_12]
    exact st1001 Q w0 a ha hp hQ (w.alloc (.cells zc17 32)) w.heap.size xd (hb.alloc hb.size _) (li_zeros17 w) (fd.on (alloc_below w (.cells zc17 32)) (Nat.le_refl _))
  · refine stp6 (hK _ _ ?_)
    change wpAny _ _ _ _ _ _ (wp6 w.heap.size (wp12 xd (wp3 (wp2 (wp1 (wp0 a)))))) _
    rw [ws6_12]
    exact st0101 Q w0 a ha hp hQ (w.alloc (.cells zc1001 3)) w.heap.size xd (hb.alloc hb.size _) (int_zeros w) (fd.on (alloc_below w (.cells zc1001 3)) (Nat.le_refl _))
  · refine stp9 (hK _ _ ?_)
    change wpAny _ _ _ _ _ _ (wp9 w.heap.size (wp12 xd (wp3 (wp2 (wp1 (wp0 a)))))) _
    rw [ws9_12]
    exact st0011 Q w0 a ha hp hQ (w.alloc (.cells #[.int .i64 (-1)] 3)) w.heap.size xd (hb.alloc hb.size _) (int_one w (-1)) (fd.on (alloc_below w (.cells #[.int .i64 (-1)] 3)) (Nat.le_refl _))
  · refine stp13 (x := xd) (by simp [wp0, wp1, wp2, wp3, wp4, wp5, wp6, wp7, wp8, wp9, wp10, wp11, wp12, wp13, wp14, eval_put, put_size, ha]) (hK _ _ ?_)
    refine wpAny_take (i := 14) rfl (by kernel_rfl) (by kernel_rfl) (by kernel_rfl) (fun c b w h => hp _ _ c b w h) (yl14 (xd2 := w.heap.size) (by simp [wp0, wp1, wp2, wp3, wp4, wp5, wp6, wp7, wp8, wp9, wp10, wp11, wp12, wp13, wp14, eval_put, put_size, ha])) ?_
    change wpAny _ _ _ _ _ _ (wp14 w.heap.size (wp13 w.heap.size (wp12 xd (wp3 (wp2 (wp1 (wp0 a))))))) _
    exact st0002 Q w0 a ha hp hQ (w.alloc (.cells #[.slice (some ⟨xd, 0, none⟩) 1 1] 32)) xd w.heap.size (hb.alloc hb.size _) (li_one fd)
theorem st0010 (w : World) (xc : Nat) (hb : Below w0.heap.size w0 w) (fc : IntSl w (.slice (some ⟨xc, 0, none⟩) 1 1) [-1]) :
    wpAny Try.prog .any wrOps Q 12 #[true, true, true, true, false, false, false, false, false, true, false, false, false, false, false, false, false] (wp9 xc (wp3 (wp2 (wp1 (wp0 a))))) w := by
  refine wpAny_ready (rs := [4, 6, 10, 12]) (by kernel_rfl) (by simp) (AllReady.cons rfl (fun K hK => ?_) (AllReady.cons rfl (fun K hK => ?_) (AllReady.cons rfl (fun K hK => ?_) (AllReady.cons rfl (fun K hK => ?_) AllReady.nil))))
  · refine stp4 (hK _ _ ?_)
    refine wpAny_take (i := 5) rfl (by kernel_rfl) (by kernel_rfl) (by kernel_rfl) (fun c b w h => hp _ _ c b w h) (yl5 (xa := w.heap.size) (by simp [wp0, wp1, wp2, wp3, wp4, wp5, wp6, wp7, wp8, wp9, wp10, wp11, wp12, wp13, wp14, eval_put, put_size, ha])) ?_
    change wpAny _ _ _ _ _ _ (wp5 w.heap.size (wp4 w.heap.size (wp9 xc (wp3 (wp2 (wp1 (wp0 a))))))) _
    rw [ws4_9, ws5_9]
    exact st1010 Q w0 a ha hp hQ (w.alloc (.cells zc17 32)) w.heap.size xc (hb.alloc hb.size _) (li_zeros17 w) (fc.on (alloc_below w (.cells zc17 32)) (Nat.le_refl _))
  · refine stp6 (hK _ _ ?_)
    change wpAny _ _ _ _ _ _ (wp6 w.heap.size (wp9 xc (wp3 (wp2 (wp1 (wp0 a)))))) _
    rw [ws6_9]
    exact st0110 Q w0 a ha hp hQ (w.alloc (.cells zc1001 3)) w.heap.size xc (hb.alloc hb.size _) (int_zeros w) (fc.on (alloc_below w (.cells zc1001 3)) (Nat.le_refl _))
  · refine stp10 (x := xc) (by simp [wp0, wp1, wp2, wp3, wp4, wp5, wp6, wp7, wp8, wp9, wp10, wp11, wp12, wp13, wp14, eval_put, put_size, ha]) (hK _ _ ?_)
    refine wpAny_take (i := 11) rfl (by kernel_rfl) (by kernel_rfl) (by kernel_rfl) (fun c b w h => hp _ _ c b w h) (yl11 (xc2 := w.heap.size) (by simp [wp0, wp1, wp2, wp3, wp4, wp5, wp6, wp7, wp8, wp9, wp10, wp11, wp12, wp13, wp14, eval_put, put_size, ha])) ?_
    change wpAny _ _ _ _ _ _ (wp11 w.heap.size (wp10 w.heap.size (wp9 xc (wp3 (wp2 (wp1 (wp0 a))))))) _
    exact st0020 Q w0 a ha hp hQ (w.alloc (.cells #[.slice none 0 0, .slice (some ⟨xc, 0, none⟩) 1 1] 32)) xc w.heap.size (hb.alloc hb.size _) (li_two fc)
  · refine stp12 (hK _ _ ?_)
    change wpAny _ _ _ _ _ _ (wp12 w.heap.size (wp9 xc (wp3 (wp2 (wp1 (wp0 a)))))) _
    exact st0011 Q w0 a ha hp hQ (w.alloc (.cells #[.int .i64 100000001] 3)) xc w.heap.size (hb.alloc hb.size _) (fc.on (alloc_below w (.cells #[.int .i64 100000001] 3)) (Nat.le_refl _)) (int_one w 100000001)
theorem st0100 (w : World) (xb : Nat) (hb : Below w0.heap.size w0 w) (fb : IntSl w (.slice (some ⟨xb, 0, none⟩) 1001 1001) (List.replicate 1001 0)) :
    wpAny Try.prog .any wrOps Q 12 #[true, true, true, true, false, false, true, false, false, false, false, false, false, false, false, false, false] (wp6 xb (wp3 (wp2 (wp1 (wp0 a))))) w := by
  refine wpAny_ready (rs := [4, 7, 9, 12]) (by kernel_rfl) (by simp) (AllReady.cons rfl (fun K hK => ?_) (AllReady.cons rfl (fun K hK => ?_) (AllReady.cons rfl (fun K hK => ?_) (AllReady.cons rfl (fun K hK => ?_) AllReady.nil))))
  · refine stp4 (hK _ _ ?_)
    refine wpAny_take (i := 5) rfl (by kernel_rfl) (by kernel_rfl) (by kernel_rfl) (fun c b w h => hp _ _ c b w h) (yl5 (xa := w.heap.size) (by simp [wp0, wp1, wp2, wp3, wp4, wp5, wp6, wp7, wp8, wp9, wp10, wp11, wp12, wp13, wp14, eval_put, put_size, ha])) ?_
    change wpAny _ _ _ _ _ _ (wp5 w.heap.size (wp4 w.heap.size (wp6 xb (wp3 (wp2 (wp1 (wp0 a))))))) _
    rw [ws4_6, ws5_6]
    exact st1100 Q w0 a ha hp hQ (w.alloc (.cells zc17 32)) w.heap.size xb (hb.alloc hb.size _) (li_zeros17 w) (fb.on (alloc_below w (.cells zc17 32)) (Nat.le_refl _))
  · refine stp7 (x := xb) (by simp [wp0, wp1, wp2, wp3, wp4, wp5, wp6, wp7, wp8, wp9, wp10, wp11, wp12, wp13, wp14, eval_put, put_size, ha]) (hK _ _ ?_)
    refine wpAny_take (i := 8) rfl (by kernel_rfl) (by kernel_rfl) (by kernel_rfl) (fun c b w h => hp _ _ c b w h) (yl8 (xb2 := w.heap.size) (by simp [wp0, wp1, wp2, wp3, wp4, wp5, wp6, wp7, wp8, wp9, wp10, wp11, wp12, wp13, wp14, eval_put, put_size, ha])) ?_
    change wpAny _ _ _ _ _ _ (wp8 w.heap.size (wp7 w.heap.size (wp6 xb (wp3 (wp2 (wp1 (wp0 a))))))) _
    exact st0200 Q w0 a ha hp hQ (w.alloc (.cells #[.slice (some ⟨xb, 0, none⟩) 1001 1001] 32)) xb w.heap.size (hb.alloc hb.size _) (li_one fb)
  · refine stp9 (hK _ _ ?_)
    change wpAny _ _ _ _ _ _ (wp9 w.heap.size (wp6 xb (wp3 (wp2 (wp1 (wp0 a)))))) _
    exact st0110 Q w0 a ha hp hQ (w.alloc (.cells #[.int .i64 (-1)] 3)) xb w.heap.size (hb.alloc hb.size _) (fb.on (alloc_below w (.cells #[.int .i64 (-1)] 3)) (Nat.le_refl _)) (int_one w (-1))
  · refine stp12 (hK _ _ ?_)
    change wpAny _ _ _ _ _ _ (wp12 w.heap.size (wp6 xb (wp3 (wp2 (wp1 (wp0 a)))))) _
    exact st0101 Q w0 a ha hp hQ (w.alloc (.cells #[.int .i64 100000001] 3)) xb w.heap.size (hb.alloc hb.size _) (fb.on (alloc_below w (.cells #[.int .i64 100000001] 3)) (Nat.le_refl _)) (int_one w 100000001)
theorem st0000 (w : World) (hb : Below w0.heap.size w0 w) :
    wpAny Try.prog .any wrOps Q 13 #[true, true, true, true, false, false, false, false, false, false, false, false, false, false, false, false, false] (wp3 (wp2 (wp1 (wp0 a)))) w := by
  refine wpAny_ready (rs := [4, 6, 9, 12]) (by kernel_rfl) (by simp) (AllReady.cons rfl (fun K hK => ?_) (AllReady.cons rfl (fun K hK => ?_) (AllReady.cons rfl (fun K hK => ?_) (AllReady.cons rfl (fun K hK => ?_) AllReady.nil))))
  · refine stp4 (hK _ _ ?_)
    refine wpAny_take (i := 5) rfl (by kernel_rfl) (by kernel_rfl) (by kernel_rfl) (fun c b w h => hp _ _ c b w h) (yl5 (xa := w.heap.size) (by simp [wp0, wp1, wp2, wp3, wp4, wp5, wp6, wp7, wp8, wp9, wp10, wp11, wp12, wp13, wp14, eval_put, put_size, ha])) ?_
    change wpAny _ _ _ _ _ _ (wp5 w.heap.size (wp4 w.heap.size (wp3 (wp2 (wp1 (wp0 a)))))) _
    exact st1000 Q w0 a ha hp hQ (w.alloc (.cells zc17 32)) w.heap.size (hb.alloc hb.size _) (li_zeros17 w)
  · refine stp6 (hK _ _ ?_)
    change wpAny _ _ _ _ _ _ (wp6 w.heap.size (wp3 (wp2 (wp1 (wp0 a))))) _
    exact st0100 Q w0 a ha hp hQ (w.alloc (.cells zc1001 3)) w.heap.size (hb.alloc hb.size _) (int_zeros w)
  · refine stp9 (hK _ _ ?_)
    change wpAny _ _ _ _ _ _ (wp9 w.heap.size (wp3 (wp2 (wp1 (wp0 a))))) _
    exact st0010 Q w0 a ha hp hQ (w.alloc (.cells #[.int .i64 (-1)] 3)) w.heap.size (hb.alloc hb.size _) (int_one w (-1))
  · refine stp12 (hK _ _ ?_)
    change wpAny _ _ _ _ _ _ (wp12 w.heap.size (wp3 (wp2 (wp1 (wp0 a))))) _
    exact st0001 Q w0 a ha hp hQ (w.alloc (.cells #[.int .i64 100000001] 3)) w.heap.size (hb.alloc hb.size _) (int_one w 100000001)
end
theorem rg_wrong (Q : Exit → Act → World → Prop) (w0 : World) (a : Act) (ha : a.tmps.size = 348) (hp : ∀ (d : Nat) v c b w, Q (.panic c) (Act.put b (some d) v) w → Q (.panic c) b w)
  (hQ : ∀ (w : World) (xa xb xb2 xc xc2 xd xd2 : Nat), Below w0.heap.size w0 w → LiSl w (.slice (some ⟨xa, 0, none⟩) 17 17) (List.replicate 17 []) → LiSl w (.slice (some ⟨xb2, 0, none⟩) 1 1) [List.replicate 1001 0] → LiSl w (.slice (some ⟨xc2, 0, none⟩) 2 2) [[], [-1]] → LiSl w (.slice (some ⟨xd2, 0, none⟩) 1 1) [[100000001]] → Q .normal (((wp14 xd2 (wp13 xd2 (wp12 xd (wp11 xc2 (wp10 xc2 (wp9 xc (wp8 xb2 (wp7 xb2 (wp6 xb (wp5 xa (wp4 xa (wp3 (wp2 (wp1 (wp0 a))))))))))))))).put (some 135) (.slice (some ⟨w.heap.size, 0, none⟩) 8 8)).put (some 13) (.slice (some ⟨w.heap.size, 0, none⟩) 8 8)) (w.alloc (.cells #[.int .i64 0, .slice none 0 0, .int .i64 (-1), .slice none 0 0, .int .i64 0, .int .i64 0, .int .i64 0, .int .i64 0, .slice none 0 0, .int .i64 100000001, .slice none 0 0, .int .i64 0, .int .i64 0, .int .i64 0, .int .i64 0, .slice none 0 0, .int .i64 0, .slice none 0 0, .int .i64 (-1), .int .i64 0, .int .i64 0, .int .i64 0, .slice none 0 0, .int .i64 0, .slice none 0 0, .int .i64 1001, .int .i64 0, .int .i64 0, .int .i64 0, .slice none 0 0, .int .i64 0, .slice (some ⟨xa, 0, none⟩) 17 17, .int .i64 0, .int .i64 0, .int .i64 0, .int .i64 0, .slice none 0 0, .int .i64 0, .slice (some ⟨xb2, 0, none⟩) 1 1, .int .i64 0, .int .i64 0, .int .i64 0, .int .i64 0, .slice none 0 0, .int .i64 0, .slice (some ⟨xc2, 0, none⟩) 2 2, .int .i64 0, .int .i64 0, .int .i64 0, .int .i64 0, .slice none 0 0, .int .i64 0, .slice (some ⟨xd2, 0, none⟩) 1 1, .int .i64 0, .int .i64 0, .int .i64 0] 27))) :
    (Code.region 18 wrOps true).wp Try.prog Q a w0 := by
  refine wp_region_any (by kernel_rfl) ?_
  refine wpAny_take (i := 0) rfl (by kernel_rfl) (by kernel_rfl) (by kernel_rfl) (fun c b w h => hp _ _ c b w h) yl0 ?_
  refine wpAny_take (i := 1) rfl (by kernel_rfl) (by kernel_rfl) (by kernel_rfl) (fun c b w h => hp _ _ c b w h) yl1 ?_
  refine wpAny_take (i := 2) rfl (by kernel_rfl) (by kernel_rfl) (by kernel_rfl) (fun c b w h => hp _ _ c b w h) yl2 ?_
  refine wpAny_take (i := 3) rfl (by kernel_rfl) (by kernel_rfl) (by kernel_rfl) (fun c b w h => hp _ _ c b w h) yl3 ?_
  exact st0000 Q w0 a ha hp hQ w0.drew (Below.refl _ _).drew
end Go.Proofs.Ythghinkicaafmaa
