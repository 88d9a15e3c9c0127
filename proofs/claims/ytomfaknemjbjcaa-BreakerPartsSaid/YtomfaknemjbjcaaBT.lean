/-
  DERIVED. The law's made; the law BreakerGalois.
-/
import Derived.Test.YtomfaknemjbjcaaBR
import Derived.Test.YtomfaknemjbjcaaBK
import Derived.Test.YtomfaknemjbjcaaBL
namespace Go.Proofs.Ytomfaknemjbjcaa
open Go.RowKit
set_option maxRecDepth 100000

/-- Small numbers. -/
def smallV (a b c d : Nat) : Value := .agg #[.int .u8 (a : Int), .int .u8 (b : Int), .int .u8 (c : Int), .int .u8 (d : Int)]
theorem ret4t {fn : Func} {a : Act} {W : World} {R : Ending → World → Prop} {b i j : Nat} {x0 x1 x2 x3 y : Value} (hfn : fn.results = #[.cell i 23, .tmp j]) (hp : a.tmps[i]?.getD undef = .pointer (some ⟨b, 0, none⟩)) (hj : a.tmps[j]?.getD undef = y) (hd : a.defers = [])
    (h : W.heap[b]? = some (.cells #[x0, x1, x2, x3] 23 (0, 0))) (hR : R (.returned (.tuple #[.agg #[x0, x1, x2, x3], y])) W) : bodyPost Try.prog fn R .ret a W := by
  have c0 : W.cell? ⟨b, 0, none⟩ = some x0 := by simp [World.cell?, h]
  have c1 : W.cell? ⟨b, 1, none⟩ = some x1 := by simp [World.cell?, h]
  have c2 : W.cell? ⟨b, 2, none⟩ = some x2 := by simp [World.cell?, h]
  have c3 : W.cell? ⟨b, 3, none⟩ = some x3 := by simp [World.cell?, h]
  exact bodyPost_ret (v := .tuple #[.agg #[x0, x1, x2, x3], y]) (by simp [results, hfn, hp, hj, go_sem, c0, c1, c2, c3]) hd hR
set_option maxHeartbeats 4000000 in
theorem c_made (a b c e : Nat) (ha : a ≤ 255) (hb : b ≤ 255) (hc : c ≤ 255) (he : e ≤ 255) (h : Int) (hh : h = ((e % (b + 1) : Nat) : Int)) (w : World) :
    Calls Try.prog 28 #[smallV a b c e] w fun r w' => r = .returned (.tuple #[bkV 0 (a : Int) (b : Int) ((a : Int) + (c : Int)), .int .i64 h]) ∧ Below w.heap.size w w' := by
  unfold smallV bkV
  have hm : (e : Int).tmod ((b : Int) + 1) = h := by rw [hh]; push_cast; exact Int.tmod_eq_emod_of_nonneg (by omega)
  have hne : (((b : Int) + 1) == 0) = false := by rw [beq_eq_false_iff_ne]; omega
  have hm1 : 0 ≤ h := by omega
  have hm2 : h ≤ 255 := by rw [hh]; have := Nat.mod_le e (b + 1); omega
  clear hh
  go_enter Try.func28, Try.ntmps28
  go_wp2_with (fail)
  go_region
  all_goals go_wp2_with (fail)
  all_goals exact ret4t (b := w.heap.size + 1) rfl rfl rfl rfl (old_heap _ (row_new4 _ _ _ (by simp))) ⟨rfl, by first | exact (below_a3 _ _ _ _).drew | exact below_a3 _ _ _ _⟩
theorem fltH_small (a b c h : Nat) (p : Int) (ha : a ≤ 255) (hb : b ≤ 255) (hc : c ≤ 255) (hh : h ≤ b) (h0 : 0 ≤ p) (h1 : p ≤ 100000000) : fltH (a : Int) (b : Int) ((a : Int) + (c : Int)) (h : Int) [p] = 0 := by
  rw [fltH_single, if_pos (bOk_iff.2 (by omega)), if_pos]
  simp only [Bool.and_eq_true, decide_eq_true_eq, wOk_iff]
  omega
theorem fltH_small0 (a b c h : Nat) (ha : a ≤ 255) (hb : b ≤ 255) (hc : c ≤ 255) (hh : h ≤ b) : fltH (a : Int) (b : Int) ((a : Int) + (c : Int)) (h : Int) [] = 0 := by
  rw [fltH_nil, if_pos (bOk_iff.2 (by omega)), if_pos]
  simp only [Bool.and_eq_true, decide_eq_true_eq]
  omega
set_option maxHeartbeats 8000000 in
theorem w_BreakerGalois (a b c e t p : Nat) (ha : a ≤ 255) (hb : b ≤ 255) (hc : c ≤ 255) (he : e ≤ 255) (ht : t ≤ 255) (hp : p ≤ 255) (w : World) :
    Calls Try.prog 5 #[smallV a b c e, .int .u8 (t : Int), .int .u8 (p : Int)] w fun e w' => e = .returned (.bool true) ∧ Below w.heap.size w w' := by
  obtain ⟨h, hh⟩ : ∃ h, h = e % (b + 1) := ⟨_, rfl⟩
  have hhb : h ≤ b := by have := Nat.mod_lt e (show 0 < b + 1 by omega); omega
  obtain ⟨k, hk⟩ : ∃ k : Nat, k = 1 + t % 40 := ⟨_, rfl⟩
  have hk1 : 1 ≤ k ∧ k ≤ 40 := by omega
  have HM := Lib.hid (fun (X : World) => c_made a b c e ha hb hc he (h : Int) (by rw [hh]) X)
  obtain ⟨y, hy⟩ : ∃ y, y = brsR (a : Int) (b : Int) ((a : Int) + (c : Int)) (h : Int) (k : Int) := ⟨_, rfl⟩
  obtain ⟨z, hz⟩ : ∃ z, z = lst (a : Int) (b : Int) ((a : Int) + (c : Int)) (h : Int) (p : Int) := ⟨_, rfl⟩
  have H1 := Lib.hid (fun (X : World) => c_Bears 0 (a : Int) (b : Int) ((a : Int) + (c : Int)) (h : Int) (k : Int) y 0 (by
    unfold bearsP
    rw [if_pos (fltH_small0 a b c h ha hb hc hhb), if_pos (by simp; omega), hy]) X)
  have H2 := Lib.hid (fun (X : World) => c_Lasts 0 (a : Int) (b : Int) ((a : Int) + (c : Int)) (h : Int) (p : Int) z 0 (by
    unfold lastsP
    rw [if_pos (fltH_small a b c h p ha hb hc hhb (by omega) (by omega)), hz]) X)
  have HG : (p : Int) ≤ y ↔ (z = -1 ∨ (k : Int) ≤ z) := by
    rw [hy, brs_ge (by omega) (brs_R (by omega) (by omega) (by omega)), hz, lst_brn (by omega) (by omega)]
  have hkI : 1 + (t : Int) % 40 = (k : Int) := by omega
  have HH := Lib.hid hh
  have hcase : ((z = -1 ∧ decide ((p : Int) ≤ y) = true) ∨ ((z == -1) = false ∧ decide ((k : Int) ≤ z) = true ∧ decide ((p : Int) ≤ y) = true)) ∨ ((z == -1) = false ∧ decide ((k : Int) ≤ z) = false ∧ decide ((p : Int) ≤ y) = false) := by
    by_cases h1 : z = -1
    · exact .inl (.inl ⟨h1, decide_eq_true (HG.2 (.inl h1))⟩)
    · have h2 : (z == -1) = false := by rw [beq_eq_false_iff_ne]; exact h1
      by_cases h3 : (k : Int) ≤ z
      · exact .inl (.inr ⟨h2, decide_eq_true h3, decide_eq_true (HG.2 (.inr h3))⟩)
      · exact .inr ⟨h2, decide_eq_false h3, decide_eq_false (fun h => (HG.1 h).elim h1 h3)⟩
  have HCASE := Lib.hid hcase
  clear hy hz hh hk HG hcase
  unfold smallV
  unfold bkV at HM H1 H2
  obtain ⟨w0, hW⟩ : ∃ w0, w0 = w.alloc (.cells #[.int .u8 (a : Int), .int .u8 (b : Int), .int .u8 (c : Int), .int .u8 (e : Int)] 44) := ⟨_, rfl⟩
  have HB0 := Lib.hid (show Below w.heap.size w w0 by subst hW; exact (Below.refl _ _).alloc (Nat.le_refl _) _)
  go_enter Try.func5, Try.ntmps5
  go_wp2_with (fail)
  rw [← hW]
  clear hW
  go_at_call 28
  refine (HM.out _).mono ?_
  rintro r w1 ⟨rfl, b1⟩
  have HB1 := Lib.hid (below_join HB0.out b1 HB0.out.size)
  obtain ⟨W1, hW1⟩ : ∃ W1, W1 = w1.alloc (.cells #[.int .i64 0, .int .i64 (a : Int), .int .i64 (b : Int), .int .i64 ((a : Int) + (c : Int))] 23) := ⟨_, rfl⟩
  have HBW := Lib.hid (show Below w.heap.size w W1 by subst hW1; exact HB1.out.alloc HB1.out.size _)
  have HK1 := Lib.hid (show Bk W1 w1.heap.size 0 (a : Int) (b : Int) ((a : Int) + (c : Int)) by subst hW1; exact bk_new _ _ _ _ _)
  have hz1 : w1.heap.size < W1.heap.size := block_lt HK1.out
  clear b1
  go_wp2_with (fail)
  rw [← hW1]
  clear hW1
  go_at_call 26
  refine (H1.out _).mono ?_
  rintro r w2 ⟨rfl, b2⟩
  have HB2 := Lib.hid (below_join HBW.out b2 HBW.out.size)
  have HK2 := Lib.hid (HK1.out.on b2 hz1)
  clear b2
  obtain ⟨x0, x1, x2, x3⟩ := HK2.out.cells
  go_wp2_with (fail)
  go_at_call 22
  refine (H2.out _).mono ?_
  rintro r w3 ⟨rfl, b3⟩
  have HB3 := Lib.hid (below_join HB2.out b3 HB2.out.size)
  clear b3 x0 x1 x2 x3
  rcases HCASE.out with (⟨d0, d1⟩ | ⟨d0, d1, d2⟩) | ⟨d0, d1, d2⟩
  · subst d0
    go_wp2_with (fail)
    go_at_call 21
    refine (c_works _).mono ?_
    rintro e w7 ⟨rfl, b7⟩
    have HB7 := Lib.hid (below_join HB3.out b7 HB3.out.size)
    clear b7
    go_wp2_with (fail)
    go_ret
    exact ⟨rfl, HB7.out⟩
  all_goals
    go_wp2_with (fail)
    go_at_call 21
    refine (c_works _).mono ?_
    rintro e w7 ⟨rfl, b7⟩
    have HB7 := Lib.hid (below_join HB3.out b7 HB3.out.size)
    clear b7
    go_wp2_with (fail)
    go_ret
    exact ⟨rfl, HB7.out⟩
theorem row_BreakerGalois (w : World) (a b c e : Nat) (ha : a ≤ 255) (hb : b ≤ 255) (hc : c ≤ 255) (he : e ≤ 255) (t : Nat) (ht : t ≤ 255) (p : Nat) (hp : p ≤ 255) :
    Calls Try.prog 5 #[smallV a b c e, .int .u8 (t : Int), .int .u8 (p : Int)] w fun e w' => e = .returned (.bool true) ∧ Below w.heap.size w w' := w_BreakerGalois a b c e t p ha hb hc he ht hp w
end Go.Proofs.Ytomfaknemjbjcaa
