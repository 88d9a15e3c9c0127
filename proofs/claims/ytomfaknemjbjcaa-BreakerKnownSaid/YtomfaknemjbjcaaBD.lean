/-
  DERIVED. isState, next, lasting, cooling of the landed package.
-/
import Derived.Test.YtomfaknemjbjcaaBC
namespace Go.Proofs.Ytomfaknemjbjcaa
open Go.RowKit
set_option maxRecDepth 100000

theorem two_cells {W : World} {b : Nat} {x0 x1 : Value} {T : TypeId} (h : W.heap[b]? = some (.cells #[x0, x1] T (0, 0))) : W.cell? ⟨b, 0, none⟩ = some x0 ∧ W.cell? ⟨b, 1, none⟩ = some x1 := by simp [World.cell?, h]
theorem row_set2 {W : World} {b i : Nat} {xs : Array Value} {T : TypeId} (h : W.heap[b]? = some (.cells xs T (0, 0))) (v : Value) : (W.setCell ⟨b, i, none⟩ v).heap[b]? = some (.cells (xs.setIfInBounds i v) T (0, 0)) := by
  simp only [World.setCell, Array.getElem?_modify, if_pos trivial, h]
  simp
theorem row_store2 {W : World} {b : Nat} {y0 y1 : Value} {T : TypeId} (h : W.heap[b]? = some (.cells #[y0, y1] T (0, 0))) (x0 x1 : Value) : ((W.setCell ⟨b, 0, none⟩ x0).setCell ⟨b, 1, none⟩ x1).heap[b]? = some (.cells #[x0, x1] T (0, 0)) :=
  row_set2 (row_set2 h x0) x1
theorem ret2 {fn : Func} {a : Act} {W : World} {R : Ending → World → Prop} {b i : Nat} {x0 x1 : Value} (hfn : fn.results = #[.cell i 25]) (hp : a.tmps[i]?.getD undef = .pointer (some ⟨b, 0, none⟩)) (hd : a.defers = [])
    (h : W.heap[b]? = some (.cells #[x0, x1] 25 (0, 0))) (hR : R (.returned (.agg #[x0, x1])) W) : bodyPost Try.prog fn R .ret a W := by
  obtain ⟨c0, c1⟩ := two_cells h
  exact bodyPost_ret (v := .agg #[x0, x1]) (by simp [results, hfn, hp, go_sem, c0, c1]) hd hR
theorem below_store2 {W X : World} {B b : Nat} (h : Below B W X) (hb : B ≤ b) (x0 x1 : Value) : Below B W ((X.setCell ⟨b, 0, none⟩ x0).setCell ⟨b, 1, none⟩ x1) :=
  (h.setCell hb _).setCell hb _

theorem row_new4 (W : World) (o : Obj) (b : Nat) (hb : b = W.heap.size) : (W.alloc o).heap[b]? = some o := by subst hb; exact heap_alloc_new W o
theorem below_a2 (w : World) (o o' : Obj) : Below w.heap.size w ((w.alloc o).alloc o') := ((Below.refl _ _).alloc (Nat.le_refl _) _).alloc (by simp) _
theorem below_a3 (w : World) (o o' o'' : Obj) : Below w.heap.size w (((w.alloc o).alloc o').alloc o'') := (below_a2 w o o').alloc (by simp; omega) _
theorem ret_eq {a b : Int} {s t : Bool} (h1 : a = b) (h2 : s = t) : Ending.returned (.agg #[.int .i64 a, .bool s]) = .returned (.agg #[.int .i64 b, .bool t]) := by rw [h1, h2]
/-- isState's answer. -/
def tOk (S h : Int) (t : Bool) : Bool := if t = true then decide (0 ≤ h) && decide (h ≤ 100000000) else decide (0 ≤ h) && decide (h ≤ S)
set_option maxHeartbeats 4000000 in
theorem c_isState (f L S F h : Int) (t : Bool) (r : Bool) (hr : tOk S h t = r) (w : World) :
    Calls Try.prog 53 #[bkV f L S F, stV (h, t)] w fun e w' => e = .returned (.bool r) ∧ Below w.heap.size w w' := by
  unfold bkV stV
  obtain ⟨W, hW⟩ : ∃ W, W = (w.alloc (.cells #[.int .i64 f, .int .i64 L, .int .i64 S, .int .i64 F] 23)).alloc (.cells #[.int .i64 h, .bool t] 25) := ⟨_, rfl⟩
  have B0 : Below w.heap.size w W := by subst hW; exact ((Below.refl _ _).alloc (Nat.le_refl _) _).alloc (by simp) _
  have HB := Lib.hid B0
  have HK := Lib.hid (show Bk W w.heap.size f L S F by subst hW; exact old_heap _ (bk_new _ _ _ _ _))
  have HS := Lib.hid (show St W (w.heap.size + 1) h t by subst hW; simpa using st_new (w.alloc (.cells #[.int .i64 f, .int .i64 L, .int .i64 S, .int .i64 F] 23)) h t)
  obtain ⟨x0, x1, x2, x3⟩ := HK.out.cells
  obtain ⟨y0, y1⟩ := HS.out.cells
  clear B0
  unfold tOk at hr
  cases t
  · have H1 := Lib.hid (show (decide (0 ≤ h) && decide (h ≤ S)) = r from hr)
    clear hr
    go_enter Try.func53, Try.ntmps53
    go_wp2_with (fail)
    rw [← hW]
    clear hW
    go_at_call 43
    refine (c_isUpTo _ _ _ H1.out _).mono ?_
    rintro e w1 ⟨rfl, rfl⟩
    go_wp2_with (fail)
    go_ret
    exact ⟨rfl, HB.out⟩
  · have H1 := Lib.hid (show (decide (0 ≤ h) && decide (h ≤ 100000000)) = r from hr)
    clear hr
    go_enter Try.func53, Try.ntmps53
    go_wp2_with (fail)
    rw [← hW]
    clear hW
    go_at_call 43
    refine (c_isUpTo _ _ _ H1.out _).mono ?_
    rintro e w1 ⟨rfl, rfl⟩
    go_wp2_with (fail)
    go_ret
    exact ⟨rfl, HB.out⟩
set_option maxHeartbeats 4000000 in
theorem c_next (f L S F q p : Int) (t : Bool) (hb : 0 ≤ L ∧ L ≤ 1000000 ∧ 0 ≤ q ∧ q ≤ 100000000 ∧ 0 ≤ p ∧ p ≤ 100000000) (y : Int × Bool) (hy : nx L S F (q, t) p = y) (w : World) :
    Calls Try.prog 39 #[bkV f L S F, stV (q, t), .int .i64 p] w fun e w' => e = .returned (stV y) ∧ Below w.heap.size w w' := by
  unfold bkV stV
  obtain ⟨b1, b2, b3, b4, b5, b6⟩ := hb
  cases t
  · rw [nx_live] at hy
    rcases h1 : decide (F < p) with _ | _
    · rw [h1, Bool.false_or] at hy
      subst hy
      go_enter Try.func39, Try.ntmps39
      go_wp2
      all_goals exact ret2 (b := w.heap.size + 1 + 1) rfl rfl rfl (row_new4 _ _ _ (by simp)) ⟨ret_eq (by omega) (decide_eq_decide.2 (by omega)), below_a3 _ _ _ _⟩
    · rw [h1, Bool.true_or] at hy
      subst hy
      go_enter Try.func39, Try.ntmps39
      go_wp2
      all_goals exact ret2 (b := w.heap.size + 1 + 1) rfl rfl rfl (row_new4 _ _ _ (by simp)) ⟨ret_eq (by omega) rfl, below_a3 _ _ _ _⟩
  · obtain rfl : (q, true) = y := hy
    go_enter Try.func39, Try.ntmps39
    go_wp2
    refine ret2 (b := w.heap.size + 1 + 1) rfl rfl rfl (row_new4 _ _ _ (by simp)) ⟨?_, below_a3 _ _ _ _⟩
    rfl
set_option maxHeartbeats 4000000 in
theorem c_lastingX (f L S F q p : Int) (hb : 0 ≤ L ∧ L ≤ 1000000 ∧ 0 ≤ q ∧ q ≤ S ∧ S ≤ 1000000 ∧ 0 ≤ p ∧ p ≤ 100000000) (r : Int) (hr : lst L S F q p = r) (w : World) :
    Calls Try.prog 45 #[bkV f L S F, .int .i64 q, .int .i64 p] w fun e w' => e = .returned (.int .i64 r) ∧ ∃ o, w' = w.alloc o := by
  unfold bkV
  obtain ⟨b1, b2, b3, b4, b5, b6, b7⟩ := hb
  unfold lst at hr
  by_cases h1 : p ≤ L
  · rw [if_pos h1] at hr
    subst hr
    go_enter Try.func45, Try.ntmps45
    go_wp2
    go_ret
    exact ⟨rfl, _, rfl⟩
  · rw [if_neg h1] at hr
    by_cases h2 : F < p
    · rw [if_pos h2] at hr
      subst hr
      go_enter Try.func45, Try.ntmps45
      go_wp2
      go_ret
      exact ⟨rfl, _, rfl⟩
    · rw [if_neg h2] at hr
      have q0 : 0 ≤ (S - q) / (p - L) := Int.ediv_nonneg (by omega) (by omega)
      have q1 : (S - q) / (p - L) ≤ S - q := Int.ediv_le_self _ (by omega)
      have q2 : (S - q).tdiv (p - L) = r := by rw [← hr]; exact Int.tdiv_eq_ediv_of_nonneg (by omega)
      have hne : ((p - L) == 0) = false := by rw [beq_eq_false_iff_ne]; omega
      go_enter Try.func45, Try.ntmps45
      go_wp2
      go_ret
      exact ⟨rfl, _, rfl⟩
theorem c_lasting (f L S F q p : Int) (hb : 0 ≤ L ∧ L ≤ 1000000 ∧ 0 ≤ q ∧ q ≤ S ∧ S ≤ 1000000 ∧ 0 ≤ p ∧ p ≤ 100000000) (r : Int) (hr : lst L S F q p = r) (w : World) :
    Calls Try.prog 45 #[bkV f L S F, .int .i64 q, .int .i64 p] w fun e w' => e = .returned (.int .i64 r) ∧ Below w.heap.size w w' :=
  (c_lastingX f L S F q p hb r hr w).mono fun _ _ ⟨h1, o, h2⟩ => ⟨h1, by subst h2; exact (Below.refl _ _).alloc (Nat.le_refl _) _⟩
set_option maxHeartbeats 4000000 in
theorem c_cooling (f L S F q p : Int) (hb : 0 ≤ L ∧ L ≤ 1000000 ∧ 0 ≤ q ∧ q ≤ 1000000 ∧ 0 ≤ p ∧ p ≤ 100000000) (r : Int) (hr : col L q p = r) (w : World) :
    Calls Try.prog 47 #[bkV f L S F, .int .i64 q, .int .i64 p] w fun e w' => e = .returned (.int .i64 r) ∧ Below w.heap.size w w' := by
  unfold bkV
  obtain ⟨b1, b2, b3, b4, b5, b6⟩ := hb
  unfold col at hr
  by_cases h1 : q = 0
  · rw [if_pos h1] at hr
    subst hr h1
    go_enter Try.func47, Try.ntmps47
    go_wp2
    go_ret
    exact ⟨rfl, (Below.refl _ _).alloc (Nat.le_refl _) _⟩
  · rw [if_neg h1] at hr
    have h1' : (q == 0) = false := by rw [beq_eq_false_iff_ne]; exact h1
    by_cases h2 : L ≤ p
    · rw [if_pos h2] at hr
      subst hr
      go_enter Try.func47, Try.ntmps47
      go_wp2
      go_ret
      exact ⟨rfl, (Below.refl _ _).alloc (Nat.le_refl _) _⟩
    · rw [if_neg h2] at hr
      have q0 : 0 ≤ (q + (L - p) - 1) / (L - p) := Int.ediv_nonneg (by omega) (by omega)
      have q1 : (q + (L - p) - 1) / (L - p) ≤ q + (L - p) - 1 := Int.ediv_le_self _ (by omega)
      have q2 : (q + (L - p) - 1).tdiv (L - p) = r := by rw [← hr]; exact Int.tdiv_eq_ediv_of_nonneg (by omega)
      have hne : ((L - p) == 0) = false := by rw [beq_eq_false_iff_ne]; omega
      go_enter Try.func47, Try.ntmps47
      go_wp2
      go_ret
      exact ⟨rfl, (Below.refl _ _).alloc (Nat.le_refl _) _⟩
end Go.Proofs.Ytomfaknemjbjcaa
