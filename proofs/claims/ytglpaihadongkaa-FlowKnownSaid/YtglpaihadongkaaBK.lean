/-
  DERIVED. fault of the landed package (stage 5).
-/
import Derived.Test.YtglpaihadongkaaBJ
namespace Go.Proofs.Ytglpaihadongkaa
open Go.RowKit Go.Shelf
set_option maxRecDepth 100000
set_option linter.unusedSimpArgs false
set_option linter.unusedVariables false

set_option maxHeartbeats 8000000 in
theorem c_fault (N : Int) (L : Value) (l : List (Int × Int × Int)) (s t : Int) (w : World) (hL : PtSl w L l) (r : Int) (hr : nfault N l s t = r) :
    Calls Try.prog 31 #[ntV N L, .int .i64 s, .int .i64 t] w fun e w' => e = .returned (.int .i64 r) ∧ Below w.heap.size w w' := by
  obtain ⟨A, c, rfl, hc1, hc2⟩ := hL.shape
  unfold maxLen at hc2
  obtain ⟨W, hW⟩ : ∃ W, W = w.alloc (.cells #[.int .i64 N, .slice A l.length c] 24) := ⟨_, rfl⟩
  have B0 : Below w.heap.size w W := by subst hW; exact (Below.refl _ _).alloc (Nat.le_refl _) _
  have HB0 := Lib.hid B0
  have HL := Lib.hid (hL.on B0 (Nat.le_refl _))
  have HX := Lib.hid (show W.heap[w.heap.size]? = some (.cells #[.int .i64 N, .slice A l.length c] 24 (0, 0)) by subst hW; exact heap_alloc_new _ _)
  have x0 : W.cell? ⟨w.heap.size, 0, none⟩ = some (.int .i64 N) := cell_of HX.out rfl
  have x1 : W.cell? ⟨w.heap.size, 1, none⟩ = some (.slice A l.length c) := cell_of HX.out rfl
  unfold nfault at hr
  obtain ⟨r0, h0⟩ : ∃ b, ntOk N l = b := ⟨_, rfl⟩
  obtain ⟨r1, h1⟩ : ∃ b, ndOk N s = b := ⟨_, rfl⟩
  obtain ⟨r2, h2⟩ : ∃ b, ndOk N t = b := ⟨_, rfl⟩
  obtain ⟨r3, h3⟩ : ∃ b, (s == t) = b := ⟨_, rfl⟩
  rw [h0, h1, h2, h3] at hr
  have HV := Lib.hid (c_Valid N (.slice A l.length c) l W HL.out r0 h0)
  have HS := Lib.hid (fun X => c_isNode N s A l.length c r1 h1 X)
  have HT := Lib.hid (fun X => c_isNode N t A l.length c r2 h2 X)
  unfold ntV at HV HS HT ⊢
  clear B0 hL h0 h1 h2
  rw [hW] at x0 x1
  go_enter Try.func31, Try.ntmps31
  go_wp2_with (fail)
  rw [← hW]
  clear hW x0 x1
  go_at_call 16
  refine HV.out.mono ?_
  rintro e V1 ⟨rfl, hb1⟩
  have HB1 := Lib.hid (below_join HB0.out hb1 HB0.out.size)
  have HX1 := Lib.hid ((hb1.block _ (at_lt HX.out)).trans HX.out)
  clear hb1
  cases r0
  · obtain rfl : 1 = r := by simpa using hr
    go_wp2_with (fail)
    go_ret
    exact ⟨rfl, HB1.out⟩
  have v0 : V1.cell? ⟨w.heap.size, 0, none⟩ = some (.int .i64 N) := cell_of HX1.out rfl
  have v1 : V1.cell? ⟨w.heap.size, 1, none⟩ = some (.slice A l.length c) := cell_of HX1.out rfl
  go_wp2_with (fail)
  go_at_call 34
  refine (HS.out _).mono ?_
  rintro e V2 ⟨rfl, hb2⟩
  have HB2 := Lib.hid (below_join HB1.out hb2 HB1.out.size)
  have HX2 := Lib.hid ((hb2.block _ (at_lt HX1.out)).trans HX1.out)
  clear hb2 v0 v1
  cases r1
  · obtain rfl : 2 = r := by simpa using hr
    go_wp2_with (fail)
    go_ret
    exact ⟨rfl, HB2.out⟩
  have v0 : V2.cell? ⟨w.heap.size, 0, none⟩ = some (.int .i64 N) := cell_of HX2.out rfl
  have v1 : V2.cell? ⟨w.heap.size, 1, none⟩ = some (.slice A l.length c) := cell_of HX2.out rfl
  go_wp2_with (fail)
  go_at_call 34
  refine (HT.out _).mono ?_
  rintro e V3 ⟨rfl, hb3⟩
  have HB3 := Lib.hid (below_join HB2.out hb3 HB2.out.size)
  clear hb3 v0 v1
  cases r2
  · obtain rfl : 2 = r := by simpa using hr
    go_wp2_with (fail)
    go_ret
    exact ⟨rfl, HB3.out⟩
  cases r3
  · obtain rfl : 0 = r := by simpa using hr
    go_wp2_with (fail)
    go_ret
    exact ⟨rfl, HB3.out⟩
  · obtain rfl : 2 = r := by simpa using hr
    go_wp2_with (fail)
    go_ret
    exact ⟨rfl, HB3.out⟩
/-- What an arc carries. -/
theorem c_carried (r : Rs) (N i : Nat) (l : List Ar) (a : Ar) (hi : l[i]? = some a) (hl : l.length ≤ 128) (hsh : RShape r N l) (W : World) (hrr : Row W r.bR r.oR (rooms l)) :
    Calls Try.prog 36 #[r.val N, .int .i64 (i : Int)] W fun e w' => e = .returned (.int .i64 a.x) ∧ Below W.heap.size W w' := by
  have hil := (List.getElem?_eq_some_iff.1 hi).1
  obtain ⟨hR1, hR2, hR3⟩ := hsh.sr (by omega)
  obtain ⟨A1, n1, c1, hE⟩ := hsh.es
  have hx := (hrr (2 * i + 1) _ (rooms_get (by omega))).1
  have hm : mvRoom l (2 * i + 1) = a.x := by
    unfold mvRoom
    rw [show (2 * i + 1) / 2 = i by omega, hi]
    show (if (2 * i + 1) % 2 = 0 then _ else _) = _
    rw [if_neg (by omega)]
  rw [hm] at hx
  have hx' := alloc_cell hx
  unfold Rs.val Rs.M
  rw [hE, hR1]
  obtain ⟨n2, hn2⟩ : ∃ n, n = 2 * l.length := ⟨_, rfl⟩
  rw [← hn2] at hR2 ⊢
  unfold maxLen at hR3
  have hin : 2 * (i : Int) + 1 < (n2 : Int) := by omega
  have hin0 : 0 ≤ 2 * (i : Int) + 1 := by omega
  have hto : (2 * (i : Int) + 1).toNat = 2 * i + 1 := by omega
  have hi128 : (i : Int) ≤ 128 := by omega
  have HN := Lib.hid hn2
  clear hi hE hR1 hx hn2 hm
  go_enter Try.func36, Try.ntmps36
  go_wp2_with (fail)
  go_ret
  exact ⟨rfl, (Below.refl _ _).alloc (Nat.le_refl _) _⟩
end Go.Proofs.Ytglpaihadongkaa
