/-
  DERIVED. isNode, Valid, fault of the landed package (stage 5). (The ways by gen/genBJ.py.)
-/
import Derived.Test.YtglpaihadongkaaBI
namespace Go.Proofs.Ytglpaihadongkaa
open Go.RowKit Go.Shelf
set_option maxRecDepth 100000
set_option linter.unusedSimpArgs false
set_option linter.unusedVariables false

/-- Nodes are numbers below N; arcs. -/
def ndOk (N x : Int) : Bool := decide (0 ≤ x) && decide (x < N)
def arOk (N : Int) (a : Int × Int × Int) : Bool := ndOk N a.1 && (ndOk N a.2.1 && (!(a.1 == a.2.1) && (!decide (a.2.2 < 0) && !decide (100000000 < a.2.2))))
def ntOk (N : Int) (l : List (Int × Int × Int)) : Bool := !decide (N < 2) && (!decide (64 < N) && (!decide (128 < (l.length : Int)) && l.all (arOk N)))
/-- The error of a net and two nodes. -/
def nfault (N : Int) (l : List (Int × Int × Int)) (s t : Int) : Int := if ntOk N l = true then (if ndOk N s && (ndOk N t && !(s == t)) then 0 else 2) else 1
def ntV (N : Int) (L : Value) : Value := .agg #[.int .i64 N, L]
theorem ndOk_iff {N x : Int} : ndOk N x = true ↔ 0 ≤ x ∧ x < N := by simp [ndOk]
theorem arOk_iff {N : Int} {a : Int × Int × Int} : arOk N a = true ↔ (0 ≤ a.1 ∧ a.1 < N) ∧ (0 ≤ a.2.1 ∧ a.2.1 < N) ∧ a.1 ≠ a.2.1 ∧ 0 ≤ a.2.2 ∧ a.2.2 ≤ 100000000 := by
  simp [arOk, ndOk]
theorem ntOk_iff {N : Int} {l : List (Int × Int × Int)} : ntOk N l = true ↔ 2 ≤ N ∧ N ≤ 64 ∧ l.length ≤ 128 ∧ ∀ a ∈ l, arOk N a = true := by
  simp [ntOk]
  omega
set_option maxHeartbeats 4000000 in
theorem c_isNode (N x : Int) (A : Option Addr) (n c : Nat) (r : Bool) (hr : ndOk N x = r) (w : World) :
    Calls Try.prog 34 #[ntV N (.slice A n c), .int .i64 x] w fun e w' => e = .returned (.bool r) ∧ Below w.heap.size w w' := by
  unfold ntV
  unfold ndOk at hr
  rcases h1 : decide (0 ≤ x) with _ | _
  · rw [h1] at hr
    obtain rfl : false = r := hr
    go_enter Try.func34, Try.ntmps34
    go_wp2
    go_ret
    exact ⟨rfl, (Below.refl _ _).alloc (Nat.le_refl _) _⟩
  · rw [h1] at hr
    obtain rfl : decide (x < N) = r := hr
    go_enter Try.func34, Try.ntmps34
    go_wp2
    go_ret
    exact ⟨rfl, (Below.refl _ _).alloc (Nat.le_refl _) _⟩
theorem all_take_succ {α : Type} {f : α → Bool} {l : List α} {k : Nat} {x : α} (h : l[k]? = some x) (h1 : (l.take k).all f = true) (h2 : f x = true) : (l.take (k + 1)).all f = true := by
  rw [take_snoc h, List.all_append, h1]; simp [h2]
theorem all_false {α : Type} {f : α → Bool} {l : List α} {k : Nat} {x : α} (h : l[k]? = some x) (h2 : f x = false) : l.all f = false := by
  rw [List.all_eq_false]; exact ⟨x, List.mem_of_getElem? h, by rw [h2]; simp⟩
set_option maxHeartbeats 8000000 in
theorem c_Valid (N : Int) (L : Value) (l : List (Int × Int × Int)) (w : World) (hL : PtSl w L l) (r : Bool) (hr : ntOk N l = r) :
    Calls Try.prog 16 #[ntV N L] w fun e w' => e = .returned (.bool r) ∧ Below w.heap.size w w' := by
  obtain ⟨A, c, rfl, hc1, hc2⟩ := hL.shape
  unfold maxLen at hc2
  unfold ntV
  obtain ⟨W, hW⟩ : ∃ W, W = w.alloc (.cells #[.int .i64 N, .slice A l.length c] 24) := ⟨_, rfl⟩
  have B0 : Below w.heap.size w W := by subst hW; exact (Below.refl _ _).alloc (Nat.le_refl _) _
  have HB0 := Lib.hid B0
  have HL := Lib.hid (hL.on B0 (Nat.le_refl _))
  have HX := Lib.hid (show W.heap[w.heap.size]? = some (.cells #[.int .i64 N, .slice A l.length c] 24 (0, 0)) by subst hW; exact heap_alloc_new _ _)
  have x0 : W.cell? ⟨w.heap.size, 0, none⟩ = some (.int .i64 N) := cell_of HX.out rfl
  have x1 : W.cell? ⟨w.heap.size, 1, none⟩ = some (.slice A l.length c) := cell_of HX.out rfl
  unfold ntOk at hr
  have HR := Lib.hid hr
  clear B0 hL hr
  rw [hW] at x0 x1
  rcases h1 : decide (N < 2) with _ | _
  rotate_left
  · obtain rfl : false = r := by have := HR.out; rw [h1] at this; exact this
    go_enter Try.func16, Try.ntmps16
    go_wp2_with (fail)
    go_ret
    rw [← hW]
    exact ⟨rfl, HB0.out⟩
  rcases h2 : decide (64 < N) with _ | _
  rotate_left
  · obtain rfl : false = r := by have := HR.out; rw [h1, h2] at this; exact this
    go_enter Try.func16, Try.ntmps16
    go_wp2_with (fail)
    go_ret
    rw [← hW]
    exact ⟨rfl, HB0.out⟩
  rcases h3 : decide (128 < (l.length : Int)) with _ | _
  rotate_left
  · obtain rfl : false = r := by have := HR.out; rw [h1, h2, h3] at this; exact this
    go_enter Try.func16, Try.ntmps16
    go_wp2_with (fail)
    go_ret
    rw [← hW]
    exact ⟨rfl, HB0.out⟩
  have HA := Lib.hid (show l.all (arOk N) = r by have := HR.out; rw [h1, h2, h3] at this; exact this)
  have hl128 : l.length ≤ 128 := by have := of_decide_eq_false h3; omega
  go_enter Try.func16, Try.ntmps16
  go_wp2_with (fail)
  rw [← hW]
  clear hW x0 x1
  go_loopw [22] (fun i wr => ∃ k : Nat, k ≤ l.length ∧ i = .int .i64 (k : Int) ∧ Hid (Below W.heap.size W wr) ∧ Hid ((l.take k).all (arOk N) = true)) (fun i _ => l.length - (intOf i).toNat)
  case atStart => exact ⟨0, Nat.zero_le _, rfl, Lib.hid (Below.refl _ _), Lib.hid rfl⟩
  case round =>
    obtain ⟨k, hk, rfl, hB, hall⟩ := hrel
    have hki : ((k : Nat) : Int).toNat = k := by omega
    by_cases hlt : k < l.length
    · obtain ⟨⟨u, v, cp⟩, hx⟩ : ∃ p, l[k]? = some p := ⟨_, List.getElem?_eq_getElem hlt⟩
      obtain ⟨b, o, c', e, hb, -, -, y0, y1, y2⟩ := (HL.out.on hB.out (Nat.le_refl _)).at_ hx
      injection e with e1 hle e2
      clear hle
      subst e1 e2
      obtain ⟨V, hV⟩ : ∃ V, V = wr.alloc (.cells #[.int .i64 u, .int .i64 v, .int .i64 cp] 39) := ⟨_, rfl⟩
      have hBV : Below W.heap.size W V := by subst hV; exact hB.out.alloc hB.out.size _
      have HBV := Lib.hid hBV
      have HVA := Lib.hid (show V.heap[wr.heap.size]? = some (.cells #[.int .i64 u, .int .i64 v, .int .i64 cp] 39 (0, 0)) by subst hV; exact heap_alloc_new _ _)
      have HVN := Lib.hid ((hBV.block _ (at_lt HX.out)).trans HX.out)
      have v0 : V.cell? ⟨w.heap.size, 0, none⟩ = some (.int .i64 N) := cell_of HVN.out rfl
      have v1 : V.cell? ⟨w.heap.size, 1, none⟩ = some (.slice (some ⟨b, o, none⟩) l.length c) := cell_of HVN.out rfl
      have a0 : V.cell? ⟨wr.heap.size, 0, none⟩ = some (.int .i64 u) := cell_of HVA.out rfl
      have HXK := Lib.hid hx
      have hzw : W.heap.size ≤ wr.heap.size := hB.out.size
      have hxw := at_lt HX.out
      have HN1 := Lib.hid (fun (r1 : Bool) (h : ndOk N u = r1) (X : World) => c_isNode N u (some ⟨b, o, none⟩) l.length c r1 h X)
      have HN2 := Lib.hid (fun (r1 : Bool) (h : ndOk N v = r1) (X : World) => c_isNode N v (some ⟨b, o, none⟩) l.length c r1 h X)
      unfold ntV at HN1 HN2
      clear hx hb hBV
      rw [hV] at v0 v1 a0
      go_wp2_with (fail)
      rw [← hV] at v0 v1 a0 ⊢
      clear hV y0 y1 y2
      obtain ⟨r4, h4⟩ : ∃ b, ndOk N u = b := ⟨_, rfl⟩
      go_at_call 34
      refine (HN1.out _ h4 _).mono ?_
      rintro e V1 ⟨rfl, hb1⟩
      have HBV1 := Lib.hid (below_join HBV.out hb1 HBV.out.size)
      have HVA1 := Lib.hid ((hb1.block _ (at_lt HVA.out)).trans HVA.out)
      have HVN1 := Lib.hid ((hb1.block _ (at_lt HVN.out)).trans HVN.out)
      have H4 := Lib.hid h4
      clear hb1 v0 v1 a0 h4
      cases r4
      · obtain rfl : false = r := by have h := all_false HXK.out (show arOk N (u, v, cp) = false by unfold arOk; rw [show ndOk N (u, v, cp).1 = false from H4.out]; rfl); rw [HA.out] at h; exact h.symm
        go_wp2_with (fail)
        go_ret
        exact ⟨rfl, below_join HB0.out HBV1.out HB0.out.size⟩
      have v0 : V1.cell? ⟨w.heap.size, 0, none⟩ = some (.int .i64 N) := cell_of HVN1.out rfl
      have v1 : V1.cell? ⟨w.heap.size, 1, none⟩ = some (.slice (some ⟨b, o, none⟩) l.length c) := cell_of HVN1.out rfl
      have a1 : V1.cell? ⟨wr.heap.size, 1, none⟩ = some (.int .i64 v) := cell_of HVA1.out rfl
      obtain ⟨r5, h5⟩ : ∃ b, ndOk N v = b := ⟨_, rfl⟩
      have H5 := Lib.hid h5
      clear h5
      go_wp2_with (fail)
      go_at_call 34
      refine (HN2.out _ H5.out _).mono ?_
      rintro e V2 ⟨rfl, hb2⟩
      have HBV2 := Lib.hid (below_join HBV1.out hb2 HBV1.out.size)
      have HVA2 := Lib.hid ((hb2.block _ (at_lt HVA1.out)).trans HVA1.out)
      clear hb2 v0 v1 a1
      cases r5
      · obtain rfl : false = r := by have h := all_false HXK.out (show arOk N (u, v, cp) = false by unfold arOk; rw [show ndOk N (u, v, cp).1 = true from H4.out, show ndOk N (u, v, cp).2.1 = false from H5.out]; rfl); rw [HA.out] at h; exact h.symm
        go_wp2_with (fail)
        go_ret
        exact ⟨rfl, below_join HB0.out HBV2.out HB0.out.size⟩
      have a0 : V2.cell? ⟨wr.heap.size, 0, none⟩ = some (.int .i64 u) := cell_of HVA2.out rfl
      have a1 : V2.cell? ⟨wr.heap.size, 1, none⟩ = some (.int .i64 v) := cell_of HVA2.out rfl
      have a2 : V2.cell? ⟨wr.heap.size, 2, none⟩ = some (.int .i64 cp) := cell_of HVA2.out rfl
      rcases h6 : (u == v) with _ | _
      rotate_left
      · obtain rfl : false = r := by have h := all_false HXK.out (show arOk N (u, v, cp) = false by unfold arOk; rw [show ndOk N (u, v, cp).1 = true from H4.out, show ndOk N (u, v, cp).2.1 = true from H5.out]; show (true && (true && (!(u == v) && _))) = false; rw [h6]; rfl); rw [HA.out] at h; exact h.symm
        go_wp2_with (fail)
        go_ret
        exact ⟨rfl, below_join HB0.out HBV2.out HB0.out.size⟩
      rcases h7 : decide (cp < 0) with _ | _
      rotate_left
      · obtain rfl : false = r := by have h := all_false HXK.out (show arOk N (u, v, cp) = false by unfold arOk; rw [show ndOk N (u, v, cp).1 = true from H4.out, show ndOk N (u, v, cp).2.1 = true from H5.out]; show (true && (true && (!(u == v) && (!decide (cp < 0) && _)))) = false; rw [h6, h7]; rfl); rw [HA.out] at h; exact h.symm
        go_wp2_with (fail)
        go_ret
        exact ⟨rfl, below_join HB0.out HBV2.out HB0.out.size⟩
      rcases h8 : decide (100000000 < cp) with _ | _
      rotate_left
      · obtain rfl : false = r := by have h := all_false HXK.out (show arOk N (u, v, cp) = false by unfold arOk; rw [show ndOk N (u, v, cp).1 = true from H4.out, show ndOk N (u, v, cp).2.1 = true from H5.out]; show (true && (true && (!(u == v) && (!decide (cp < 0) && !decide (100000000 < cp))))) = false; rw [h6, h7, h8]; rfl); rw [HA.out] at h; exact h.symm
        go_wp2_with (fail)
        go_ret
        exact ⟨rfl, below_join HB0.out HBV2.out HB0.out.size⟩
      have HAL := Lib.hid (all_take_succ HXK.out hall.out (show arOk N (u, v, cp) = true by unfold arOk; rw [show ndOk N (u, v, cp).1 = true from H4.out, show ndOk N (u, v, cp).2.1 = true from H5.out]; show (true && (true && (!(u == v) && (!decide (cp < 0) && !decide (100000000 < cp))))) = true; rw [h6, h7, h8]; rfl))
      go_wp2_with (fail)
      go_roundw
      case rel => exact ⟨k + 1, by omega, by go_num, HBV2, HAL⟩
      case measure => simp only [intOf]; omega
    · obtain rfl : k = l.length := by omega
      obtain rfl : true = r := by have h := hall.out; rw [List.take_length] at h; rw [HA.out] at h; exact h.symm
      go_wp2_with (fail)
      go_ret
      exact ⟨rfl, below_join HB0.out hB.out HB0.out.size⟩
end Go.Proofs.Ytglpaihadongkaa
