/-
  DERIVED. Several texts in one.
-/
import Derived.Test.YtidpiokkfnhobaaGreatPV52
import Derived.Laws.EntriesVeiled
import Derived.Test.YtidpiokkfnhobaaGreatPV51
import Derived.Deep.Onto
set_option linter.unusedVariables false
set_option linter.unusedSimpArgs false

namespace Go.Proofs.YtidpiokkfnhobaaGreat.v5
open Go.RowKit Go.Shelf
set_option maxRecDepth 100000
set_option linter.unusedSimpArgs false
set_option linter.unusedVariables false

/-- What send leaves. -/
def SdPost (r : Rs) (s t : Nat) (l : List Ar) (W : World) (e : Ending) (w' : World) : Prop :=
  ∃ d l', e = .returned (.int .i64 d) ∧ 0 ≤ d ∧ ends l' = ends l ∧ Fits l' ∧ (∀ n, gain l' n = gain l n + ((if s = n then d else 0) - (if t = n then d else 0))) ∧ (d = 0 → l' = l ∧ ¬ Reach l s t) ∧ Row w' r.bR r.oR (rooms l') ∧ Out (fun k => k = r.bR) W w'
set_option maxHeartbeats 8000000 in
theorem c_send (r : Rs) (N s t : Nat) (l : List Ar) (hN : 2 ≤ N ∧ N ≤ 64) (hs : s < N) (ht : t < N) (hl : l.length ≤ 128) (hnodes : ∀ a ∈ l, a.u < N ∧ a.v < N ∧ a.cap ≤ 100000000) (hfits : Fits l) (hsh : RShape r N l) (W : World) (hbR : r.bR < W.heap.size) (hfx : ∀ Y, KpG (fun k => k ≠ r.bR) W Y → RFix Y r N l) (hrr : Row W r.bR r.oR (rooms l)) :
    Calls Tryz.prog 92 #[r.val N, .int .i64 (s : Int), .int .i64 (t : Int)] W (SdPost r s t l W) := by
  have hval : r.val N = .agg #[r.E, r.R, r.M N] := rfl
  obtain ⟨W1, hW1⟩ : ∃ W1, W1 = (W.alloc (.cells #[r.E, r.R, r.M N] 95)).alloc (.cells #[.int .i64 (t : Int)] 3) := ⟨_, rfl⟩
  have hb1 : Below W.heap.size W W1 := by subst hW1; exact ((Below.refl _ _).alloc (Nat.le_refl _) _).alloc (by simp) _
  have hz1 : W1.heap.size = W.heap.size + 2 := by subst hW1; simp
  have hbr : W1.heap[W.heap.size]? = some (.cells #[r.E, r.R, r.M N] 95 (0, 0)) := by subst hW1; exact old_heap _ (heap_alloc_new _ _)
  have hbt : Boxed W1 (W.heap.size + 1) 3 (.int .i64 (t : Int)) := by subst hW1; exact row_new _ _ _ (by simp)
  have hrr1 : Row W1 r.bR r.oR (rooms l) := hrr.kept fun cs t fr hb => (hb1.block _ (at_lt hb)).trans hb
  have HD := Lib.hid (c_distances r N s l hN hs hl (fun a ha => ⟨(hnodes a ha).1, (hnodes a ha).2.1⟩) hsh W1 (by omega) (fun Y hY => hfx Y ⟨Nat.le_trans hb1.size hY.size, fun k cs t fr hk hc => hY.same k cs t fr (by have := at_lt hc; omega) ((hb1.block _ (at_lt hc)).trans hc)⟩) hrr1)
  rw [hval] at HD ⊢
  obtain ⟨A1, n1, c1, hE⟩ := hsh.es
  obtain ⟨A2, n2, c2, hR⟩ := hsh.rs
  have x0 : W1.cell? ⟨W.heap.size, 0, none⟩ = some (.slice A1 n1 c1) := by rw [← hE]; exact cell_of hbr rfl
  have x1 : W1.cell? ⟨W.heap.size, 1, none⟩ = some (.slice A2 n2 c2) := by rw [← hR]; exact cell_of hbr rfl
  have x2 : W1.cell? ⟨W.heap.size, 2, none⟩ = some (.slice (some ⟨r.bM, r.oM, none⟩) N r.cM) := cell_of hbr rfl
  unfold Rs.M at HD hW1 ⊢
  rw [hE, hR] at HD hW1 ⊢
  have HE := Lib.hid hE
  have HR := Lib.hid hR
  have HB1 := Lib.hid hb1
  have HBR := Lib.hid hbr
  have HBT := Lib.hid hbt
  have HRR := Lib.hid hrr1
  have HFX := Lib.hid hfx
  have HND := Lib.hid hnodes
  have HFT := Lib.hid hfits
  have HSH := Lib.hid hsh
  clear hE hR hb1 hbr hbt hrr1 hrr hfx hnodes hfits hsh hval
  rw [hW1] at x0 x1 x2
  go_enter Tryz.func92, Tryz.ntmps92
  go_wp2_with (fail)
  rw [← hW1]
  clear hW1 x0 x1 x2
  go_at_call 115
  refine HD.out.mono ?_
  rintro e w2 ⟨F, g, rfl, hrow, hFl, hfar, hlev, hge, hb2⟩
  obtain ⟨bf, hbf⟩ : ∃ b, b = w2.heap.size := ⟨_, rfl⟩
  have hgb : W.heap.size + 2 ≤ g ∧ g < bf := ⟨by omega, by rw [hbf]; exact hrow.lt (by omega)⟩
  have hw2b : w2.heap.size ≤ bf ∧ bf ≤ w2.heap.size := by omega
  have hzz := hb2.size
  have HB2 := Lib.hid hb2
  have HROW := Lib.hid hrow
  have HFL := Lib.hid hFl
  have HFAR := Lib.hid hfar
  have HLEV := Lib.hid hlev
  have HBF := Lib.hid hbf
  clear hb2 hrow hFl hfar hlev HD hbf
  obtain ⟨FV, hFV⟩ : ∃ v : Value, v = .func (.func 116) #[] #[.pointer (some ⟨W.heap.size + 1, 0, none⟩), .pointer (some ⟨W.heap.size, 0, none⟩), .pointer (some ⟨w2.heap.size, 0, none⟩), .pointer (some ⟨w2.heap.size + 1, 0, none⟩)] := ⟨_, rfl⟩
  have q0 : Boxed ((w2.alloc (.cells #[.slice (some ⟨g, 0, none⟩) N N] 69)).alloc (.cells #[Value.nilFunc] 132)) (w2.heap.size + 1) 132 Value.nilFunc := row_new _ _ _ (by simp)
  have q1 := q0.cell
  have q2 := q0.frozen
  have q3 := (q0.set FV).cell
  rw [hFV] at q3
  have HQ0 := Lib.hid q0
  have HFV := Lib.hid hFV
  clear q0 hFV
  go_wp2_with (fail)
  obtain ⟨W3, hW3⟩ : ∃ W3, W3 = (w2.alloc (.cells #[.slice (some ⟨g, 0, none⟩) N N] 69)).alloc (.cells #[.func (.func 116) #[] #[.pointer (some ⟨W.heap.size + 1, 0, none⟩), .pointer (some ⟨W.heap.size, 0, none⟩), .pointer (some ⟨w2.heap.size, 0, none⟩), .pointer (some ⟨w2.heap.size + 1, 0, none⟩)]] 132) := ⟨_, rfl⟩
  rw [← hW3]
  have hB3 : Below W1.heap.size W1 W3 := by subst hW3; exact (HB2.out.alloc HB2.out.size _).alloc (by have := HB2.out.size; simp; omega) _
  have hB0 : Below W.heap.size W W3 := below_join HB1.out hB3 (by omega)
  have hk3 : ∀ k o, w2.heap[k]? = some o → W3.heap[k]? = some o := fun k o h => by subst hW3; exact old_heap _ (old_heap _ h)
  obtain ⟨sd, hsd⟩ : ∃ sd : Sd, sd = { bt := W.heap.size + 1, br := W.heap.size, bf := w2.heap.size, bo := w2.heap.size + 1, bF := g, oF := 0, cF := N } := ⟨_, rfl⟩
  have hSF : SFxA W3 sd r N t l := by
    intro Y hY
    have hgs : ∀ k, k ≠ r.bR → k ≠ g → GS r sd k := fun k h1 h2 => by rw [hsd]; exact ⟨h1, h2⟩
    have hkk : ∀ (k : Nat) (cs : Array Value) (T : TypeId) (fr : Nat × Nat), k ≠ r.bR → k ≠ g → W3.heap[k]? = some (.cells cs T fr) → Y.heap[k]? = some (.cells cs T fr) := fun k cs T fr h1 h2 h => hY.same k cs T fr (hgs k h1 h2) h
    refine ⟨?_, ?_, ?_, ?_, HFX.out Y ⟨Nat.le_trans hB0.size hY.size, fun k cs t fr hk hc => hkk k cs t fr hk (by have := at_lt hc; omega) ((hB0.block _ (at_lt hc)).trans hc)⟩⟩
    · rw [hsd]; exact hkk _ _ _ _ (by show W.heap.size + 1 ≠ r.bR; omega) (by show W.heap.size + 1 ≠ g; omega) ((hB3.block _ (by show W.heap.size + 1 < _; omega)).trans HBT.out)
    · rw [hsd]; exact hkk _ _ _ _ (by show W.heap.size ≠ r.bR; omega) (by show W.heap.size ≠ g; omega) (((hB3.block _ (by show W.heap.size < _; omega)).trans HBR.out).trans (by unfold Rs.M; rw [HE.out, HR.out]))
    · rw [hsd]; exact hkk _ _ _ _ (by show w2.heap.size ≠ r.bR; omega) (by show w2.heap.size ≠ g; omega) (by subst hW3; exact old_heap _ (heap_alloc_new _ _))
    · rw [hsd]; exact hkk _ _ _ _ (by show w2.heap.size + 1 ≠ r.bR; omega) (by show w2.heap.size + 1 ≠ g; omega) (by subst hW3; exact row_new _ _ _ (by simp))
  have hg3 : g < W3.heap.size := by subst hW3; simp; omega
  have hs0 : ff F s = 0 := (HFAR.out.zero s).2 rfl
  have hc := c_onward r sd N t hN.2 ht (by rw [hsd]; show r.bR ≠ g; omega) (by rw [hsd]; show W.heap.size + 1 ≠ r.bR ∧ W.heap.size + 1 ≠ g ∧ W.heap.size ≠ r.bR ∧ W.heap.size ≠ g ∧ w2.heap.size ≠ r.bR ∧ w2.heap.size ≠ g ∧ w2.heap.size + 1 ≠ r.bR ∧ w2.heap.size + 1 ≠ g; omega) (by rw [hsd]; exact ⟨Nat.le_refl _, by unfold maxLen; show N ≤ _; omega⟩)
    (N + 1) l F s 12800000000 W3 hl HND.out HFT.out HSH.out HFL.out HLEV.out hs (by omega) (by omega) (by omega) (Int.le_refl _) (Nat.lt_of_lt_of_le hbR hB0.size) (by rw [hsd]; exact hg3) hSF (HRR.out.kept fun cs t fr hb => (hB3.block _ (at_lt hb)).trans hb) (by rw [hsd]; exact HROW.out.kept fun cs t fr hb => hk3 _ _ hb)
  rw [hsd] at hc
  have HC := Lib.hid hc
  have HB0 := Lib.hid hB0
  clear hc hSF hsd hW3 hB3 hB0 hk3 q1 q2 q3
  go_at_call 116
  refine HC.out.mono ?_
  rintro e w4 ⟨d, l', F', rfl, ho, hr, -, hout⟩
  have HP := Lib.hid (show SdPost r s t l W (.returned (.int .i64 d)) w4 from
    ⟨d, l', rfl, ho.lo, ho.ends, ho.fits, ho.gain, fun h0 => by
      obtain ⟨e1, -, e3⟩ := ho.none h0
      refine ⟨e1, fun hre => ?_⟩
      exact (HFAR.out.iff t).1 hre (HFAR.out.no_way e3), hr,
      ⟨hout.os.trans HB0.out.os, hout.tape.trans HB0.out.tape, hout.output.trans HB0.out.output, Nat.le_trans HB0.out.size hout.size, fun k o hk hc => hout.same k o (fun hh => by have := at_lt hc; rcases hh with hh | hh; exact hk hh; rw [hh] at this; have : g < W.heap.size := this; omega) ((HB0.out.block _ (at_lt hc)).trans hc)⟩⟩)
  clear ho hr hout HC
  go_wp2_with (fail)
  go_ret
  exact HP.out
end Go.Proofs.YtidpiokkfnhobaaGreat.v5

namespace Go.Proofs.YtidpiokkfnhobaaGreat.v5
open Go.RowKit Go.Shelf
set_option maxRecDepth 100000
set_option linter.unusedSimpArgs false
set_option linter.unusedVariables false

/-- Nodes are numbers below N; arcs. -/
def ndOk (N x : Int) : Bool := decide (0 ≤ x) && decide (x < N)
def arOk (N : Int) (a : Int × Int × Int) : Bool := ndOk N a.1 && (ndOk N a.2.1 && (!(a.1 == a.2.1) && (!decide (a.2.2 < 0) && !decide (100000000 < a.2.2))))
def ntOk (N : Int) (l : List (Int × Int × Int)) : Bool := !decide (N < 2) && (!decide (64 < N) && (!decide (128 < (l.length : Int)) && l.all (arOk N)))
/-- The error of a net and two nodes. -/
def nfault (N : Int) (l : List (Int × Int × Int)) (s t : Int) : Int := if ntOk N l = true then (if ndOk N s && (ndOk N t && !(s == t)) then 0 else 2) else 1
def ntV (N : Int) (L : Value) : Value := .agg #[.int .i64 N, L]
theorem ndOk_iff {N x : Int} : ndOk N x = true ↔ 0 ≤ x ∧ x < N := by simp [ndOk]
theorem arOk_iff {N : Int} {a : Int × Int × Int} : arOk N a = true ↔ (0 ≤ a.1 ∧ a.1 < N) ∧ (0 ≤ a.2.1 ∧ a.2.1 < N) ∧ a.1 ≠ a.2.1 ∧ 0 ≤ a.2.2 ∧ a.2.2 ≤ 100000000 := by
  simp [arOk, ndOk]
theorem ntOk_iff {N : Int} {l : List (Int × Int × Int)} : ntOk N l = true ↔ 2 ≤ N ∧ N ≤ 64 ∧ l.length ≤ 128 ∧ ∀ a ∈ l, arOk N a = true := by
  simp [ntOk]
  omega
set_option maxHeartbeats 4000000 in
theorem c_isNode (N x : Int) (A : Option Addr) (n c : Nat) (r : Bool) (hr : ndOk N x = r) (w : World) :
    Calls Tryz.prog 90 #[ntV N (.slice A n c), .int .i64 x] w fun e w' => e = .returned (.bool r) ∧ Below w.heap.size w w' := by
  unfold ntV
  unfold ndOk at hr
  rcases h1 : decide (0 ≤ x) with _ | _
  · rw [h1] at hr
    obtain rfl : false = r := hr
    go_enter Tryz.func90, Tryz.ntmps90
    go_wp2
    go_ret
    exact ⟨rfl, (Below.refl _ _).alloc (Nat.le_refl _) _⟩
  · rw [h1] at hr
    obtain rfl : decide (x < N) = r := hr
    go_enter Tryz.func90, Tryz.ntmps90
    go_wp2
    go_ret
    exact ⟨rfl, (Below.refl _ _).alloc (Nat.le_refl _) _⟩
theorem all_take_succ {α : Type} {f : α → Bool} {l : List α} {k : Nat} {x : α} (h : l[k]? = some x) (h1 : (l.take k).all f = true) (h2 : f x = true) : (l.take (k + 1)).all f = true := by
  rw [take_snoc h, List.all_append, h1]; simp [h2]
theorem all_false {α : Type} {f : α → Bool} {l : List α} {k : Nat} {x : α} (h : l[k]? = some x) (h2 : f x = false) : l.all f = false := by
  rw [List.all_eq_false]; exact ⟨x, List.mem_of_getElem? h, by rw [h2]; simp⟩
set_option maxHeartbeats 8000000 in
theorem c_Valid (N : Int) (L : Value) (l : List (Int × Int × Int)) (w : World) (hL : PtSl w L l) (r : Bool) (hr : ntOk N l = r) :
    Calls Tryz.prog 89 #[ntV N L] w fun e w' => e = .returned (.bool r) ∧ Below w.heap.size w w' := by
  obtain ⟨A, c, rfl, hc1, hc2⟩ := hL.shape
  unfold maxLen at hc2
  unfold ntV
  obtain ⟨W, hW⟩ : ∃ W, W = w.alloc (.cells #[.int .i64 N, .slice A l.length c] 44) := ⟨_, rfl⟩
  have B0 : Below w.heap.size w W := by subst hW; exact (Below.refl _ _).alloc (Nat.le_refl _) _
  have HB0 := Lib.hid B0
  have HL := Lib.hid (hL.on B0 (Nat.le_refl _))
  have HX := Lib.hid (show W.heap[w.heap.size]? = some (.cells #[.int .i64 N, .slice A l.length c] 44 (0, 0)) by subst hW; exact heap_alloc_new _ _)
  have x0 : W.cell? ⟨w.heap.size, 0, none⟩ = some (.int .i64 N) := cell_of HX.out rfl
  have x1 : W.cell? ⟨w.heap.size, 1, none⟩ = some (.slice A l.length c) := cell_of HX.out rfl
  unfold ntOk at hr
  have HR := Lib.hid hr
  clear B0 hL hr
  rw [hW] at x0 x1
  rcases h1 : decide (N < 2) with _ | _
  rotate_left
  · obtain rfl : false = r := by have := HR.out; rw [h1] at this; exact this
    go_enter Tryz.func89, Tryz.ntmps89
    go_wp2_with (fail)
    go_ret
    rw [← hW]
    exact ⟨rfl, HB0.out⟩
  rcases h2 : decide (64 < N) with _ | _
  rotate_left
  · obtain rfl : false = r := by have := HR.out; rw [h1, h2] at this; exact this
    go_enter Tryz.func89, Tryz.ntmps89
    go_wp2_with (fail)
    go_ret
    rw [← hW]
    exact ⟨rfl, HB0.out⟩
  rcases h3 : decide (128 < (l.length : Int)) with _ | _
  rotate_left
  · obtain rfl : false = r := by have := HR.out; rw [h1, h2, h3] at this; exact this
    go_enter Tryz.func89, Tryz.ntmps89
    go_wp2_with (fail)
    go_ret
    rw [← hW]
    exact ⟨rfl, HB0.out⟩
  have HA := Lib.hid (show l.all (arOk N) = r by have := HR.out; rw [h1, h2, h3] at this; exact this)
  have hl128 : l.length ≤ 128 := by have := of_decide_eq_false h3; omega
  go_enter Tryz.func89, Tryz.ntmps89
  go_wp2_with (fail)
  rw [← hW]
  clear hW x0 x1
  go_loopw [22] (fun i wr => ∃ k : Nat, k ≤ l.length ∧ i = .int .i64 (k : Int) ∧ Hid (Below W.heap.size W wr) ∧ Hid ((l.take k).all (arOk N) = true)) (fun i _ => l.length - (intOf i).toNat)
  case atStart => exact ⟨0, Nat.zero_le _, rfl, Lib.hid (Below.refl _ _), Lib.hid rfl⟩
  case round =>
    obtain ⟨k, hk, rfl, hB, hall⟩ := hrel
    have hki : ((k : Nat) : Int).toNat = k := by omega
    by_cases hlt : k < l.length
    · obtain ⟨⟨u, v, cp⟩, hx⟩ : ∃ p, l[k]? = some p := ⟨_, List.getElem?_eq_getElem hlt⟩
      obtain ⟨b, o, c', e, hb, -, -, y0, y1, y2⟩ := (HL.out.on hB.out (Nat.le_refl _)).at_ hx
      injection e with e1 hle e2
      clear hle
      subst e1 e2
      obtain ⟨V, hV⟩ : ∃ V, V = wr.alloc (.cells #[.int .i64 u, .int .i64 v, .int .i64 cp] 67) := ⟨_, rfl⟩
      have hBV : Below W.heap.size W V := by subst hV; exact hB.out.alloc hB.out.size _
      have HBV := Lib.hid hBV
      have HVA := Lib.hid (show V.heap[wr.heap.size]? = some (.cells #[.int .i64 u, .int .i64 v, .int .i64 cp] 67 (0, 0)) by subst hV; exact heap_alloc_new _ _)
      have HVN := Lib.hid ((hBV.block _ (at_lt HX.out)).trans HX.out)
      have v0 : V.cell? ⟨w.heap.size, 0, none⟩ = some (.int .i64 N) := cell_of HVN.out rfl
      have v1 : V.cell? ⟨w.heap.size, 1, none⟩ = some (.slice (some ⟨b, o, none⟩) l.length c) := cell_of HVN.out rfl
      have a0 : V.cell? ⟨wr.heap.size, 0, none⟩ = some (.int .i64 u) := cell_of HVA.out rfl
      have HXK := Lib.hid hx
      have hzw : W.heap.size ≤ wr.heap.size := hB.out.size
      have hxw := at_lt HX.out
      have HN1 := Lib.hid (fun (r1 : Bool) (h : ndOk N u = r1) (X : World) => c_isNode N u (some ⟨b, o, none⟩) l.length c r1 h X)
      have HN2 := Lib.hid (fun (r1 : Bool) (h : ndOk N v = r1) (X : World) => c_isNode N v (some ⟨b, o, none⟩) l.length c r1 h X)
      unfold ntV at HN1 HN2
      clear hx hb hBV
      rw [hV] at v0 v1 a0
      go_wp2_with (fail)
      rw [← hV] at v0 v1 a0 ⊢
      clear hV y0 y1 y2
      obtain ⟨r4, h4⟩ : ∃ b, ndOk N u = b := ⟨_, rfl⟩
      go_at_call 90
      refine (HN1.out _ h4 _).mono ?_
      rintro e V1 ⟨rfl, hb1⟩
      have HBV1 := Lib.hid (below_join HBV.out hb1 HBV.out.size)
      have HVA1 := Lib.hid ((hb1.block _ (at_lt HVA.out)).trans HVA.out)
      have HVN1 := Lib.hid ((hb1.block _ (at_lt HVN.out)).trans HVN.out)
      have H4 := Lib.hid h4
      clear hb1 v0 v1 a0 h4
      cases r4
      · obtain rfl : false = r := by have h := all_false HXK.out (show arOk N (u, v, cp) = false by unfold arOk; rw [show ndOk N (u, v, cp).1 = false from H4.out]; rfl); rw [HA.out] at h; exact h.symm
        go_wp2_with (fail)
        go_ret
        exact ⟨rfl, below_join HB0.out HBV1.out HB0.out.size⟩
      have v0 : V1.cell? ⟨w.heap.size, 0, none⟩ = some (.int .i64 N) := cell_of HVN1.out rfl
      have v1 : V1.cell? ⟨w.heap.size, 1, none⟩ = some (.slice (some ⟨b, o, none⟩) l.length c) := cell_of HVN1.out rfl
      have a1 : V1.cell? ⟨wr.heap.size, 1, none⟩ = some (.int .i64 v) := cell_of HVA1.out rfl
      obtain ⟨r5, h5⟩ : ∃ b, ndOk N v = b := ⟨_, rfl⟩
      have H5 := Lib.hid h5
      clear h5
      go_wp2_with (fail)
      go_at_call 90
      refine (HN2.out _ H5.out _).mono ?_
      rintro e V2 ⟨rfl, hb2⟩
      have HBV2 := Lib.hid (below_join HBV1.out hb2 HBV1.out.size)
      have HVA2 := Lib.hid ((hb2.block _ (at_lt HVA1.out)).trans HVA1.out)
      clear hb2 v0 v1 a1
      cases r5
      · obtain rfl : false = r := by have h := all_false HXK.out (show arOk N (u, v, cp) = false by unfold arOk; rw [show ndOk N (u, v, cp).1 = true from H4.out, show ndOk N (u, v, cp).2.1 = false from H5.out]; rfl); rw [HA.out] at h; exact h.symm
        go_wp2_with (fail)
        go_ret
        exact ⟨rfl, below_join HB0.out HBV2.out HB0.out.size⟩
      have a0 : V2.cell? ⟨wr.heap.size, 0, none⟩ = some (.int .i64 u) := cell_of HVA2.out rfl
      have a1 : V2.cell? ⟨wr.heap.size, 1, none⟩ = some (.int .i64 v) := cell_of HVA2.out rfl
      have a2 : V2.cell? ⟨wr.heap.size, 2, none⟩ = some (.int .i64 cp) := cell_of HVA2.out rfl
      rcases h6 : (u == v) with _ | _
      rotate_left
      · obtain rfl : false = r := by have h := all_false HXK.out (show arOk N (u, v, cp) = false by unfold arOk; rw [show ndOk N (u, v, cp).1 = true from H4.out, show ndOk N (u, v, cp).2.1 = true from H5.out]; show (true && (true && (!(u == v) && _))) = false; rw [h6]; rfl); rw [HA.out] at h; exact h.symm
        go_wp2_with (fail)
        go_ret
        exact ⟨rfl, below_join HB0.out HBV2.out HB0.out.size⟩
      rcases h7 : decide (cp < 0) with _ | _
      rotate_left
      · obtain rfl : false = r := by have h := all_false HXK.out (show arOk N (u, v, cp) = false by unfold arOk; rw [show ndOk N (u, v, cp).1 = true from H4.out, show ndOk N (u, v, cp).2.1 = true from H5.out]; show (true && (true && (!(u == v) && (!decide (cp < 0) && _)))) = false; rw [h6, h7]; rfl); rw [HA.out] at h; exact h.symm
        go_wp2_with (fail)
        go_ret
        exact ⟨rfl, below_join HB0.out HBV2.out HB0.out.size⟩
      rcases h8 : decide (100000000 < cp) with _ | _
      rotate_left
      · obtain rfl : false = r := by have h := all_false HXK.out (show arOk N (u, v, cp) = false by unfold arOk; rw [show ndOk N (u, v, cp).1 = true from H4.out, show ndOk N (u, v, cp).2.1 = true from H5.out]; show (true && (true && (!(u == v) && (!decide (cp < 0) && !decide (100000000 < cp))))) = false; rw [h6, h7, h8]; rfl); rw [HA.out] at h; exact h.symm
        go_wp2_with (fail)
        go_ret
        exact ⟨rfl, below_join HB0.out HBV2.out HB0.out.size⟩
      have HAL := Lib.hid (all_take_succ HXK.out hall.out (show arOk N (u, v, cp) = true by unfold arOk; rw [show ndOk N (u, v, cp).1 = true from H4.out, show ndOk N (u, v, cp).2.1 = true from H5.out]; show (true && (true && (!(u == v) && (!decide (cp < 0) && !decide (100000000 < cp))))) = true; rw [h6, h7, h8]; rfl))
      go_wp2_with (fail)
      go_roundw
      case rel => exact ⟨k + 1, by omega, by go_num, HBV2, HAL⟩
      case measure => simp only [intOf]; omega
    · obtain rfl : k = l.length := by omega
      obtain rfl : true = r := by have h := hall.out; rw [List.take_length] at h; rw [HA.out] at h; exact h.symm
      go_wp2_with (fail)
      go_ret
      exact ⟨rfl, below_join HB0.out hB.out HB0.out.size⟩
end Go.Proofs.YtidpiokkfnhobaaGreat.v5

namespace Go.Proofs.YtidpiokkfnhobaaGreat.v5
open Go.RowKit Go.Shelf
set_option maxRecDepth 100000
set_option linter.unusedSimpArgs false
set_option linter.unusedVariables false

set_option maxHeartbeats 8000000 in
theorem c_fault (N : Int) (L : Value) (l : List (Int × Int × Int)) (s t : Int) (w : World) (hL : PtSl w L l) (r : Int) (hr : nfault N l s t = r) :
    Calls Tryz.prog 55 #[ntV N L, .int .i64 s, .int .i64 t] w fun e w' => e = .returned (.int .i64 r) ∧ Below w.heap.size w w' := by
  obtain ⟨A, c, rfl, hc1, hc2⟩ := hL.shape
  unfold maxLen at hc2
  obtain ⟨W, hW⟩ : ∃ W, W = w.alloc (.cells #[.int .i64 N, .slice A l.length c] 44) := ⟨_, rfl⟩
  have B0 : Below w.heap.size w W := by subst hW; exact (Below.refl _ _).alloc (Nat.le_refl _) _
  have HB0 := Lib.hid B0
  have HL := Lib.hid (hL.on B0 (Nat.le_refl _))
  have HX := Lib.hid (show W.heap[w.heap.size]? = some (.cells #[.int .i64 N, .slice A l.length c] 44 (0, 0)) by subst hW; exact heap_alloc_new _ _)
  have x0 : W.cell? ⟨w.heap.size, 0, none⟩ = some (.int .i64 N) := cell_of HX.out rfl
  have x1 : W.cell? ⟨w.heap.size, 1, none⟩ = some (.slice A l.length c) := cell_of HX.out rfl
  unfold nfault at hr
  obtain ⟨r0, h0⟩ : ∃ b, ntOk N l = b := ⟨_, rfl⟩
  obtain ⟨r1, h1⟩ : ∃ b, ndOk N s = b := ⟨_, rfl⟩
  obtain ⟨r2, h2⟩ : ∃ b, ndOk N t = b := ⟨_, rfl⟩
  obtain ⟨r3, h3⟩ : ∃ b, (s == t) = b := ⟨_, rfl⟩
  rw [h0, h1, h2, h3] at hr
  have HV := Lib.hid (c_Valid N (.slice A l.length c) l W HL.out r0 h0)
  have HS := Lib.hid (fun X => c_isNode N s A l.length c r1 h1 X)
  have HT := Lib.hid (fun X => c_isNode N t A l.length c r2 h2 X)
  unfold ntV at HV HS HT ⊢
  clear B0 hL h0 h1 h2
  rw [hW] at x0 x1
  go_enter Tryz.func55, Tryz.ntmps55
  go_wp2_with (fail)
  rw [← hW]
  clear hW x0 x1
  go_at_call 89
  refine HV.out.mono ?_
  rintro e V1 ⟨rfl, hb1⟩
  have HB1 := Lib.hid (below_join HB0.out hb1 HB0.out.size)
  have HX1 := Lib.hid ((hb1.block _ (at_lt HX.out)).trans HX.out)
  clear hb1
  cases r0
  · obtain rfl : 1 = r := by simpa using hr
    go_wp2_with (fail)
    go_ret
    exact ⟨rfl, HB1.out⟩
  have v0 : V1.cell? ⟨w.heap.size, 0, none⟩ = some (.int .i64 N) := cell_of HX1.out rfl
  have v1 : V1.cell? ⟨w.heap.size, 1, none⟩ = some (.slice A l.length c) := cell_of HX1.out rfl
  go_wp2_with (fail)
  go_at_call 90
  refine (HS.out _).mono ?_
  rintro e V2 ⟨rfl, hb2⟩
  have HB2 := Lib.hid (below_join HB1.out hb2 HB1.out.size)
  have HX2 := Lib.hid ((hb2.block _ (at_lt HX1.out)).trans HX1.out)
  clear hb2 v0 v1
  cases r1
  · obtain rfl : 2 = r := by simpa using hr
    go_wp2_with (fail)
    go_ret
    exact ⟨rfl, HB2.out⟩
  have v0 : V2.cell? ⟨w.heap.size, 0, none⟩ = some (.int .i64 N) := cell_of HX2.out rfl
  have v1 : V2.cell? ⟨w.heap.size, 1, none⟩ = some (.slice A l.length c) := cell_of HX2.out rfl
  go_wp2_with (fail)
  go_at_call 90
  refine (HT.out _).mono ?_
  rintro e V3 ⟨rfl, hb3⟩
  have HB3 := Lib.hid (below_join HB2.out hb3 HB2.out.size)
  clear hb3 v0 v1
  cases r2
  · obtain rfl : 2 = r := by simpa using hr
    go_wp2_with (fail)
    go_ret
    exact ⟨rfl, HB3.out⟩
  cases r3
  · obtain rfl : 0 = r := by simpa using hr
    go_wp2_with (fail)
    go_ret
    exact ⟨rfl, HB3.out⟩
  · obtain rfl : 2 = r := by simpa using hr
    go_wp2_with (fail)
    go_ret
    exact ⟨rfl, HB3.out⟩
/-- What an arc carries. -/
theorem c_carried (r : Rs) (N i : Nat) (l : List Ar) (a : Ar) (hi : l[i]? = some a) (hl : l.length ≤ 128) (hsh : RShape r N l) (W : World) (hrr : Row W r.bR r.oR (rooms l)) :
    Calls Tryz.prog 57 #[r.val N, .int .i64 (i : Int)] W fun e w' => e = .returned (.int .i64 a.x) ∧ Below W.heap.size W w' := by
  have hil := (List.getElem?_eq_some_iff.1 hi).1
  obtain ⟨hR1, hR2, hR3⟩ := hsh.sr (by omega)
  obtain ⟨A1, n1, c1, hE⟩ := hsh.es
  have hx := (hrr (2 * i + 1) _ (rooms_get (by omega))).1
  have hm : mvRoom l (2 * i + 1) = a.x := by
    unfold mvRoom
    rw [show (2 * i + 1) / 2 = i by omega, hi]
    show (if (2 * i + 1) % 2 = 0 then _ else _) = _
    rw [if_neg (by omega)]
  rw [hm] at hx
  have hx' := alloc_cell hx
  unfold Rs.val Rs.M
  rw [hE, hR1]
  obtain ⟨n2, hn2⟩ : ∃ n, n = 2 * l.length := ⟨_, rfl⟩
  rw [← hn2] at hR2 ⊢
  unfold maxLen at hR3
  have hin : 2 * (i : Int) + 1 < (n2 : Int) := by omega
  have hin0 : 0 ≤ 2 * (i : Int) + 1 := by omega
  have hto : (2 * (i : Int) + 1).toNat = 2 * i + 1 := by omega
  have hi128 : (i : Int) ≤ 128 := by omega
  have HN := Lib.hid hn2
  clear hi hE hR1 hx hn2 hm
  go_enter Tryz.func57, Tryz.ntmps57
  go_wp2_with (fail)
  go_ret
  exact ⟨rfl, (Below.refl _ _).alloc (Nat.le_refl _) _⟩
end Go.Proofs.YtidpiokkfnhobaaGreat.v5

namespace Go.Proofs.YtidpiokkfnhobaaGreat.v5
open Go.RowKit Go.Shelf
set_option maxRecDepth 100000
set_option linter.unusedSimpArgs false
set_option linter.unusedVariables false

/-- Where they stand: the first two in a struct, the others in an array. -/
def plW (rb bm : Nat) : Nat → Addr
  | 0 => ⟨rb, 0, none⟩
  | 1 => ⟨rb, 1, none⟩
  | n + 2 => ⟨bm, n, none⟩
theorem plW_ne {rb bm i j : Nat} (h : i ≠ j) (hb : bm ≠ rb) : plW rb bm i ≠ plW rb bm j := by
  intro e
  match i, j with
  | 0, 0 => exact h rfl
  | 0, 1 => simp [plW] at e
  | 0, n + 2 => simp [plW] at e; exact hb e.1.symm
  | 1, 0 => simp [plW] at e
  | 1, 1 => exact h rfl
  | 1, n + 2 => simp [plW] at e; exact hb e.1.symm
  | n + 2, 0 => simp [plW] at e; exact hb e.1
  | n + 2, 1 => simp [plW] at e; exact hb e.1
  | n + 2, m + 2 => simp [plW] at e; exact h (by rw [e])
theorem plW_block (rb bm i : Nat) : (plW rb bm i).block = rb ∨ (plW rb bm i).block = bm := by
  match i with
  | 0 => exact .inl rfl
  | 1 => exact .inl rfl
  | n + 2 => exact .inr rfl
structure WhO (X : World) (base rb bm : Nat) (vs : List Value) (c : Nat → List Int) : Prop where
  own : ∀ i v, vs[i]? = some v → X.ownsRow base 3 1 v (c i).length (ints (c i))
  sep : ∀ (i j : Nat) (v u : Value) (g : Nat), i ≠ j → vs[i]? = some v → vs[j]? = some u → v.ownBlock = some g → u.ownBlock ≠ some g
  place : ∀ i v, vs[i]? = some v → X.cell? (plW rb bm i) = some v ∧ X.frozen? (plW rb bm i) = false
theorem ints_append (l m : List Int) : ints (l ++ m) = ints l ++ ints m := by simp [ints]
theorem ownsRow_lt {X : World} {base : Nat} {e : TypeId} {size n : Nat} {v : Value} {xs : List Value} (h : X.ownsRow base e size v n xs) {g : Nat} (hg : v.ownBlock = some g) : base ≤ g ∧ g < X.heap.size := by
  obtain ⟨k1, ⟨e, -⟩ | ⟨g', cap', cur, e, k3, k4, k⟩⟩ := h
  · subst e; cases hg
  · subst e
    obtain rfl : g' = g := by simpa [Value.ownBlock] using hg
    exact ⟨k3, at_lt k4⟩
section
variable {X Y : World} {base rb bm : Nat} {vs : List Value} {c : Nat → List Int}
theorem WhO.moved (h : WhO X base rb bm vs c) (hk : ∀ (k : Nat) (cs : Array Value) (T : TypeId) (fr : Nat × Nat), X.heap[k]? = some (.cells cs T fr) → Y.heap[k]? = some (.cells cs T fr)) : WhO Y base rb bm vs c := by
  refine ⟨fun i v hv => own_row_kept (h.own i v hv) fun g cur _ hc => hk _ _ _ _ hc, h.sep, fun i v hv => ?_⟩
  obtain ⟨h1, h2⟩ := h.place i v hv
  have hb : ∃ cs t fr, X.heap[(plW rb bm i).block]? = some (.cells cs t fr) := by
    obtain ⟨ob, hob, hcl⟩ := cells_of_cell h1
    cases ob with
    | cells cs t fr => exact ⟨cs, t, fr, hob⟩
    | _ => cases hcl
  obtain ⟨cs, t, fr, hb⟩ := hb
  have e := (hk _ _ _ _ hb).trans hb.symm
  exact ⟨(World.cell?_of_block e).trans h1, (World.frozen?_of_block e).trans h2⟩
theorem WhO.alloc (h : WhO X base rb bm vs c) (o : Obj) : WhO (X.alloc o) base rb bm vs c := h.moved fun k cs t fr hk => old_heap o hk
theorem WhO.drew (h : WhO X base rb bm vs c) : WhO X.drew base rb bm vs c := h.moved fun k cs t fr hk => hk
/-- One of them grows, and is stored where it stands. -/
theorem WhO.grow {Z : World} {i n g cap : Nat} {v : Value} {new : List Int} {lit : Obj} (h : WhO X base rb bm vs c) (hi : vs[i]? = some v) (hn : n = (c i).length + new.length) (hbm : bm ≠ rb) (hb : rb < base ∧ bm < base) (hbX : base ≤ X.heap.size)
    (ho : Z.ownsRow base 3 1 (.slice (some ⟨g, 0, none⟩) n cap) n (ints (c i) ++ ints new)) (hg : (X.alloc lit).grownBy Z v.ownBlock) (hat : v.ownBlock = some g ∨ g = X.heap.size + 1) :
    WhO (Z.setCell (plW rb bm i) (.slice (some ⟨g, 0, none⟩) n cap)) base rb bm (vs.set i (.slice (some ⟨g, 0, none⟩) n cap)) (upc c i new) ∧ Z.cell? (plW rb bm i) = some v ∧ Z.frozen? (plW rb bm i) = false := by
  subst hn
  have hil := (List.getElem?_eq_some_iff.1 hi).1
  have hvb := fun k hk => ownsRow_lt (h.own i v hi) (g := k) hk
  have hkeep : ∀ (k : Nat) (o : Obj), v.ownBlock ≠ some k → X.heap[k]? = some o → Z.heap[k]? = some o := fun k o hk ho => (hg.block k (by have := at_lt ho; simp; omega) (fun e => hk e.symm)).trans (old_heap _ ho)
  have hplb : ∀ j, v.ownBlock ≠ some (plW rb bm j).block := fun j e => by
    have := (hvb _ e).1
    rcases plW_block rb bm j with h' | h' <;> omega
  have hcellb : ∀ j u, vs[j]? = some u → ∃ cs t fr, X.heap[(plW rb bm j).block]? = some (.cells cs t fr) := fun j u hu => by
    obtain ⟨ob, hob, hcl⟩ := cells_of_cell (h.place j u hu).1
    cases ob with
    | cells cs t fr => exact ⟨cs, t, fr, hob⟩
    | _ => cases hcl
  have hpl : ∀ j u, vs[j]? = some u → Z.cell? (plW rb bm j) = some u ∧ Z.frozen? (plW rb bm j) = false := fun j u hu => by
    obtain ⟨cs, t, fr, hb'⟩ := hcellb j u hu
    have e := (hkeep _ _ (hplb j) hb').trans hb'.symm
    exact ⟨(World.cell?_of_block e).trans (h.place j u hu).1, (World.frozen?_of_block e).trans (h.place j u hu).2⟩
  have hgb : base ≤ g := (ownsRow_lt ho (g := g) rfl).1
  have hset : ∀ (k : Nat) (o : Obj), base ≤ k → Z.heap[k]? = some o → (Z.setCell (plW rb bm i) (.slice (some ⟨g, 0, none⟩) ((c i).length + new.length) cap)).heap[k]? = some o := fun k o hk ho =>
    (Below.heap_setCell Z (plW rb bm i) _ k (by rcases plW_block rb bm i with h' | h' <;> omega)).trans ho
  refine ⟨⟨fun j u hu => ?_, fun j1 j2 u1 u2 k hj h1 h2 hk => ?_, fun j u hu => ?_⟩, hpl i v hi⟩
  · rw [List.getElem?_set] at hu
    by_cases e : i = j
    · subst e
      rw [if_pos rfl, if_pos hil] at hu
      injection hu with hu
      subst hu
      have e2 : upc c i new i = c i ++ new := by simp [upc]
      rw [e2, List.length_append, ints_append]
      exact own_row_kept ho fun k cur hk hc => hset k _ (ownsRow_lt ho hk).1 hc
    · rw [if_neg e] at hu
      have e2 : upc c i new j = c j := if_neg (fun e' => e e'.symm)
      rw [e2]
      exact own_row_kept (h.own j u hu) fun k cur hk hc => hset k _ (ownsRow_lt (h.own j u hu) hk).1 (hkeep k _ (fun e' => h.sep i j v u k e hi hu e' hk) hc)
  · rw [List.getElem?_set] at h1 h2
    have hnew : ∀ j u k, i ≠ j → vs[j]? = some u → u.ownBlock = some k → k ≠ g := fun j u k e hu hk e2 => by
      subst e2
      rcases hat with h' | h'
      · exact h.sep i j v u k e hi hu h' hk
      · have := (ownsRow_lt (h.own j u hu) hk).2; omega
    by_cases e1 : i = j1 <;> by_cases e2 : i = j2
    · exact absurd (e1.symm.trans e2) hj
    · subst e1
      rw [if_pos rfl, if_pos hil] at h1
      injection h1 with h1
      subst h1
      obtain rfl : g = k := by simpa [Value.ownBlock] using hk
      rw [if_neg e2] at h2
      intro hh
      exact hnew j2 u2 g e2 h2 hh rfl
    · subst e2
      rw [if_pos rfl, if_pos hil] at h2
      injection h2 with h2
      subst h2
      rw [if_neg e1] at h1
      intro hh
      obtain rfl : g = k := by simpa [Value.ownBlock] using hh
      exact hnew j1 u1 g e1 h1 hk rfl
    · rw [if_neg e1] at h1
      rw [if_neg e2] at h2
      exact h.sep j1 j2 u1 u2 k hj h1 h2 hk
  · rw [List.getElem?_set] at hu
    rw [World.frozen?_setCell]
    by_cases e : i = j
    · subst e
      rw [if_pos rfl, if_pos hil] at hu
      injection hu with hu
      subst hu
      exact ⟨World.cell?_setCell_same _ _ _ (hpl i v hi).1, (hpl i v hi).2⟩
    · rw [if_neg e] at hu
      rw [World.cell?_setCell_other _ _ _ _ (fun e' => plW_ne e hbm (e'))]
      exact hpl j u hu
end
end Go.Proofs.YtidpiokkfnhobaaGreat.v5

namespace Go.Proofs.YtidpiokkfnhobaaGreat.v5
open Go.RowKit Go.Shelf
set_option maxRecDepth 100000

section
variable {P : Program} {ops : Array Oper} {Q : Exit → Act → World → Prop} {md : Region.Mode} {S : World → Prop} {z : Nat}
/-- Whatever order comes: S holds behind each operation but z. -/
def wpAnyZ (P : Program) (md : Region.Mode) (ops : Array Oper) (Q : Exit → Act → World → Prop) (S : World → Prop) (z : Nat) : Nat → Array Bool → Act → World → Prop
  | 0, listed, a, w => Region.ready md ops listed = [] ∧ Q .normal a w
  | fuel + 1, listed, a, w =>
    (Region.ready md ops listed = [] → Q .normal a w) ∧
    ∀ i ∈ Region.ready md ops listed, wpOp P ops Q i (fun a' w' => (i = z ∨ S w') ∧ wpAnyZ P md ops Q S z fuel (listed.setIfInBounds i true) a' w') a w
theorem any_of_z : ∀ (fuel : Nat) (listed : Array Bool) (a : Act) (w : World), wpAnyZ P md ops Q S z fuel listed a w → wpAny P md ops Q fuel listed a w
  | 0, _, _, _, h => h
  | fuel + 1, _, _, _, h => ⟨h.1, fun i hi => wpOp_mono (fun a' w' h' => any_of_z fuel _ a' w' h'.2) (h.2 i hi)⟩
/-- z waits for all others. -/
def waitsAll (md : Region.Mode) (ops : Array Oper) (z : Nat) : Bool :=
  match ops[z]? with
  | none => false
  | some o => (List.range ops.size).all fun k => k == z || o.after.any fun e => Region.binds md e && e.on == k
theorem waits_spec (hz : waitsAll md ops z = true) {listed : Array Bool} (hr : z ∈ Region.ready md ops listed) {i : Nat} (hi : i < ops.size) (hne : i ≠ z) : listed.getD i false = true := by
  obtain ⟨-, o, ho, hall⟩ := mem_ready.1 hr
  unfold waitsAll at hz
  rw [ho] at hz
  have h1 := List.all_eq_true.1 hz i (List.mem_range.2 hi)
  simp only [Bool.or_eq_true, beq_iff_eq] at h1
  rcases h1 with h1 | h1
  · exact absurd h1 hne
  · rw [← Array.any_toList, List.any_eq_true] at h1
    obtain ⟨e, he, hb⟩ := h1
    rw [Array.mem_toList_iff] at he
    simp only [Bool.and_eq_true, beq_iff_eq] at hb
    have := hall e he hb.1
    rw [hb.2] at this
    exact this
theorem not_both {listed : Array Bool} {i : Nat} (h1 : listed.getD i true = false) (h2 : listed.getD i false = true) : False := by
  by_cases hlt : i < listed.size
  · simp [hlt] at h1 h2
    rw [h1] at h2; cases h2
  · simp [Array.getElem?_eq_none (show listed.size ≤ i by omega)] at h1
theorem z_first {i : Nat} {oi : Oper} {v : Value} (hz : waitsAll md ops z = true) (hi : ops[i]? = some oi) (hsel : ∀ (j : Nat) (o : Oper) cs b, ops[j]? = some o → o.op ≠ .select cs b) (hQ : ∀ c a w, Q (.panic c) (a.put oi.dst v) w → Q (.panic c) a w) :
    ∀ (fuel : Nat) (listed : Array Bool) (a : Act) (w : World), (∀ j oj, ops[j]? = some oj → j ≠ i → listed.getD j true = false → (∀ e ∈ oj.after, Region.binds md e = true → e.on ≠ i) → oi.apart ops oj = true) →
      i ∈ Region.ready md ops listed → YieldsIf P ops S oi v a → S w → wpAnyZ P md ops Q S z fuel (listed.setIfInBounds i true) (a.put oi.dst v) w → wpAnyZ P md ops Q S z (fuel + 1) listed a w := by
  intro fuel
  induction fuel with
  | zero =>
    intro listed a w _ hr hy hS H
    refine ⟨fun h0 => ?_, fun j hj => ?_⟩
    · rw [h0] at hr; cases hr
    · rcases Nat.decEq j i with hne | heq
      · have h1 := ready_mono hj hne
        rw [H.1] at h1
        cases h1
      · subst heq
        exact hy.wpOp hi hS ⟨.inr hS, H⟩
  | succ fuel ih =>
    intro listed a w hfree hr hy hS H
    refine ⟨fun h0 => ?_, fun j hj => ?_⟩
    · rw [h0] at hr; cases hr
    rcases Nat.decEq j i with hne | heq
    · obtain ⟨hjun, oj, hoj, hall⟩ := mem_ready.1 hj
      have hi0 := (mem_ready.1 hr).1
      have hwait : ∀ e ∈ oj.after, Region.binds md e = true → e.on ≠ i := fun e he hb heq => not_both hi0 (by have h1 := hall e he hb; rw [heq] at h1; exact h1)
      have hjz : j ≠ z := fun e => by
        subst e
        exact not_both hi0 (waits_spec hz hj ((Array.getElem?_eq_some_iff.1 hi).1) (Ne.symm hne))
      have h2 := wpOp_putIf hoj (hfree j oj hoj hne hjun hwait) (fun cs b => hsel i oi cs b hi) (fun cs b => hsel j oj cs b hoj) hQ hy (H.2 j (ready_mono hj hne))
      refine wpOp_mono (fun a' w' h3 => ?_) h2
      obtain ⟨h4, h5, h6⟩ := h3
      have hSw : S w' := h5.resolve_left hjz
      refine ⟨.inr hSw, ih (listed.setIfInBounds j true) a' w' (fun k ok hk hki hun hno => hfree k ok hk hki ?_ hno) (ready_mono hr (Ne.symm hne)) h4 hSw ?_⟩
      · by_cases hjk : j = k
        · subst hjk; exact hjun
        · rw [getD_set_ne true hjk] at hun; exact hun
      · rw [Array.setIfInBounds_comm _ _ hne]
        exact h6
    · subst heq
      exact hy.wpOp hi hS ⟨.inr hS, H⟩
theorem takeZ (i : Nat) (d : Option Tmp) {oi : Oper} {v : Value} {fuel : Nat} {listed : Array Bool} {a : Act} {w : World} (hz : waitsAll md ops z = true) (hi : ops[i]? = some oi) (hd : oi.dst = d)
    (hs : Region.noSelect ops = true) (hf : Region.free md ops listed i = true) (hr : (Region.ready md ops listed).contains i = true)
    (hQ : ∀ c a w, Q (.panic c) (a.put d v) w → Q (.panic c) a w) (hw : Region.wanted oi (yielded ops a.tmps) = true) (hy : ∀ w, S w → (execOp a.eval oi).run P w = .ok (.value v) w) (hS : S w)
    (h : wpAnyZ P md ops Q S z fuel (listed.setIfInBounds i true) (a.put d v) w) : wpAnyZ P md ops Q S z (fuel + 1) listed a w := by
  subst hd
  exact z_first hz hi (Region.noSelect_spec hs) hQ fuel listed a w (Region.free_spec hi hf) (by simpa using hr) (.inl ⟨hw, hy⟩) hS h
/-- One operation alone may come up. -/
theorem oneZ (i : Nat) {oi : Oper} {fuel : Nat} {listed : Array Bool} {a : Act} {w : World} (hi : ops[i]? = some oi) (hr : Region.ready md ops listed = [i])
    (h : ∀ K : Act → World → Prop, _root_.Go.Shut (∀ a w, (i = z ∨ S w) → wpAnyZ P md ops Q S z fuel (listed.setIfInBounds i true) a w → K a w) → if Region.wanted oi (yielded ops a.tmps) = true then Oper.wp P oi a w K Q else K (a.put oi.dst undef) w) :
    wpAnyZ P md ops Q S z (fuel + 1) listed a w := by
  refine ⟨fun h0 => ?_, fun j hj => ?_⟩
  · rw [hr] at h0; cases h0
  · rw [hr] at hj
    obtain rfl : j = i := by simpa using hj
    exact wpOp_step hi fun K hK => h K fun a w h1 h2 => hK a w ⟨h1, h2⟩
theorem doneZ {listed : Array Bool} {a : Act} {w : World} (hr : Region.ready md ops listed = []) (h : Q .normal a w) : ∀ fuel, wpAnyZ P md ops Q S z fuel listed a w
  | 0 => ⟨hr, h⟩
  | _ + 1 => ⟨fun _ => h, by rw [hr]; simp⟩
theorem region_z {id : Nat} {a : Act} {w : World} (z : Nat) (hm : P.follows .mixedOrders = true) (hS : S w.drew) (h : S w.drew → wpAnyZ P .any ops Q S z ops.size (Array.replicate ops.size false) a w.drew) : (Code.region id ops true).wp P Q a w :=
  wp_region_any hm (any_of_z _ _ _ _ (h hS))
end
end Go.Proofs.YtidpiokkfnhobaaGreat.v5

namespace Go.Proofs.YtidpiokkfnhobaaGreat.v5
open Go.RowKit Go.Shelf
set_option maxRecDepth 100000
set_option linter.unusedSimpArgs false
set_option linter.unusedVariables false

theorem sl_info : (Tryz.prog.info? 69).map (fun i => (i.zero, i.size, i.bytes)) = some (some (.slice none 0 0), 1, 24) := by kernel_rfl
/-- The memory of whole between two of its statements; q: the box of the arc. -/
structure WhM (w : World) (base rb bm N : Nat) (qs : List Nat) (vs : List Value) (c : Nat → List Int) (X : World) : Prop where
  o : WhO X base rb bm vs c
  len : vs.length = N + 2
  bel : Below w.heap.size w X
  m2 : X.cell? ⟨rb, 2, none⟩ = some (.slice (some ⟨bm, 0, none⟩) N N)
  res : X.heap[w.heap.size + 1]? = some (.cells #[.slice none 0 0, .slice none 0 0, .slice none 0 0] 95 (0, 0))
  sz : base ≤ X.heap.size
  nq : ∀ (i : Nat) (v : Value) (q : Nat), vs[i]? = some v → q ∈ qs → v.ownBlock ≠ some q
  qlt : ∀ q ∈ qs, base ≤ q ∧ q < X.heap.size
section
variable {w X Z : World} {base rb bm N : Nat} {qs : List Nat} {vs : List Value} {c : Nat → List Int}
theorem WhM.grow {i n g cap : Nat} {v : Value} {new : List Int} {lit : Obj} (h : WhM w base rb bm N qs vs c X) (hi : vs[i]? = some v) (hn : n = (c i).length + new.length) (hb : w.heap.size + 1 < bm ∧ bm < rb ∧ rb < base)
    (ho : Z.ownsRow base 3 1 (.slice (some ⟨g, 0, none⟩) n cap) n (ints (c i) ++ ints new)) (hg : (X.alloc lit).grownBy Z v.ownBlock) (hat : v.ownBlock = some g ∨ g = X.heap.size + 1) :
    WhM w base rb bm N qs (vs.set i (.slice (some ⟨g, 0, none⟩) n cap)) (upc c i new) (Z.setCell (plW rb bm i) (.slice (some ⟨g, 0, none⟩) n cap)) ∧ Z.cell? (plW rb bm i) = some v ∧ Z.frozen? (plW rb bm i) = false ∧
      (∀ q ∈ qs, ∀ ob, X.heap[q]? = some ob → (Z.setCell (plW rb bm i) (.slice (some ⟨g, 0, none⟩) n cap)).heap[q]? = some ob ∧ Z.heap[q]? = some ob) ∧ Z.cell? ⟨rb, 2, none⟩ = some (.slice (some ⟨bm, 0, none⟩) N N) := by
  obtain ⟨h1, h2, h3⟩ := h.o.grow hi hn (by omega) ⟨hb.2.2, by omega⟩ h.sz ho hg hat
  have hvb := fun k hk => ownsRow_lt (h.o.own i v hi) (g := k) hk
  have hkeep : ∀ (k : Nat) (o : Obj), v.ownBlock ≠ some k → X.heap[k]? = some o → Z.heap[k]? = some o := fun k o hk ho => (hg.block k (by have := at_lt ho; simp; omega) (fun e => hk e.symm)).trans (old_heap _ ho)
  have hsm : ∀ k, k < base → v.ownBlock ≠ some k := fun k hk e => by have := (hvb k e).1; omega
  have hpb := plW_block rb bm i
  have hset : ∀ (k : Nat) (o : Obj), k ≠ rb → k ≠ bm → Z.heap[k]? = some o → (Z.setCell (plW rb bm i) (.slice (some ⟨g, 0, none⟩) n cap)).heap[k]? = some o := fun k o h1 h2 ho =>
    (Below.heap_setCell Z (plW rb bm i) _ k (by rcases hpb with h' | h' <;> omega)).trans ho
  have hz : X.heap.size + 1 ≤ Z.heap.size := by have := hg.size; simpa using this
  have hm2 : Z.cell? ⟨rb, 2, none⟩ = some (.slice (some ⟨bm, 0, none⟩) N N) := by
    obtain ⟨cs, t, fr, hc⟩ := cell_block h.m2
    exact (World.cell?_of_block (a := ⟨rb, 2, none⟩) ((hkeep rb _ (hsm rb hb.2.2) hc).trans hc.symm)).trans h.m2
  refine ⟨⟨h1, by rw [List.length_set]; exact h.len, ?_, ?_, ?_, ?_, fun j u q hu hq => ?_, fun q hq => ?_⟩, h2, h3, fun q hq ob hob => ?_, hm2⟩
  · have h5 : Below w.heap.size w (X.alloc lit) := h.bel.alloc h.bel.size _
    have h6 : Below w.heap.size w Z := ⟨hg.os.trans h5.os, hg.tape.trans h5.tape, hg.output.trans h5.output, Nat.le_trans h5.size hg.size, fun k hk => (hg.block k (Nat.lt_of_lt_of_le hk h5.size) (fun e => hsm k (by omega) e.symm)).trans (h5.block k hk)⟩
    exact h6.setCell (by rcases hpb with h' | h' <;> omega) _
  · rw [World.cell?_setCell_other _ _ _ _ (fun e => ?_)]
    · exact hm2
    · match i with
      | 0 => simp [plW] at e
      | 1 => simp [plW] at e
      | n + 2 => simp [plW] at e; omega
  · exact hset _ _ (by omega) (by omega) (hkeep _ _ (hsm _ (by omega)) h.res)
  · simp [World.setCell]; have := h.sz; omega
  · rw [List.getElem?_set] at hu
    by_cases e : i = j
    · rw [if_pos e] at hu
      split at hu
      · injection hu with hu
        subst hu
        intro e2
        obtain rfl : g = q := by simpa [Value.ownBlock] using e2
        have h7 := h.qlt g hq
        rcases hat with h8 | h8
        · exact h.nq i v g hi hq h8
        · omega
      · cases hu
    · rw [if_neg e] at hu
      exact h.nq j u q hu hq
  · have := h.qlt q hq
    refine ⟨this.1, ?_⟩
    simp [World.setCell]; omega
  · have h9 := h.qlt q hq
    have h10 := hkeep q ob (h.nq i v q hi hq) hob
    exact ⟨hset q ob (by omega) (by omega) h10, h10⟩
theorem WhM.alloc (h : WhM w base rb bm N qs vs c X) (o : Obj) : WhM w base rb bm N (X.heap.size :: qs) vs c (X.alloc o) := by
  refine ⟨h.o.alloc o, h.len, h.bel.alloc h.bel.size o, alloc_cell h.m2 o, old_heap o h.res, by have := h.sz; simp; omega, fun i v q hv hq => ?_, fun q hq => ?_⟩
  · rcases List.mem_cons.1 hq with rfl | hq
    · intro e
      have := (ownsRow_lt (h.o.own i v hv) e).2
      omega
    · exact h.nq i v q hv hq
  · rcases List.mem_cons.1 hq with rfl | hq
    · have := h.sz; simp; exact this
    · have := h.qlt q hq; simp; omega
theorem WhM.few (h : WhM w base rb bm N qs vs c X) : WhM w base rb bm N [] vs c X := ⟨h.o, h.len, h.bel, h.m2, h.res, h.sz, fun _ _ _ _ hq => (by cases hq), fun _ hq => (by cases hq)⟩
theorem WhM.drew (h : WhM w base rb bm N qs vs c X) : WhM w base rb bm N qs vs c X.drew := ⟨h.o.drew, h.len, h.bel.drew, h.m2, h.res, h.sz, h.nq, h.qlt⟩
end
theorem own_shape {X : World} {base : Nat} {e : TypeId} {size n : Nat} {v : Value} {xs : List Value} (h : X.ownsRow base e size v n xs) : ∃ A m c, v = .slice A m c := by
  obtain ⟨k1, ⟨e, -⟩ | ⟨g', cap', cur, e, -⟩⟩ := h
  · exact ⟨_, _, _, e⟩
  · exact ⟨_, _, _, e⟩
theorem three_cells {W : World} {b : Nat} {x0 x1 x2 : Value} {T : TypeId} (h : W.heap[b]? = some (.cells #[x0, x1, x2] T (0, 0))) : W.cell? ⟨b, 0, none⟩ = some x0 ∧ W.cell? ⟨b, 1, none⟩ = some x1 ∧ W.cell? ⟨b, 2, none⟩ = some x2 := by simp [World.cell?, h]
theorem three_frozen {W : World} {b : Nat} {x0 x1 x2 : Value} {T : TypeId} (h : W.heap[b]? = some (.cells #[x0, x1, x2] T (0, 0))) : W.frozen? ⟨b, 0, none⟩ = false ∧ W.frozen? ⟨b, 1, none⟩ = false ∧ W.frozen? ⟨b, 2, none⟩ = false := by simp [World.frozen?, h]
theorem row_set3 {W : World} {b i : Nat} {xs : Array Value} {T : TypeId} (h : W.heap[b]? = some (.cells xs T (0, 0))) (v : Value) : (W.setCell ⟨b, i, none⟩ v).heap[b]? = some (.cells (xs.setIfInBounds i v) T (0, 0)) := by
  simp only [World.setCell, Array.getElem?_modify, if_pos trivial, h]
  simp
theorem row_store3 {W : World} {b : Nat} {y0 y1 y2 : Value} {T : TypeId} (h : W.heap[b]? = some (.cells #[y0, y1, y2] T (0, 0))) (x0 x1 x2 : Value) : (((W.setCell ⟨b, 0, none⟩ x0).setCell ⟨b, 1, none⟩ x1).setCell ⟨b, 2, none⟩ x2).heap[b]? = some (.cells #[x0, x1, x2] T (0, 0)) :=
  row_set3 (row_set3 (row_set3 h x0) x1) x2
/-- What whole returns. -/
def WhPost (N : Nat) (l : List Ar) (w : World) (e : Ending) (w' : World) : Prop :=
  ∃ r : Rs, e = .returned (r.val N) ∧ RShape r N l ∧ r.bR < w'.heap.size ∧ w.heap.size ≤ r.bR ∧ Row w' r.bR r.oR (rooms l) ∧ (∀ Y, KpG (fun k => k ≠ r.bR ∧ w.heap.size ≤ k) w' Y → RFix Y r N l) ∧ Below w.heap.size w w'
theorem own_cases {X : World} {base n : Nat} {v : Value} {xs : List Value} (h : X.ownsRow base 3 1 v n xs) : (v = .slice none 0 0 ∧ n = 0) ∨ ∃ g cap, v = .slice (some ⟨g, 0, none⟩) n cap ∧ base ≤ g ∧ g < X.heap.size ∧ n ≤ cap ∧ cap ≤ maxLen := by
  obtain ⟨k1, h | ⟨g', cap', cur, e, k3, k4, k5, k6, -⟩⟩ := h
  · exact .inl h
  · exact .inr ⟨g', cap', e, k3, at_lt k4, k5, k6⟩
theorem whole_end {w X : World} {rb bm N : Nat} {l : List Ar} {vs : List Value} {E R : Value} (h : WhM w (rb + 1) rb bm N [] vs (cW l) X) (hb : w.heap.size + 1 < bm ∧ bm < rb) (hl : l.length ≤ 128) (hN : N ≤ 64) (hE : vs[0]? = some E) (hR : vs[1]? = some R) :
    WhPost N l w (.returned (.agg #[E, R, .slice (some ⟨bm, 0, none⟩) N N])) (((X.setCell ⟨w.heap.size + 1, 0, none⟩ E).setCell ⟨w.heap.size + 1, 1, none⟩ R).setCell ⟨w.heap.size + 1, 2, none⟩ (.slice (some ⟨bm, 0, none⟩) N N)) := by
  have hk : ∀ (k : Nat) (o : Obj), k ≠ w.heap.size + 1 → X.heap[k]? = some o → (((X.setCell ⟨w.heap.size + 1, 0, none⟩ E).setCell ⟨w.heap.size + 1, 1, none⟩ R).setCell ⟨w.heap.size + 1, 2, none⟩ (.slice (some ⟨bm, 0, none⟩) N N)).heap[k]? = some o := fun k o hn ho => by
    rw [Below.heap_setCell _ ⟨w.heap.size + 1, 2, none⟩ _ k hn, Below.heap_setCell _ ⟨w.heap.size + 1, 1, none⟩ _ k hn, Below.heap_setCell _ ⟨w.heap.size + 1, 0, none⟩ _ k hn]; exact ho
  have hz : (((X.setCell ⟨w.heap.size + 1, 0, none⟩ E).setCell ⟨w.heap.size + 1, 1, none⟩ R).setCell ⟨w.heap.size + 1, 2, none⟩ (.slice (some ⟨bm, 0, none⟩) N N)).heap.size = X.heap.size := by simp [World.setCell]
  have hB : Below w.heap.size w (((X.setCell ⟨w.heap.size + 1, 0, none⟩ E).setCell ⟨w.heap.size + 1, 1, none⟩ R).setCell ⟨w.heap.size + 1, 2, none⟩ (.slice (some ⟨bm, 0, none⟩) N N)) :=
    ((h.bel.setCell (by show w.heap.size ≤ w.heap.size + 1; omega) _).setCell (by show w.heap.size ≤ w.heap.size + 1; omega) _).setCell (by show w.heap.size ≤ w.heap.size + 1; omega) _
  generalize ((X.setCell ⟨w.heap.size + 1, 0, none⟩ E).setCell ⟨w.heap.size + 1, 1, none⟩ R).setCell ⟨w.heap.size + 1, 2, none⟩ (.slice (some ⟨bm, 0, none⟩) N N) = V at hk hz hB ⊢
  have hsz := h.sz
  have hoE := h.o.own 0 E hE
  have hoR := h.o.own 1 R hR
  have e0 : cW l 0 = endsI l := rfl
  have e1 : cW l 1 = rooms l := rfl
  rw [e0, endsI_len] at hoE
  rw [e1, rooms_len] at hoR
  -- the blocks
  obtain ⟨gE, cE, hgE, hE1, hE2⟩ : ∃ gE cE, (0 < l.length → E = .slice (some ⟨gE, 0, none⟩) (2 * l.length) cE ∧ 2 * l.length ≤ cE ∧ cE ≤ maxLen) ∧ (0 < l.length → rb + 1 ≤ gE) ∧ ∃ A n c, E = .slice A n c := by
    rcases own_cases hoE with ⟨e, e2⟩ | ⟨g, cap, e, q1, q2, q3, q4⟩
    · exact ⟨0, 0, fun h0 => by omega, fun h0 => by omega, _, _, _, e⟩
    · exact ⟨g, cap, fun _ => ⟨e, q3, q4⟩, fun _ => q1, _, _, _, e⟩
  obtain ⟨gR, cR, hgR, hR1, hR2, hR3, hR4, hR5⟩ : ∃ gR cR, (0 < l.length → R = .slice (some ⟨gR, 0, none⟩) (2 * l.length) cR ∧ 2 * l.length ≤ cR ∧ cR ≤ maxLen) ∧ (0 < l.length → rb + 1 ≤ gR) ∧ (∃ A n c, R = .slice A n c) ∧ (gR < X.heap.size ∧ w.heap.size ≤ gR) ∧ (gR ≠ bm ∧ gR ≠ w.heap.size + 1) ∧
      ∀ (i : Nat) (v : Value) (g : Nat), i ≠ 1 → vs[i]? = some v → v.ownBlock = some g → g ≠ gR := by
    rcases own_cases hoR with ⟨e, e2⟩ | ⟨g, cap, e, q1, q2, q3, q4⟩
    · exact ⟨w.heap.size, 0, fun h0 => by omega, fun h0 => by omega, ⟨_, _, _, e⟩, ⟨by omega, Nat.le_refl _⟩, ⟨by omega, by omega⟩, fun i v g _ hi hg => by have := (ownsRow_lt (h.o.own i v hi) hg).1; omega⟩
    · exact ⟨g, cap, fun _ => ⟨e, q3, q4⟩, fun _ => q1, ⟨_, _, _, e⟩, ⟨q2, by omega⟩, ⟨by omega, by omega⟩, fun i v g' hi hv hg e' => by
        subst e'
        exact h.o.sep i 1 v R g' hi hv hR hg (by rw [e]; rfl)⟩
  have hkc : ∀ (k : Nat) (cs : Array Value) (T : TypeId) (fr : Nat × Nat), k ≠ w.heap.size + 1 → X.heap[k]? = some (.cells cs T fr) → V.heap[k]? = some (.cells cs T fr) := fun k cs T fr hn hc => hk k _ hn hc
  have hownV : ∀ i v, vs[i]? = some v → V.ownsRow (rb + 1) 3 1 v (cW l i).length (ints (cW l i)) := fun i v hi => own_row_kept (h.o.own i v hi) fun g cur hg hc => hkc g _ _ _ (by have := (ownsRow_lt (h.o.own i v hi) hg).1; omega) hc
  refine ⟨{ E := E, R := R, bE := gE, oE := 0, cE := cE, bR := gR, oR := 0, cR := cR, bM := bm, oM := 0, cM := N, hd := fun n => (vs[n + 2]?).getD undef }, rfl, ⟨hgE, hgR, ⟨Nat.le_refl _, by show N ≤ maxLen; unfold maxLen; omega⟩, hE2, hR2⟩, by show gR < _; omega, hR3.2, ?_, fun Y hY => ⟨fun k q hq => ?_, fun n hn => ?_⟩, hB⟩
  · intro k x hx
    show V.cell? ⟨gR, 0 + k, none⟩ = _ ∧ V.frozen? ⟨gR, 0 + k, none⟩ = false
    have hk' := (List.getElem?_eq_some_iff.1 hx).1
    rw [rooms_len] at hk'
    obtain ⟨e, -, -⟩ := hgR (by omega)
    have ho := hownV 1 R hR
    rw [e1, rooms_len, e] at ho
    rw [Nat.zero_add]
    refine ⟨?_, ho.frozenAt k⟩
    rw [ho.cellAt k (by omega)]
    unfold ints
    rw [List.getElem?_map, hx]; rfl
  · show Y.cell? ⟨gE, 0 + k, none⟩ = _
    have hk' : k < 2 * l.length := by
      unfold mvTo at hq
      obtain ⟨a, ha, -⟩ := Option.map_eq_some_iff.1 hq
      have := (List.getElem?_eq_some_iff.1 ha).1; omega
    obtain ⟨e, -, -⟩ := hgE (by omega)
    have ho := hownV 0 E hE
    have ho2 : Y.ownsRow (rb + 1) 3 1 E (cW l 0).length (ints (cW l 0)) := own_row_kept ho fun g cur hg hc => hY.same g _ _ _ ⟨hR5 0 E g (by decide) hE hg, by have := (ownsRow_lt (h.o.own 0 E hE) hg).1; omega⟩ hc
    rw [e0, endsI_len, e] at ho2
    rw [Nat.zero_add, ho2.cellAt k (by omega)]
    unfold ints
    rw [List.getElem?_map, endsI_get hq hk']; rfl
  · obtain ⟨v, hv⟩ : ∃ v, vs[n + 2]? = some v := ⟨_, List.getElem?_eq_getElem (by have := h.len; omega)⟩
    have ho := hownV (n + 2) v hv
    have ho2 : Y.ownsRow (rb + 1) 3 1 v (cW l (n + 2)).length (ints (cW l (n + 2))) := own_row_kept ho fun g cur hg hc => hY.same g _ _ _ ⟨hR5 (n + 2) v g (by omega) hv hg, by have := (ownsRow_lt (h.o.own (n + 2) v hv) hg).1; omega⟩ hc
    have hi := own_intSl ho2
    have e3 : cW l (n + 2) = nats (mvs l n) := rfl
    rw [e3] at hi
    obtain ⟨A, c, e4, -, -⟩ := hi.shape
    rw [nats_len] at e4
    have hd : ((vs[n + 2]?).getD undef) = v := by rw [hv]; rfl
    refine ⟨A, c, ?_, ?_, ?_⟩
    · show (vs[n + 2]?).getD undef = _
      rw [hd]; exact e4
    · show Y.cell? ⟨bm, 0 + n, none⟩ = some ((vs[n + 2]?).getD undef)
      rw [hd, Nat.zero_add]
      have hp := (h.o.place (n + 2) v hv).1
      obtain ⟨cs, t, fr, hc⟩ := cell_block (b := bm) (o := n) hp
      have hc2 := hY.same bm _ _ _ ⟨fun e => hR4.1 e.symm, by omega⟩ (hkc bm _ _ _ (by omega) hc)
      exact (World.cell?_of_block (a := ⟨bm, n, none⟩) (hc2.trans hc.symm)).trans hp
    · show IntSl Y ((vs[n + 2]?).getD undef) _
      rw [hd]; exact hi
set_option maxHeartbeats 16000000 in
theorem c_whole (N : Nat) (L : Value) (l : List (Int × Int × Int)) (w : World) (hL : PtSl w L l) (hok : ntOk (N : Int) l = true) :
    Calls Tryz.prog 91 #[ntV (N : Int) L] w (WhPost N (arsOf l) w) := by
  obtain ⟨A, c, rfl, hc1, hc2⟩ := hL.shape
  unfold maxLen at hc2
  unfold ntV
  obtain ⟨hN2, hN64, hl128, hall⟩ := ntOk_iff.1 hok
  have hN0 : 0 ≤ (N : Int) := by omega
  have hN64' : N ≤ 64 := by omega
  have HL := Lib.hid hL
  have HALL := Lib.hid hall
  clear hL hok hall
  go_enter Tryz.func91, Tryz.ntmps91
  obtain ⟨i0, hi0, hzz0, hzz1, hzz2⟩ := info_parts sl_info
  have HU : Tryz.prog.underlying 93 = some (.slice 69) := Tryz.underlying93
  go_wp2_with (at_make; refine wpList_make_full (P := Tryz.prog) _ rfl _ _ 93 rfl (w.heap.size + 2) 69 i0 (.slice none 0 0) 1 HU hi0 hzz0 hzz1 .i64 .i64 _ _ N rfl rfl rfl rfl (by rw [hzz2]; omega) (by unfold maxLen; omega) (by simp) ?_; intro w1 ho1 hg1; simp only [World.size_alloc] at ho1; have x1 := alloc_cell (show w1.cell? ⟨w.heap.size, 1, none⟩ = some (.slice A l.length c) from cell_of ((hg1.block w.heap.size (by simp; omega) (by simp)).trans (old_heap _ (heap_alloc_new _ _))) rfl); have HO1 := Lib.hid ho1; have HG1 := Lib.hid hg1; clear ho1 hg1)
  obtain ⟨bm, hbm⟩ : ∃ b, b = w.heap.size + 1 + 1 := ⟨_, rfl⟩
  obtain ⟨rb, hrb⟩ : ∃ b, b = w1.heap.size := ⟨_, rfl⟩
  rw [← hbm] at HO1 ⊢
  rw [← hrb]
  obtain ⟨V, hV⟩ : ∃ V, V = w1.alloc (.cells #[.slice none 0 0, .slice none 0 0, .slice (some ⟨bm, 0, none⟩) N N] 95) := ⟨_, rfl⟩
  have hbr : w.heap.size + 2 ≤ bm ∧ bm ≤ w.heap.size + 2 ∧ bm < rb := by
    have := (ownsRow_lt HO1.out (g := bm) rfl).2; omega
  have hWM : WhM w (rb + 1) rb bm N [] (List.replicate (N + 2) (.slice none 0 0)) (cW (arsOf (l.take 0))) V := by
    have hB1 : Below w.heap.size w w1 := by
      have hg := HG1.out
      have h0 : Below w.heap.size w ((w.alloc (.cells #[.int .i64 (N : Int), .slice A l.length c] 44)).alloc (.cells #[.slice none 0 0, .slice none 0 0, .slice none 0 0] 95)) := ((Below.refl _ _).alloc (Nat.le_refl _) _).alloc (by simp) _
      exact ⟨hg.os.trans h0.os, hg.tape.trans h0.tape, hg.output.trans h0.output, Nat.le_trans h0.size hg.size, fun k hk => (hg.block k (Nat.lt_of_lt_of_le hk h0.size) (by simp)).trans (h0.block k hk)⟩
    have hres : w1.heap[w.heap.size + 1]? = some (.cells #[.slice none 0 0, .slice none 0 0, .slice none 0 0] 95 (0, 0)) := (HG1.out.block _ (by simp) (by simp)).trans (row_new _ _ _ (by simp))
    have hr : V.heap[rb]? = some (.cells #[.slice none 0 0, .slice none 0 0, .slice (some ⟨bm, 0, none⟩) N N] 95 (0, 0)) := by rw [hV]; exact row_new _ _ _ hrb
    have hz : V.heap.size = rb + 1 := by rw [hV]; simp [hrb]
    have hnil : arsOf (l.take 0) = [] := by simp [arsOf]
    rw [hnil]
    have hget : ∀ i v, (List.replicate (N + 2) (Value.slice none 0 0))[i]? = some v → v = .slice none 0 0 ∧ i < N + 2 := fun i v hv => by
      rw [List.getElem?_replicate] at hv
      split at hv
      · injection hv with hv; exact ⟨hv.symm, by assumption⟩
      · cases hv
    refine ⟨⟨fun i v hv => ?_, fun i j v u g _ hv _ hg => ?_, fun i v hv => ?_⟩, by simp, by rw [hV]; exact hB1.alloc hB1.size _, ?_, by rw [hV]; exact old_heap _ hres, by omega, fun _ _ _ _ hq => (by cases hq), fun _ hq => (by cases hq)⟩
    · obtain ⟨rfl, -⟩ := hget i v hv
      rw [cW_nil]
      exact World.ownsRow_nil _ _ _ _
    · obtain ⟨rfl, -⟩ := hget i v hv
      cases hg
    · obtain ⟨rfl, hi⟩ := hget i v hv
      obtain ⟨c0, c1, c2⟩ := three_cells hr
      obtain ⟨f0, f1, f2⟩ := three_frozen hr
      match i, hi with
      | 0, _ => exact ⟨c0, f0⟩
      | 1, _ => exact ⟨c1, f1⟩
      | n + 2, hi =>
        have h1 := HO1.out.cellAt n (by omega)
        have h2 := HO1.out.frozenAt n
        have h3 : (madeCells (Value.slice none 0 0).cells (N * 1)).toList[n]? = some (.slice none 0 0) := by
          have e : (Value.slice none 0 0).cells = #[.slice none 0 0] := rfl
          rw [e, Nat.mul_one, toList_madeCells_one, List.getElem?_replicate, if_pos (by omega)]
        rw [h3] at h1
        obtain ⟨cs, t, fr, hc⟩ := cell_block h1
        have e : V.heap[bm]? = w1.heap[bm]? := by rw [hV]; exact (old_heap _ hc).trans hc.symm
        exact ⟨(World.cell?_of_block (a := ⟨bm, n, none⟩) e).trans h1, (frozen_of_block e).trans h2⟩
    · exact (three_cells hr).2.2
  rw [← hV]
  clear hV x1 hbm hrb HO1 HG1
  go_loopw [13] (fun i wr => ∃ (k : Nat) (vs : List Value), k ≤ l.length ∧ i = .int .i64 (k : Int) ∧ Hid (WhM w (rb + 1) rb bm N [] vs (cW (arsOf (l.take k))) wr)) (fun i _ => l.length - (intOf i).toNat)
  case atStart => exact ⟨0, _, Nat.zero_le _, rfl, Lib.hid hWM⟩
  case round =>
    clear hWM V
    obtain ⟨k, vs, hk, rfl, hM⟩ := hrel
    have hki : ((k : Nat) : Int).toNat = k := by omega
    by_cases hlt : k < l.length
    · obtain ⟨⟨ui, vi, cp⟩, hx⟩ : ∃ p, l[k]? = some p := ⟨_, List.getElem?_eq_getElem hlt⟩
      obtain ⟨b, o, c', e, hb, -, -, y0, y1, y2⟩ := (HL.out.on hM.out.bel (Nat.le_refl _)).at_ hx
      injection e with e1 hle e2
      clear hle
      subst e1 e2
      obtain ⟨hu, hv, huv, hcp0, hcp1⟩ := arOk_iff.1 (HALL.out _ (List.mem_of_getElem? hx))
      obtain ⟨u, hu'⟩ : ∃ u : Nat, ui = (u : Int) := ⟨ui.toNat, by have := hu.1; simp at this; omega⟩
      obtain ⟨v, hv'⟩ : ∃ v : Nat, vi = (v : Int) := ⟨vi.toNat, by have := hv.1; simp at this; omega⟩
      subst hu' hv'
      have huN : u < N := by have := hu.2; simp at this; exact this
      have hvN : v < N := by have := hv.2; simp at this; exact this
      have hne : u ≠ v := fun e => huv (by simp [e])
      obtain ⟨V0, hV0⟩ : ∃ V, V = wr.alloc (.cells #[.int .i64 (u : Int), .int .i64 (v : Int), .int .i64 cp] 67) := ⟨_, rfl⟩
      have HM0 := Lib.hid (show WhM w (rb + 1) rb bm N [wr.heap.size] vs (cW (arsOf (l.take k))) V0 by subst hV0; exact hM.out.alloc _)
      have HA0 := Lib.hid (show V0.heap[wr.heap.size]? = some (.cells #[.int .i64 (u : Int), .int .i64 (v : Int), .int .i64 cp] 67 (0, 0)) by subst hV0; exact heap_alloc_new _ _)
      obtain ⟨q, hq⟩ : ∃ q, q = wr.heap.size := ⟨_, rfl⟩
      obtain ⟨E, hE⟩ : ∃ v, vs[0]? = some v := ⟨_, List.getElem?_eq_getElem (by have := hM.out.len; omega)⟩
      have e0 := (HM0.out.o.place 0 E hE).1
      unfold plW at e0
      have a0 : V0.cell? ⟨wr.heap.size, 0, none⟩ = some (.int .i64 (u : Int)) := cell_of HA0.out rfl
      have a1 : V0.cell? ⟨wr.heap.size, 1, none⟩ = some (.int .i64 (v : Int)) := cell_of HA0.out rfl
      have HX := Lib.hid hx
      clear hx hu hv huv
      have HOW0 := Lib.hid (HM0.out.o.own 0 E hE)
      rw [hV0] at e0 a0 a1 HOW0
      obtain ⟨i1, hi1, hz1, hz2, hz3⟩ := info_parts int_info
      have HV0 := Lib.hid hV0
      clear hV0
      have hl2 : (arsOf (l.take k)).length = k := by rw [arsOf_len, List.length_take]; omega
      have hc0 : (cW (arsOf (l.take k)) 0).length = 2 * k := by show (endsI _).length = _; rw [endsI_len, hl2]
      rw [hc0] at HOW0
      have HC0 := Lib.hid hc0
      clear hc0
      have hmlen := HM0.out.len
      obtain ⟨R, hR⟩ : ∃ v, vs[1]? = some v := ⟨_, List.getElem?_eq_getElem (by omega)⟩
      have HRR := Lib.hid hR
      have HEE := Lib.hid hE
      clear hR hE
      have HC1 := Lib.hid (show (cW (arsOf (l.take k)) 1).length = 2 * k by show (rooms _).length = _; rw [rooms_len, hl2])
      go_wp2_with (first | (at_builtin; refine wpList_append_lies _ rfl _ _ 69 rfl (rb + 1) 3 i1 (.int .i64 0) 1 8 Tryz.underlying69 hi1 hz1 hz2 hz3 rfl (by decide) E _ _ rfl (HOW0.out.alloc _) ⟨wr.heap.size + 1, 0, none⟩ 2 2 [.int .i64 (v : Int), .int .i64 (u : Int)] rfl rfl (World.news_of_block (row_new _ _ _ (by simp [World.setCell]))) (by simp [Value.oneCell']) (by decide) (by unfold maxLen; omega) (by omega) (by have := HM0.out.sz; rw [HV0.out] at this; simp at this ⊢; omega) (wr.heap.size + 1 + 1) (by simp [World.setCell]) ?_; intro g0 cap0 Z0 hown hgrow hat _; obtain ⟨hM1, hz1', hf1, hq1, -⟩ := HM0.out.grow (i := 0) (new := [(v : Int), (u : Int)]) HEE.out (by rw [HC0.out]; try rfl) (by omega) hown (by rw [HV0.out]; exact hgrow) (by rw [HV0.out, World.size_alloc]; exact hat); clear hown hgrow hat; unfold plW at hz1' hf1; have HM1 := Lib.hid (show WhM w (rb + 1) rb bm N [wr.heap.size] _ _ (Z0.setCell ⟨rb, 0, none⟩ (.slice (some ⟨g0, 0, none⟩) (2 * k + 2) cap0)) from hM1); have HQ1 := Lib.hid (show (Z0.setCell ⟨rb, 0, none⟩ (.slice (some ⟨g0, 0, none⟩) (2 * k + 2) cap0)).heap[wr.heap.size]? = _ from (hq1 _ (by simp) _ HA0.out).1); clear hM1 hq1; have HR1 := Lib.hid (show (vs.set 0 (Value.slice (some ⟨g0, 0, none⟩) (2 * k + 2) cap0))[1]? = some R by rw [List.getElem?_set_ne (by decide)]; exact HRR.out); have r1 := (show (Z0.setCell ⟨rb, 0, none⟩ (.slice (some ⟨g0, 0, none⟩) (2 * k + 2) cap0)).cell? ⟨rb, 1, none⟩ = some R from (HM1.out.o.place 1 R HR1.out).1); have a2 := (show (Z0.setCell ⟨rb, 0, none⟩ (.slice (some ⟨g0, 0, none⟩) (2 * k + 2) cap0)).cell? ⟨wr.heap.size, 2, none⟩ = some (.int .i64 cp) from cell_of HQ1.out rfl); have HOW1 := Lib.hid (show (Z0.setCell ⟨rb, 0, none⟩ (.slice (some ⟨g0, 0, none⟩) (2 * k + 2) cap0)).ownsRow (rb + 1) 3 1 R (2 * k) (ints (cW (arsOf (l.take k)) 1)) by have := HM1.out.o.own 1 R HR1.out; rw [show upc (cW (arsOf (l.take k))) 0 [(v : Int), (u : Int)] 1 = cW (arsOf (l.take k)) 1 from if_neg (by decide), HC1.out] at this; exact this)) | (at_builtin; refine wpList_append_lies _ rfl _ _ 69 rfl (rb + 1) 3 i1 (.int .i64 0) 1 8 Tryz.underlying69 hi1 hz1 hz2 hz3 rfl (by decide) R _ _ rfl (HOW1.out.alloc _) ⟨Z0.heap.size, 0, none⟩ 2 2 [.int .i64 cp, .int .i64 0] rfl rfl (World.news_of_block (row_new _ _ _ (by simp [World.setCell]))) (by simp [Value.oneCell']) (by decide) (by unfold maxLen; omega) (by omega) (by have := HM1.out.sz; simp [World.setCell] at this ⊢; omega) (Z0.heap.size + 1) (by simp [World.setCell]) ?_; intro g1 cap1 Z1 hown hgrow hat _; obtain ⟨hM2, hz2', hf2, hq2, -⟩ := HM1.out.grow (i := 1) (new := [cp, 0]) HR1.out (by rw [show upc (cW (arsOf (l.take k))) 0 [(v : Int), (u : Int)] 1 = cW (arsOf (l.take k)) 1 from if_neg (by decide), HC1.out]; try rfl) (by omega) (by rw [show upc (cW (arsOf (l.take k))) 0 [(v : Int), (u : Int)] 1 = cW (arsOf (l.take k)) 1 from if_neg (by decide)]; exact hown) hgrow (by simp [World.setCell]; simpa using hat); clear hown hgrow hat; unfold plW at hz2' hf2; have HM2 := Lib.hid (show WhM w (rb + 1) rb bm N [wr.heap.size] _ _ (Z1.setCell ⟨rb, 1, none⟩ (.slice (some ⟨g1, 0, none⟩) (2 * k + 2) cap1)) from hM2); have HQ2 := Lib.hid (show (Z1.setCell ⟨rb, 1, none⟩ (.slice (some ⟨g1, 0, none⟩) (2 * k + 2) cap1)).heap[wr.heap.size]? = _ from (hq2 _ (by simp) _ HQ1.out).1); clear hM2 hq2 r1 a2 hz1' hf1))
      have hfm : Tryz.prog.follows Departure.mixedOrders = true := by kernel_rfl
      obtain ⟨W2, hW2⟩ : ∃ W, W = Z1.setCell ⟨rb, 1, none⟩ (.slice (some ⟨g1, 0, none⟩) (2 * k + 2) cap1) := ⟨_, rfl⟩
      rw [← hW2] at HM2 HQ2 ⊢
      clear hW2 hz2' hf2
      obtain ⟨VS7, hVS7⟩ : ∃ l, l = ((vs.set 0 (Value.slice (some ⟨g0, 0, none⟩) (2 * k + 2) cap0)).set 1 (.slice (some ⟨g1, 0, none⟩) (2 * k + 2) cap1)) := ⟨_, rfl⟩
      obtain ⟨C7, hC7⟩ : ∃ c, c = upc (upc (cW (arsOf (l.take k))) 0 [(v : Int), (u : Int)]) 1 [cp, 0] := ⟨_, rfl⟩
      have HM7 := Lib.hid (show WhM w (rb + 1) rb bm N [wr.heap.size] VS7 C7 W2 by rw [hVS7, hC7]; exact HM2.out)
      have HQ7 := HQ2
      have CLL : ∀ x : Nat, (upc (upc (cW (arsOf (l.take k))) 0 [(v : Int), (u : Int)]) 1 [cp, 0] (x + 2)).length ≤ 256 := fun x => by
        rw [show upc (upc (cW (arsOf (l.take k))) 0 [(v : Int), (u : Int)]) 1 [cp, 0] (x + 2) = cW (arsOf (l.take k)) (x + 2) from rfl]
        show (natsI (mvs _ x)).length ≤ 256
        unfold natsI mvs
        rw [List.length_map]
        exact Nat.le_trans (List.length_filter_le _ _) (by rw [List.length_range, hl2]; omega)
      have CL7 : (C7 (u + 2)).length ≤ 256 := by rw [hC7]; exact CLL u
      have HVS7 := Lib.hid hVS7
      have HC7 := Lib.hid hC7
      clear hVS7 hC7
      have hl7 := HM7.out.len
      obtain ⟨B7, hB7⟩ : ∃ b, VS7[u + 2]? = some b := ⟨_, List.getElem?_eq_getElem (by omega)⟩
      have c70 := HM7.out.m2
      have c71 : W2.cell? ⟨wr.heap.size, 0, none⟩ = some (.int .i64 (u : Int)) := cell_of HQ7.out rfl
      have c72 := (HM7.out.o.place (u + 2) B7 hB7).1
      have hw7 : IntKind.i64.wrap (2 * (k : Int)) = 2 * (k : Int) := IntWalk.i64_in _ (by omega)
      have HW7 := Lib.hid hw7
      have HB7 := Lib.hid hB7
      unfold plW at c72
      have hnN : (u : Int) < (N : Int) := by omega
      have hZ7 := Lib.hid (show WhM w (rb + 1) rb bm N [wr.heap.size] VS7 C7 W2.drew from HM7.out.drew)
      have HOW7 := Lib.hid (hZ7.out.o.own (u + 2) B7 hB7)
      have hcl7 : (C7 (u + 2)).length ≤ 256 := CL7
      obtain ⟨nn7, hnn7⟩ : ∃ n, n = (C7 (u + 2)).length := ⟨_, rfl⟩
      rw [← hnn7] at HOW7 hcl7
      have HNN7 := Lib.hid hnn7
      clear hw7 hB7 hnn7 hl7
      refine region_z 15 hfm (S := fun X => X.cell? ⟨rb, 2, none⟩ = some (.slice (some ⟨bm, 0, none⟩) N N) ∧ X.cell? ⟨wr.heap.size, 0, none⟩ = some (.int .i64 (u : Int)) ∧ X.cell? ⟨bm, u, none⟩ = some B7) ⟨c70, c71, c72⟩ (fun hHeld => ?_)
      refine takeZ 0 (some 34) (by kernel_rfl) rfl rfl (by kernel_rfl) (by kernel_rfl) (by kernel_rfl) (fun _ _ _ h => h) (by rfl) (by intro w ⟨g1, g2, g3⟩; go_simp; try with_reducible rfl) hHeld ?_
      simp only [Act.put, List.setIfInBounds_toArray, List.set_cons_zero, List.set_cons_succ]
      refine takeZ 1 (some 35) (by kernel_rfl) rfl rfl (by kernel_rfl) (by kernel_rfl) (by kernel_rfl) (fun _ _ _ h => h) (by rfl) (by intro w ⟨g1, g2, g3⟩; go_simp; try with_reducible rfl) hHeld ?_
      simp only [Act.put, List.setIfInBounds_toArray, List.set_cons_zero, List.set_cons_succ]
      refine takeZ 2 (some 36) (by kernel_rfl) rfl rfl (by kernel_rfl) (by kernel_rfl) (by kernel_rfl) (fun _ _ _ h => h) (by rfl) (by intro w ⟨g1, g2, g3⟩; go_simp; try with_reducible rfl) hHeld ?_
      simp only [Act.put, List.setIfInBounds_toArray, List.set_cons_zero, List.set_cons_succ]
      refine takeZ 3 (some 37) (by kernel_rfl) rfl rfl (by kernel_rfl) (by kernel_rfl) (by kernel_rfl) (fun _ _ _ h => h) (by rfl) (by intro w ⟨g1, g2, g3⟩; go_simp; try with_reducible rfl) hHeld ?_
      simp only [Act.put, List.setIfInBounds_toArray, List.set_cons_zero, List.set_cons_succ]
      refine takeZ 4 (some 38) (by kernel_rfl) rfl rfl (by kernel_rfl) (by kernel_rfl) (by kernel_rfl) (fun _ _ _ h => h) (by rfl) (by intro w ⟨g1, g2, g3⟩; go_simp; try with_reducible rfl) hHeld ?_
      simp only [Act.put, List.setIfInBounds_toArray, List.set_cons_zero, List.set_cons_succ]
      refine takeZ 5 (some 39) (by kernel_rfl) rfl rfl (by kernel_rfl) (by kernel_rfl) (by kernel_rfl) (fun _ _ _ h => h) (by rfl) (by intro w ⟨g1, g2, g3⟩; go_simp; try with_reducible rfl) hHeld ?_
      simp only [Act.put, List.setIfInBounds_toArray, List.set_cons_zero, List.set_cons_succ]
      refine takeZ 6 (some 40) (by kernel_rfl) rfl rfl (by kernel_rfl) (by kernel_rfl) (by kernel_rfl) (fun _ _ _ h => h) (by rfl) (by intro w ⟨g1, g2, g3⟩; go_simp; try with_reducible rfl) hHeld ?_
      simp only [Act.put, List.setIfInBounds_toArray, List.set_cons_zero, List.set_cons_succ]
      refine takeZ 7 (some 41) (by kernel_rfl) rfl rfl (by kernel_rfl) (by kernel_rfl) (by kernel_rfl) (fun _ _ _ h => h) (by rfl) (by intro w ⟨g1, g2, g3⟩; go_simp; try with_reducible rfl) hHeld ?_
      simp only [Act.put, List.setIfInBounds_toArray, List.set_cons_zero, List.set_cons_succ]
      refine takeZ 8 (some 42) (by kernel_rfl) rfl rfl (by kernel_rfl) (by kernel_rfl) (by kernel_rfl) (fun _ _ _ h => h) (by rfl) (by intro w ⟨g1, g2, g3⟩; go_simp; try with_reducible rfl) hHeld ?_
      simp only [Act.put, List.setIfInBounds_toArray, List.set_cons_zero, List.set_cons_succ]
      refine takeZ 9 (some 43) (by kernel_rfl) rfl rfl (by kernel_rfl) (by kernel_rfl) (by kernel_rfl) (fun _ _ _ h => h) (by rfl) (by intro w ⟨g1, g2, g3⟩; go_simp; try with_reducible rfl) hHeld ?_
      simp only [Act.put, List.setIfInBounds_toArray, List.set_cons_zero, List.set_cons_succ]
      refine takeZ 10 (some 44) (by kernel_rfl) rfl rfl (by kernel_rfl) (by kernel_rfl) (by kernel_rfl) (fun _ _ _ h => h) (by rfl) (by intro w ⟨g1, g2, g3⟩; go_simp; try with_reducible rfl) hHeld ?_
      simp only [Act.put, List.setIfInBounds_toArray, List.set_cons_zero, List.set_cons_succ]
      refine takeZ 11 (some 45) (by kernel_rfl) rfl rfl (by kernel_rfl) (by kernel_rfl) (by kernel_rfl) (fun _ _ _ h => h) (by rfl) (by intro w ⟨g1, g2, g3⟩; go_simp; try with_reducible rfl) hHeld ?_
      simp only [Act.put, List.setIfInBounds_toArray, List.set_cons_zero, List.set_cons_succ]
      rw [HW7.out]
      refine oneZ 12 rfl (by kernel_rfl) (fun K hK => ?_)
      go_simp
      refine hK.out _ _ (.inr ⟨alloc_cell c70 _, alloc_cell c71 _, alloc_cell c72 _⟩) ?_
      clear hK K
      refine oneZ 13 rfl (by kernel_rfl) (fun K hK => ?_)
      refine step_append_lies _ rfl _ _ 69 rfl (rb + 1) 3 i1 (.int .i64 0) 1 8 Tryz.underlying69 hi1 hz1 hz2 hz3 rfl (by decide) B7 nn7 _ (by simp [Act.eval, Act.put]) (show World.ownsRow ((W2.alloc (.cells #[.int .i64 (2 * (k : Int))] 3)).drew) _ _ _ _ _ _ from HOW7.out.alloc _) ⟨W2.heap.size, 0, none⟩ 1 1 [.int .i64 (2 * (k : Int))] (by simp [Act.eval, Act.put]) rfl (World.news_of_block (heap_alloc_new _ _)) (by simp [Value.oneCell']) (by decide) (by unfold maxLen; omega) (by omega) (by have := hZ7.out.sz; simp at this ⊢; omega) (W2.heap.size + 1) (by simp) ?_
      intro g7 cap7 Z7 hown hgrow hat _
      obtain ⟨hM, hzc, hzf, hqs, hmm⟩ := hZ7.out.grow (i := u + 2) (new := [2 * (k : Int)]) HB7.out (by rw [← HNN7.out]; rfl) (by omega) hown (show World.grownBy ((W2.alloc (.cells #[.int .i64 (2 * (k : Int))] 3)).drew) Z7 _ from hgrow) hat
      obtain ⟨hqf, hqz⟩ := hqs _ (by simp) _ HQ7.out
      have HMN7 := Lib.hid hM
      have HQN7 := Lib.hid hqf
      unfold plW at hzc hzf
      clear hown hgrow hat hM hqs hqf hHeld
      refine hK.out _ _ (.inr ⟨hmm, cell_of hqz rfl, hzc⟩) ?_
      clear hK K
      try simp only [Act.put, List.setIfInBounds_toArray, List.set_cons_zero, List.set_cons_succ]
      have hHeld : Z7.cell? ⟨rb, 2, none⟩ = some (.slice (some ⟨bm, 0, none⟩) N N) ∧ Z7.cell? ⟨wr.heap.size, 0, none⟩ = some (.int .i64 (u : Int)) ∧ Z7.cell? ⟨bm, u, none⟩ = some B7 := ⟨hmm, cell_of hqz rfl, hzc⟩
      refine takeZ 14 (some 48) (by kernel_rfl) rfl rfl (by kernel_rfl) (by kernel_rfl) (by kernel_rfl) (fun _ _ _ h => h) (by rfl) (by intro w ⟨g1, g2, g3⟩; go_simp; try with_reducible rfl) hHeld ?_
      simp only [Act.put, List.setIfInBounds_toArray, List.set_cons_zero, List.set_cons_succ]
      clear hHeld hqz hmm
      refine oneZ 15 rfl (by kernel_rfl) (fun K hK => ?_)
      go_simp
      refine hK.out _ _ (.inl rfl) ?_
      clear hK K hzc hzf c70 c71 c72
      refine doneZ (by kernel_rfl) ?_ _
      go_wp2_with (fail)
      obtain ⟨W3, hW3⟩ : ∃ W, W = Z7.setCell ⟨bm, u, none⟩ (.slice (some ⟨g7, 0, none⟩) (nn7 + 1) cap7) := ⟨_, rfl⟩
      obtain ⟨VS8, hVS8⟩ : ∃ l, l = VS7.set (u + 2) (Value.slice (some ⟨g7, 0, none⟩) (nn7 + 1) cap7) := ⟨_, rfl⟩
      obtain ⟨C8, hC8⟩ : ∃ c, c = upc C7 (u + 2) [2 * (k : Int)] := ⟨_, rfl⟩
      have HM8 := Lib.hid (show WhM w (rb + 1) rb bm N [wr.heap.size] VS8 C8 W3 by rw [hVS8, hC8, hW3]; exact HMN7.out)
      have HQ8 := Lib.hid (show W3.heap[wr.heap.size]? = some (.cells #[.int .i64 (u : Int), .int .i64 (v : Int), .int .i64 cp] 67 (0, 0)) by rw [hW3]; exact HQN7.out)
      have CL8 : (C8 (v + 2)).length ≤ 256 := by
        rw [hC8]
        rw [show upc C7 (u + 2) [2 * (k : Int)] (v + 2) = C7 (v + 2) from if_neg (by omega), HC7.out]
        exact CLL v
      have HC8 := Lib.hid hC8
      rw [← hW3]
      clear hVS8 hC8 hW3 HMN7 HQN7
      have hl8 := HM8.out.len
      obtain ⟨B8, hB8⟩ : ∃ b, VS8[v + 2]? = some b := ⟨_, List.getElem?_eq_getElem (by omega)⟩
      have c80 := HM8.out.m2
      have c81 : W3.cell? ⟨wr.heap.size, 1, none⟩ = some (.int .i64 (v : Int)) := cell_of HQ8.out rfl
      have c82 := (HM8.out.o.place (v + 2) B8 hB8).1
      have hw8 : IntKind.i64.wrap (2 * (k : Int)) = 2 * (k : Int) := IntWalk.i64_in _ (by omega)
      have hwp8 : IntKind.i64.wrap (2 * (k : Int) + 1) = 2 * (k : Int) + 1 := IntWalk.i64_in _ (by omega)
      have HWP8 := Lib.hid hwp8
      clear hwp8
      have HW8 := Lib.hid hw8
      have HB8 := Lib.hid hB8
      unfold plW at c82
      have hnN : (v : Int) < (N : Int) := by omega
      have hZ8 := Lib.hid (show WhM w (rb + 1) rb bm N [wr.heap.size] VS8 C8 W3.drew from HM8.out.drew)
      have HOW8 := Lib.hid (hZ8.out.o.own (v + 2) B8 hB8)
      have hcl8 : (C8 (v + 2)).length ≤ 256 := CL8
      obtain ⟨nn8, hnn8⟩ : ∃ n, n = (C8 (v + 2)).length := ⟨_, rfl⟩
      rw [← hnn8] at HOW8 hcl8
      have HNN8 := Lib.hid hnn8
      clear hw8 hB8 hnn8 hl8
      refine region_z 16 hfm (S := fun X => X.cell? ⟨rb, 2, none⟩ = some (.slice (some ⟨bm, 0, none⟩) N N) ∧ X.cell? ⟨wr.heap.size, 1, none⟩ = some (.int .i64 (v : Int)) ∧ X.cell? ⟨bm, v, none⟩ = some B8) ⟨c80, c81, c82⟩ (fun hHeld => ?_)
      refine takeZ 0 (some 49) (by kernel_rfl) rfl rfl (by kernel_rfl) (by kernel_rfl) (by kernel_rfl) (fun _ _ _ h => h) (by rfl) (by intro w ⟨g1, g2, g3⟩; go_simp; try with_reducible rfl) hHeld ?_
      simp only [Act.put, List.setIfInBounds_toArray, List.set_cons_zero, List.set_cons_succ]
      refine takeZ 1 (some 50) (by kernel_rfl) rfl rfl (by kernel_rfl) (by kernel_rfl) (by kernel_rfl) (fun _ _ _ h => h) (by rfl) (by intro w ⟨g1, g2, g3⟩; go_simp; try with_reducible rfl) hHeld ?_
      simp only [Act.put, List.setIfInBounds_toArray, List.set_cons_zero, List.set_cons_succ]
      refine takeZ 2 (some 51) (by kernel_rfl) rfl rfl (by kernel_rfl) (by kernel_rfl) (by kernel_rfl) (fun _ _ _ h => h) (by rfl) (by intro w ⟨g1, g2, g3⟩; go_simp; try with_reducible rfl) hHeld ?_
      simp only [Act.put, List.setIfInBounds_toArray, List.set_cons_zero, List.set_cons_succ]
      refine takeZ 3 (some 52) (by kernel_rfl) rfl rfl (by kernel_rfl) (by kernel_rfl) (by kernel_rfl) (fun _ _ _ h => h) (by rfl) (by intro w ⟨g1, g2, g3⟩; go_simp; try with_reducible rfl) hHeld ?_
      simp only [Act.put, List.setIfInBounds_toArray, List.set_cons_zero, List.set_cons_succ]
      refine takeZ 4 (some 53) (by kernel_rfl) rfl rfl (by kernel_rfl) (by kernel_rfl) (by kernel_rfl) (fun _ _ _ h => h) (by rfl) (by intro w ⟨g1, g2, g3⟩; go_simp; try with_reducible rfl) hHeld ?_
      simp only [Act.put, List.setIfInBounds_toArray, List.set_cons_zero, List.set_cons_succ]
      refine takeZ 5 (some 54) (by kernel_rfl) rfl rfl (by kernel_rfl) (by kernel_rfl) (by kernel_rfl) (fun _ _ _ h => h) (by rfl) (by intro w ⟨g1, g2, g3⟩; go_simp; try with_reducible rfl) hHeld ?_
      simp only [Act.put, List.setIfInBounds_toArray, List.set_cons_zero, List.set_cons_succ]
      refine takeZ 6 (some 55) (by kernel_rfl) rfl rfl (by kernel_rfl) (by kernel_rfl) (by kernel_rfl) (fun _ _ _ h => h) (by rfl) (by intro w ⟨g1, g2, g3⟩; go_simp; try with_reducible rfl) hHeld ?_
      simp only [Act.put, List.setIfInBounds_toArray, List.set_cons_zero, List.set_cons_succ]
      refine takeZ 7 (some 56) (by kernel_rfl) rfl rfl (by kernel_rfl) (by kernel_rfl) (by kernel_rfl) (fun _ _ _ h => h) (by rfl) (by intro w ⟨g1, g2, g3⟩; go_simp; try with_reducible rfl) hHeld ?_
      simp only [Act.put, List.setIfInBounds_toArray, List.set_cons_zero, List.set_cons_succ]
      refine takeZ 8 (some 57) (by kernel_rfl) rfl rfl (by kernel_rfl) (by kernel_rfl) (by kernel_rfl) (fun _ _ _ h => h) (by rfl) (by intro w ⟨g1, g2, g3⟩; go_simp; try with_reducible rfl) hHeld ?_
      simp only [Act.put, List.setIfInBounds_toArray, List.set_cons_zero, List.set_cons_succ]
      refine takeZ 9 (some 58) (by kernel_rfl) rfl rfl (by kernel_rfl) (by kernel_rfl) (by kernel_rfl) (fun _ _ _ h => h) (by rfl) (by intro w ⟨g1, g2, g3⟩; go_simp; try with_reducible rfl) hHeld ?_
      simp only [Act.put, List.setIfInBounds_toArray, List.set_cons_zero, List.set_cons_succ]
      refine takeZ 10 (some 59) (by kernel_rfl) rfl rfl (by kernel_rfl) (by kernel_rfl) (by kernel_rfl) (fun _ _ _ h => h) (by rfl) (by intro w ⟨g1, g2, g3⟩; go_simp; try with_reducible rfl) hHeld ?_
      simp only [Act.put, List.setIfInBounds_toArray, List.set_cons_zero, List.set_cons_succ]
      refine takeZ 11 (some 60) (by kernel_rfl) rfl rfl (by kernel_rfl) (by kernel_rfl) (by kernel_rfl) (fun _ _ _ h => h) (by rfl) (by intro w ⟨g1, g2, g3⟩; go_simp; try with_reducible rfl) hHeld ?_
      simp only [Act.put, List.setIfInBounds_toArray, List.set_cons_zero, List.set_cons_succ]
      refine takeZ 12 (some 61) (by kernel_rfl) rfl rfl (by kernel_rfl) (by kernel_rfl) (by kernel_rfl) (fun _ _ _ h => h) (by rfl) (by intro w ⟨g1, g2, g3⟩; go_simp; try with_reducible rfl) hHeld ?_
      simp only [Act.put, List.setIfInBounds_toArray, List.set_cons_zero, List.set_cons_succ]
      rw [HW8.out, HWP8.out]
      refine oneZ 13 rfl (by kernel_rfl) (fun K hK => ?_)
      go_simp
      refine hK.out _ _ (.inr ⟨alloc_cell c80 _, alloc_cell c81 _, alloc_cell c82 _⟩) ?_
      clear hK K
      refine oneZ 14 rfl (by kernel_rfl) (fun K hK => ?_)
      refine step_append_lies _ rfl _ _ 69 rfl (rb + 1) 3 i1 (.int .i64 0) 1 8 Tryz.underlying69 hi1 hz1 hz2 hz3 rfl (by decide) B8 nn8 _ (by simp [Act.eval, Act.put]) (show World.ownsRow ((W3.alloc (.cells #[.int .i64 (2 * (k : Int) + 1)] 3)).drew) _ _ _ _ _ _ from HOW8.out.alloc _) ⟨W3.heap.size, 0, none⟩ 1 1 [.int .i64 (2 * (k : Int) + 1)] (by simp [Act.eval, Act.put]) rfl (World.news_of_block (heap_alloc_new _ _)) (by simp [Value.oneCell']) (by decide) (by unfold maxLen; omega) (by omega) (by have := hZ8.out.sz; simp at this ⊢; omega) (W3.heap.size + 1) (by simp) ?_
      intro g8 cap8 Z8 hown hgrow hat _
      obtain ⟨hM, hzc, hzf, hqs, hmm⟩ := hZ8.out.grow (i := v + 2) (new := [2 * (k : Int) + 1]) HB8.out (by rw [← HNN8.out]; rfl) (by omega) hown (show World.grownBy ((W3.alloc (.cells #[.int .i64 (2 * (k : Int) + 1)] 3)).drew) Z8 _ from hgrow) hat
      obtain ⟨hqf, hqz⟩ := hqs _ (by simp) _ HQ8.out
      have HMN8 := Lib.hid hM
      have HQN8 := Lib.hid hqf
      unfold plW at hzc hzf
      clear hown hgrow hat hM hqs hqf hHeld
      refine hK.out _ _ (.inr ⟨hmm, cell_of hqz rfl, hzc⟩) ?_
      clear hK K
      try simp only [Act.put, List.setIfInBounds_toArray, List.set_cons_zero, List.set_cons_succ]
      have hHeld : Z8.cell? ⟨rb, 2, none⟩ = some (.slice (some ⟨bm, 0, none⟩) N N) ∧ Z8.cell? ⟨wr.heap.size, 1, none⟩ = some (.int .i64 (v : Int)) ∧ Z8.cell? ⟨bm, v, none⟩ = some B8 := ⟨hmm, cell_of hqz rfl, hzc⟩
      refine takeZ 15 (some 64) (by kernel_rfl) rfl rfl (by kernel_rfl) (by kernel_rfl) (by kernel_rfl) (fun _ _ _ h => h) (by rfl) (by intro w ⟨g1, g2, g3⟩; go_simp; try with_reducible rfl) hHeld ?_
      simp only [Act.put, List.setIfInBounds_toArray, List.set_cons_zero, List.set_cons_succ]
      clear hHeld hqz hmm
      refine oneZ 16 rfl (by kernel_rfl) (fun K hK => ?_)
      go_simp
      refine hK.out _ _ (.inl rfl) ?_
      clear hK K hzc hzf c80 c81 c82
      refine doneZ (by kernel_rfl) ?_ _
      have HFIN := Lib.hid (show WhM w (rb + 1) rb bm N [] (VS8.set (v + 2) (Value.slice (some ⟨g8, 0, none⟩) (nn8 + 1) cap8)) (cW (arsOf (l.take (k + 1)))) (Z8.setCell ⟨bm, v, none⟩ (.slice (some ⟨g8, 0, none⟩) (nn8 + 1) cap8)) by
        have h := HMN8.out.few
        rw [HC8.out, HC7.out] at h
        rw [arsOf_take HX.out, cW_snoc, hl2]
        have e1 : (arOf ((u : Int), (v : Int), cp)).u = u := by simp [arOf]
        have e2 : (arOf ((u : Int), (v : Int), cp)).v = v := by simp [arOf]
        have e3 : (arOf ((u : Int), (v : Int), cp)).cap - (arOf ((u : Int), (v : Int), cp)).x = cp := by simp [arOf]
        have e4 : (arOf ((u : Int), (v : Int), cp)).x = 0 := rfl
        rw [e1, e2, e3, e4]
        exact h)
      clear HMN8 HQN8
      go_wp2_with (fail)
      go_roundw
      case rel => exact ⟨k + 1, _, by omega, by go_num, HFIN⟩
      case measure => simp only [intOf]; omega
    · obtain rfl : k = l.length := by omega
      rw [List.take_length] at hM
      obtain ⟨E, hE⟩ : ∃ v, vs[0]? = some v := ⟨_, List.getElem?_eq_getElem (by have := hM.out.len; omega)⟩
      obtain ⟨R, hR⟩ : ∃ v, vs[1]? = some v := ⟨_, List.getElem?_eq_getElem (by have := hM.out.len; omega)⟩
      have e0 := (hM.out.o.place 0 E hE).1
      have e1 := (hM.out.o.place 1 R hR).1
      have e2 := hM.out.m2
      unfold plW at e0 e1
      obtain ⟨AE, nE, cE, rfl⟩ := own_shape (hM.out.o.own 0 E hE)
      obtain ⟨AR, nR, cR, rfl⟩ := own_shape (hM.out.o.own 1 R hR)
      have hres := hM.out.res
      obtain ⟨q0, q1, q2⟩ := three_cells hres
      obtain ⟨f0, f1, f2⟩ := three_frozen hres
      have HE := Lib.hid hE
      have HR := Lib.hid hR
      have HRES := Lib.hid hres
      clear hE hR hres
      go_wp2_with (fail)
      refine bodyPost_ret (v := .agg #[.slice AE nE cE, .slice AR nR cR, .slice (some ⟨bm, 0, none⟩) N N]) ?_ rfl ?_
      · have h3 := row_store3 HRES.out (.slice AE nE cE) (.slice AR nR cR) (.slice (some ⟨bm, 0, none⟩) N N)
        obtain ⟨c0, c1, c2⟩ := three_cells h3
        simp [results, Tryz.results91, go_sem, c0, c1, c2]
      · exact whole_end hM.out (by omega) (by rw [arsOf_len]; exact hl128) hN64' HE.out HR.out
end Go.Proofs.YtidpiokkfnhobaaGreat.v5

namespace Go.Proofs.YtidpiokkfnhobaaGreat.v5
open Go.RowKit Go.Shelf
set_option maxRecDepth 100000
set_option linter.unusedSimpArgs false
set_option linter.unusedVariables false

/-- A flow of a net that leaves no way. -/
structure Best (N s t : Nat) (L : List (Int × Int × Int)) (lf : List Ar) (val : Int) : Prop where
  flow : IsFlow N lf s t
  ends_ : ends lf = ends (arsOf L)
  value : gain lf s = val
  no : ¬ Reach lf s t
/-- What greatest returns. -/
def GrPost (N s t : Nat) (L : List (Int × Int × Int)) (w : World) (e : Ending) (w' : World) : Prop :=
  ∃ (r : Rs) (lf : List Ar) (val : Int), e = .returned (.tuple #[.int .i64 val, r.val N]) ∧ Best N s t L lf val ∧ RShape r N lf ∧ Row w' r.bR r.oR (rooms lf) ∧ r.bR < w'.heap.size ∧ w.heap.size ≤ r.bR ∧ (∀ Y, KpG (fun k => k ≠ r.bR ∧ w.heap.size + 2 ≤ k) w' Y → RFix Y r N lf) ∧ Below w.heap.size w w'
theorem arsOf_nodes {N : Nat} {L : List (Int × Int × Int)} (h : ∀ a ∈ L, arOk (N : Int) a = true) : ∀ a ∈ arsOf L, a.u < N ∧ a.v < N ∧ a.cap ≤ 100000000 ∧ 0 ≤ a.cap ∧ a.x = 0 := fun a ha => by
  unfold arsOf at ha
  obtain ⟨b, hb, rfl⟩ := List.mem_map.1 ha
  obtain ⟨h1, h2, h3, h4, h5⟩ := arOk_iff.1 (h b hb)
  refine ⟨?_, ?_, h5, h4, rfl⟩
  · show b.1.toNat < N; omega
  · show b.2.1.toNat < N; omega
set_option maxHeartbeats 8000000 in
theorem c_greatest (N s t : Nat) (L : Value) (l : List (Int × Int × Int)) (hs : s < N) (ht : t < N) (hst : s ≠ t) (w : World) (hL : PtSl w L l) (hok : ntOk (N : Int) l = true) :
    Calls Tryz.prog 56 #[ntV (N : Int) L, .int .i64 (s : Int), .int .i64 (t : Int)] w (GrPost N s t l w) := by
  obtain ⟨A, c, rfl, hc1, hc2⟩ := hL.shape
  obtain ⟨hN2, hN64, hl128, hall⟩ := ntOk_iff.1 hok
  have hnd := arsOf_nodes hall
  obtain ⟨W, hW⟩ : ∃ W, W = (w.alloc (.cells #[.int .i64 (N : Int), .slice A l.length c] 44)).alloc (.cells #[.slice none 0 0, .slice none 0 0, .slice none 0 0] 95) := ⟨_, rfl⟩
  have B0 : Below w.heap.size w W := by subst hW; exact ((Below.refl _ _).alloc (Nat.le_refl _) _).alloc (by simp) _
  have hz0 : W.heap.size = w.heap.size + 2 := by subst hW; simp
  have HWH := Lib.hid (c_whole N (.slice A l.length c) l W (hL.on B0 (Nat.le_refl _)) hok)
  have HX := Lib.hid (show W.heap[w.heap.size]? = some (.cells #[.int .i64 (N : Int), .slice A l.length c] 44 (0, 0)) by subst hW; exact old_heap _ (heap_alloc_new _ _))
  have HZ := Lib.hid (show W.heap[w.heap.size + 1]? = some (.cells #[.slice none 0 0, .slice none 0 0, .slice none 0 0] 95 (0, 0)) by subst hW; exact row_new _ _ _ (by simp))
  have x0 : W.cell? ⟨w.heap.size, 0, none⟩ = some (.int .i64 (N : Int)) := cell_of HX.out rfl
  have x1 : W.cell? ⟨w.heap.size, 1, none⟩ = some (.slice A l.length c) := cell_of HX.out rfl
  have HB0 := Lib.hid B0
  have HND := Lib.hid hnd
  unfold ntV at HWH ⊢
  clear hL hok hall hnd B0
  rw [hW] at x0 x1
  go_enter Tryz.func56, Tryz.ntmps56
  go_wp2_with (fail)
  rw [← hW]
  clear hW x0 x1
  go_at_call 91
  refine HWH.out.mono ?_
  rintro e w1 ⟨r, rfl, hsh, hbR, hbR2, hrr, hfx, hb1⟩
  obtain ⟨A1, n1, c1, hE⟩ := hsh.es
  obtain ⟨A2, n2, c2, hR⟩ := hsh.rs
  unfold Rs.val Rs.M
  rw [hE, hR]
  obtain ⟨b9, hb9⟩ : ∃ b, b = w1.heap.size := ⟨_, rfl⟩
  obtain ⟨V, hV⟩ : ∃ V, V = w1.alloc (.cells #[.slice A1 n1 c1, .slice A2 n2 c2, .slice (some ⟨r.bM, r.oM, none⟩) N r.cM] 95) := ⟨_, rfl⟩
  have hz1 := hb1.size
  have HBV := Lib.hid (show Below w.heap.size w V by subst hV; exact (below_join HB0.out hb1 HB0.out.size).alloc (by omega) _)
  have H9 := Lib.hid (show V.heap[b9]? = some (.cells #[.slice A1 n1 c1, .slice A2 n2 c2, .slice (some ⟨r.bM, r.oM, none⟩) N r.cM] 95 (0, 0)) by subst hV; exact row_new _ _ _ hb9)
  have H7 := Lib.hid (show V.heap[w.heap.size + 1]? = some (.cells #[.slice none 0 0, .slice none 0 0, .slice none 0 0] 95 (0, 0)) by subst hV; exact old_heap _ ((hb1.block _ (by omega)).trans HZ.out))
  have HRR := Lib.hid (show Row V r.bR r.oR (rooms (arsOf l)) by subst hV; exact hrr.kept fun cs t fr h => old_heap _ h)
  have hbV : r.bR < V.heap.size ∧ r.bR < b9 ∧ w.heap.size + 2 ≤ r.bR := by subst hV; simp; omega
  have HFX := Lib.hid (show ∀ Y, KpG (fun k => k ≠ r.bR ∧ w.heap.size + 2 ≤ k) V Y → RFix Y r N (arsOf l) from fun Y hY => hfx Y ⟨Nat.le_trans (by subst hV; simp) hY.size, fun k cs t fr hk hc => hY.same k cs t fr ⟨hk.1, by have := hk.2; omega⟩ (by subst hV; exact old_heap _ hc)⟩)
  have HSH := Lib.hid hsh
  have HE := Lib.hid hE
  have HR := Lib.hid hR
  have hlen : (arsOf l).length ≤ 128 := by rw [arsOf_len]; omega
  obtain ⟨hfl0, hg0⟩ := IsFlow.none (s := s) (t := t) (fun a ha => ⟨(HND.out a ha).1, (HND.out a ha).2.1⟩) (fun a ha => ⟨(HND.out a ha).2.2.2.2, (HND.out a ha).2.2.2.1⟩)
  have HFL0 := Lib.hid hfl0
  have HG0 := Lib.hid hg0
  clear hb1 hrr hfx hsh hE hR HWH hfl0 hg0
  rw [← hb9] at hz1
  have hb9' : w1.heap.size ≤ b9 ∧ b9 ≤ w1.heap.size := by omega
  go_wp2_with (fail)
  rw [← hb9, ← hV]
  clear hV hb9
  go_loopw [8] (fun v wr => ∃ (lf : List Ar) (val : Int), v = .int .i64 val ∧ 0 ≤ val ∧ val ≤ 12800000000 ∧ Hid (IsFlow N lf s t) ∧ Hid (ends lf = ends (arsOf l)) ∧ Hid (gain lf s = val) ∧ Hid (Row wr r.bR r.oR (rooms lf)) ∧ Hid (Out (fun k => k = r.bR) V wr)) (fun v _ => (12800000000 - intOf v).toNat)
  case atStart => exact ⟨arsOf l, 0, rfl, by omega, by omega, HFL0, Lib.hid rfl, HG0, HRR, Lib.hid (Out.refl _)⟩
  case round =>
    obtain ⟨lf, val, rfl, hv0, hv1, hfl, hen, hgn, hrr, hout⟩ := hrel
    have h9 := hout.out.same b9 _ (by omega) H9.out
    obtain ⟨y0, y1, y2⟩ := three_cells h9
    have hnl : ∀ a ∈ lf, a.u < N ∧ a.v < N ∧ a.cap ≤ 100000000 := caps_ends hen.out (fun a ha => ⟨(HND.out a ha).1, (HND.out a ha).2.1, (HND.out a ha).2.2.1⟩)
    have HSD := Lib.hid (c_send r N s t lf (by omega) hs ht (by rw [ends_len hen.out]; exact hlen) hnl hfl.out.fits (rShape_same HSH.out hen.out) wr (Nat.lt_of_lt_of_le hbV.1 hout.out.size) (fun Y hY => rFix_same (HFX.out Y ((hout.out.kp (fun k hk => hk.1)).trans ⟨hY.size, fun k cs t fr hk hc => hY.same k cs t fr hk.1 hc⟩)) hen.out) hrr.out)
    unfold Rs.val Rs.M at HSD
    rw [HE.out, HR.out] at HSD
    have HNL := Lib.hid hnl
    have H9' := Lib.hid h9
    clear hnl h9
    go_wp2_with (fail)
    go_at_call 92
    refine HSD.out.mono ?_
    rintro e w2 ⟨d, l', rfl, hd0, he2, hf2, hg2, hno, hr2, ho2⟩
    have ho2' := hout.out.trans ho2
    by_cases hd : d = 0
    · obtain ⟨e3, hnr⟩ := hno hd
      subst e3
      subst hd
      have h92 := ho2'.same b9 _ (by omega) H9.out
      have h72 := ho2'.same (w.heap.size + 1) _ (by omega) H7.out
      obtain ⟨z0, z1, z2⟩ := three_cells h92
      obtain ⟨q0, q1, q2⟩ := three_cells h72
      obtain ⟨f0, f1, f2⟩ := three_frozen h72
      have hb79 : b9 ≠ w.heap.size + 1 := by omega
      have H72 := Lib.hid h72
      have HP := Lib.hid (fun (x0 x1 x2 : Value) => show GrPost N s t l w (.returned (.tuple #[.int .i64 val, .agg #[.slice A1 n1 c1, .slice A2 n2 c2, .slice (some ⟨r.bM, r.oM, none⟩) N r.cM]])) (((w2.setCell ⟨w.heap.size + 1, 0, none⟩ x0).setCell ⟨w.heap.size + 1, 1, none⟩ x1).setCell ⟨w.heap.size + 1, 2, none⟩ x2).drew from
        ⟨r, l', val, by unfold Rs.val Rs.M; rw [HE.out, HR.out], ⟨hfl.out, hen.out, hgn.out, hnr⟩, rShape_same HSH.out hen.out, ((hr2.other (b' := w.heap.size + 1) (i := 0) (by omega) x0).other (b' := w.heap.size + 1) (i := 1) (by omega) x1).other (b' := w.heap.size + 1) (i := 2) (by omega) x2, by have := ho2'.size; simp [World.setCell]; omega, by omega,
          fun Y hY => rFix_same (HFX.out Y ⟨Nat.le_trans ho2'.size (Nat.le_trans (by simp [World.setCell]) hY.size), fun k cs t fr hk hc => by
            have e : k ≠ w.heap.size + 1 := by have := hk.2; omega
            exact hY.same k cs t fr hk (by
              show (((w2.setCell ⟨w.heap.size + 1, 0, none⟩ x0).setCell ⟨w.heap.size + 1, 1, none⟩ x1).setCell ⟨w.heap.size + 1, 2, none⟩ x2).heap[k]? = _
              rw [Below.heap_setCell _ ⟨w.heap.size + 1, 2, none⟩ _ k e, Below.heap_setCell _ ⟨w.heap.size + 1, 1, none⟩ _ k e, Below.heap_setCell _ ⟨w.heap.size + 1, 0, none⟩ _ k e]; exact ho2'.same k _ hk.1 hc)⟩) hen.out,
          ((((ho2'.below HBV.out (fun i hi e => by omega)).setCell (by show w.heap.size ≤ w.heap.size + 1; omega) _).setCell (by show w.heap.size ≤ w.heap.size + 1; omega) _).setCell (by show w.heap.size ≤ w.heap.size + 1; omega) _).drew⟩)
      clear hfl hen hgn hrr hout hr2 ho2 ho2' hno hnr hf2 hg2 he2 h72 h92 y0 y1 y2 hd0
      go_wp2_with (fail)
      go_region
      go_wp2_with (fail)
      have HP' := Lib.hid (HP.out (.slice A1 n1 c1) (.slice A2 n2 c2) (.slice (some ⟨r.bM, r.oM, none⟩) N r.cM))
      have h3 := row_store3 H72.out (.slice A1 n1 c1) (.slice A2 n2 c2) (.slice (some ⟨r.bM, r.oM, none⟩) N r.cM)
      obtain ⟨WF, hWF⟩ : ∃ W', W' = (((w2.setCell ⟨w.heap.size + 1, 0, none⟩ (.slice A1 n1 c1)).setCell ⟨w.heap.size + 1, 1, none⟩ (.slice A2 n2 c2)).setCell ⟨w.heap.size + 1, 2, none⟩ (.slice (some ⟨r.bM, r.oM, none⟩) N r.cM)).drew := ⟨_, rfl⟩
      have h4 : WF.heap[w.heap.size + 1]? = _ := (by rw [hWF]; exact h3 : WF.heap[w.heap.size + 1]? = some (.cells #[.slice A1 n1 c1, .slice A2 n2 c2, .slice (some ⟨r.bM, r.oM, none⟩) N r.cM] 95 (0, 0)))
      obtain ⟨c0, c1', c2'⟩ := three_cells h4
      rw [← hWF] at HP' ⊢
      clear hWF h3 h4
      refine bodyPost_ret (v := .tuple #[.int .i64 val, .agg #[.slice A1 n1 c1, .slice A2 n2 c2, .slice (some ⟨r.bM, r.oM, none⟩) N r.cM]]) ?_ rfl HP'.out
      simp [results, Tryz.results56, go_sem, c0, c1', c2']
    · have hdpos : 0 < d := by omega
      have hdz : (d == 0) = false := by rw [beq_eq_false_iff_ne]; exact hd
      obtain ⟨hfl', hgn'⟩ := hfl.out.sent hst he2 hf2 hg2
      rw [hgn.out] at hgn'
      have hen' := he2.trans hen.out
      have hcaps : ∀ a ∈ l', a.cap ≤ 100000000 := fun a ha => (caps_ends he2 HNL.out a ha).2.2
      have hvb := value_bound (M := 100000000) hfl' hs hst hcaps (by decide)
      have hll : l'.length ≤ 128 := by rw [ends_len hen']; exact hlen
      rw [hgn'] at hvb
      have hvb2 : val + d ≤ 12800000000 := by omega
      have HF := Lib.hid hfl'
      have HG := Lib.hid hgn'
      have HEN := Lib.hid hen'
      have HR2 := Lib.hid hr2
      have HO2 := Lib.hid ho2'
      clear hfl hen hgn hrr hout hr2 ho2 ho2' hno hf2 hg2 he2 y0 y1 y2 hfl' hgn' hen' hcaps hvb hll hd
      go_wp2_with (fail)
      go_roundw
      case rel => exact ⟨l', val + d, rfl, by omega, hvb2, HF, HEN, HG, HR2, HO2⟩
      case measure => simp only [intOf]; omega
end Go.Proofs.YtidpiokkfnhobaaGreat.v5

namespace Go.Proofs.YtidpiokkfnhobaaGreat.v5
set_option linter.unusedSimpArgs false
set_option linter.unusedVariables false

def zipX (l : List (Int × Int × Int)) (xs : List Int) : List Ar := List.zipWith (fun a x => { arOf a with x := x }) l xs
theorem zipX_snoc {l : List (Int × Int × Int)} {xs : List Int} {k : Nat} {a : Int × Int × Int} {x : Int} (h1 : l[k]? = some a) (h2 : xs[k]? = some x) : zipX (l.take (k + 1)) (xs.take (k + 1)) = zipX (l.take k) (xs.take k) ++ [{ arOf a with x := x }] := by
  obtain ⟨g1, e1⟩ := List.getElem?_eq_some_iff.1 h1
  obtain ⟨g2, e2⟩ := List.getElem?_eq_some_iff.1 h2
  unfold zipX
  rw [List.take_succ_eq_append_getElem g1, List.take_succ_eq_append_getElem g2, List.zipWith_append (by rw [List.length_take, List.length_take]; omega), e1, e2]
  rfl
theorem gain_snoc (l : List Ar) (a : Ar) (n : Nat) : gain (l ++ [a]) n = gain l n + ((if a.u = n then a.x else 0) - (if a.v = n then a.x else 0)) := by
  unfold gain
  rw [List.map_append, List.sum_append]; simp
def gainsL (N : Nat) (l : List Ar) : List Int := (List.range N).map (gain l)
theorem gainsL_len (N : Nat) (l : List Ar) : (gainsL N l).length = N := by simp [gainsL]
theorem gainsL_get {N n : Nat} (l : List Ar) (h : n < N) : (gainsL N l)[n]? = some (gain l n) := by simp [gainsL, h]
theorem gainsL_snoc {N : Nat} (l : List Ar) (a : Ar) (hu : a.u < N) (hv : a.v < N) (hne : a.u ≠ a.v) : gainsL N (l ++ [a]) = ((gainsL N l).set a.u (gain l a.u + a.x)).set a.v (gain l a.v - a.x) := by
  apply List.ext_getElem?
  intro n
  rw [List.getElem?_set, List.getElem?_set, List.length_set, gainsL_len]
  by_cases h : n < N
  · rw [gainsL_get _ h, gainsL_get _ h, gain_snoc]
    by_cases e2 : a.v = n
    · subst e2
      rw [if_neg hne, if_pos rfl, if_pos rfl, if_pos hv]
      congr 1; omega
    · by_cases e1 : a.u = n
      · subst e1
        rw [if_pos rfl, if_neg e2, if_neg e2, if_pos rfl, if_pos hu]
        congr 1; omega
      · rw [if_neg e1, if_neg e2, if_neg e2, if_neg e1]
        congr 1; omega
  · rw [List.getElem?_eq_none (by rw [gainsL_len]; omega), List.getElem?_eq_none (by rw [gainsL_len]; omega)]
    have e2 : ¬ a.v = n := by omega
    have e1 : ¬ a.u = n := by omega
    simp [e1, e2, gainsL, h]
theorem gain_bound {M : Int} (h0 : 0 ≤ M) : ∀ (l : List Ar), (∀ a ∈ l, 0 ≤ a.x ∧ a.x ≤ M) → ∀ n, -(M * (l.length : Int)) ≤ gain l n ∧ gain l n ≤ M * (l.length : Int)
  | [], _, n => by simp [gain]
  | a :: l, h, n => by
    have h1 := h a (by simp)
    have h2 := gain_bound h0 l (fun b hb => h b (List.mem_cons_of_mem _ hb)) n
    rw [gain_cons, List.length_cons, show ((l.length + 1 : Nat) : Int) = (l.length : Int) + 1 by omega, Int.mul_add]
    by_cases e1 : a.u = n <;> by_cases e2 : a.v = n <;> simp [e1, e2] <;> omega
def fitAt (l : List (Int × Int × Int)) (xs : List Int) (i : Nat) : Bool := !decide (xs.getD i 0 < 0) && !decide ((l.getD i (0, 0, 0)).2.2 < xs.getD i 0)
def fitB (l : List (Int × Int × Int)) (xs : List Int) : Bool := decide (xs.length = l.length) && (List.range l.length).all (fitAt l xs)
def evenAt (l : List Ar) (s t : Int) (n : Nat) : Bool := gain l n == 0 || ((n : Int) == s || (n : Int) == t)
theorem fitB_iff {l : List (Int × Int × Int)} {xs : List Int} : fitB l xs = true ↔ xs.length = l.length ∧ ∀ i, i < l.length → 0 ≤ xs.getD i 0 ∧ xs.getD i 0 ≤ (l.getD i (0, 0, 0)).2.2 := by
  unfold fitB fitAt
  rw [Bool.and_eq_true, decide_eq_true_iff, List.all_eq_true]
  refine and_congr_right fun _ => ⟨fun h i hi => ?_, fun h i hi => ?_⟩
  · have := h i (List.mem_range.2 hi)
    simp at this ⊢
    omega
  · have := h i (List.mem_range.1 hi)
    simp at this ⊢
    omega
end Go.Proofs.YtidpiokkfnhobaaGreat.v5

namespace Go.Proofs.YtidpiokkfnhobaaGreat.v5
open Go.RowKit Go.Shelf
set_option maxRecDepth 100000
set_option linter.unusedSimpArgs false
set_option linter.unusedVariables false

theorem retTTT {fn : Func} {a : Act} {W : World} {R : Ending → World → Prop} {i j k : Nat} {x y z : Value} (hfn : fn.results = #[.tmp i, .tmp j, .tmp k]) (hi : a.tmps[i]?.getD undef = x) (hj : a.tmps[j]?.getD undef = y) (hk : a.tmps[k]?.getD undef = z) (hd : a.defers = [])
    (hR : R (.returned (.tuple #[x, y, z])) W) : bodyPost Tryz.prog fn R .ret a W :=
  bodyPost_ret (v := .tuple #[x, y, z]) (by simp [results, hfn, hi, hj, hk, go_sem]) hd hR
theorem own_mono {w : World} {base base' : Nat} {e : TypeId} {size : Nat} {v : Value} {n : Nat} {xs : List Value} (h : w.ownsRow base e size v n xs) (hb : base' ≤ base) : w.ownsRow base' e size v n xs :=
  ⟨h.1, h.2.imp id fun ⟨g, cap, cur, h1, h2, h3⟩ => ⟨g, cap, cur, h1, Nat.le_trans hb h2, h3⟩⟩
set_option maxHeartbeats 4000000 in
theorem c_MaxE (N : Int) (L : Value) (l : List (Int × Int × Int)) (s t : Int) (w : World) (hL : PtSl w L l) (r : Int) (hr : nfault N l s t = r) (h0 : r ≠ 0) :
    Calls Tryz.prog 38 #[ntV N L, .int .i64 s, .int .i64 t] w fun e w' => e = .returned (.tuple #[.int .i64 0, .slice none 0 0, .int .i64 r]) ∧ Below w.heap.size w w' := by
  obtain ⟨A, c, rfl, hc1, hc2⟩ := hL.shape
  obtain ⟨W, hW⟩ : ∃ W, W = w.alloc (.cells #[.int .i64 N, .slice A l.length c] 44) := ⟨_, rfl⟩
  have B0 : Below w.heap.size w W := by subst hW; exact (Below.refl _ _).alloc (Nat.le_refl _) _
  have HB0 := Lib.hid B0
  have HX := Lib.hid (show W.heap[w.heap.size]? = some (.cells #[.int .i64 N, .slice A l.length c] 44 (0, 0)) by subst hW; exact heap_alloc_new _ _)
  have x0 : W.cell? ⟨w.heap.size, 0, none⟩ = some (.int .i64 N) := cell_of HX.out rfl
  have x1 : W.cell? ⟨w.heap.size, 1, none⟩ = some (.slice A l.length c) := cell_of HX.out rfl
  have HF := Lib.hid (c_fault N (.slice A l.length c) l s t W (hL.on B0 (Nat.le_refl _)) r hr)
  have hrz : (r != 0) = true := by rw [bne_iff_ne]; exact h0
  unfold ntV at HF ⊢
  clear B0 hL hr h0
  rw [hW] at x0 x1
  go_enter Tryz.func38, Tryz.ntmps38
  go_wp2_with (fail)
  rw [← hW]
  clear hW x0 x1
  go_at_call 55
  refine HF.out.mono ?_
  rintro e w1 ⟨rfl, hb⟩
  have HB := Lib.hid (below_join HB0.out hb HB0.out.size)
  clear hb
  go_wp2_with (fail)
  exact retTTT rfl rfl rfl rfl rfl ⟨rfl, HB.out⟩
/-- What Max returns for a net and two nodes. -/
def MxPost (N s t : Nat) (l : List (Int × Int × Int)) (w : World) (e : Ending) (w' : World) : Prop :=
  ∃ (lf : List Ar) (val : Int) (v : Value), e = .returned (.tuple #[.int .i64 val, v, .int .i64 0]) ∧ Best N s t l lf val ∧ w'.ownsRow w.heap.size 3 1 v lf.length (ints (lf.map Ar.x)) ∧ Below w.heap.size w w'
set_option maxHeartbeats 8000000 in
theorem c_Max0 (N s t : Nat) (L : Value) (l : List (Int × Int × Int)) (hs : s < N) (ht : t < N) (hst : s ≠ t) (w : World) (hL : PtSl w L l) (hok : ntOk (N : Int) l = true) :
    Calls Tryz.prog 38 #[ntV (N : Int) L, .int .i64 (s : Int), .int .i64 (t : Int)] w (MxPost N s t l w) := by
  obtain ⟨A, c, rfl, hc1, hc2⟩ := hL.shape
  have hl128 := (ntOk_iff.1 hok).2.2.1
  have hf0 : nfault (N : Int) l (s : Int) (t : Int) = 0 := by
    unfold nfault
    rw [if_pos hok, show ndOk (N : Int) (s : Int) = true from ndOk_iff.2 (by omega), show ndOk (N : Int) (t : Int) = true from ndOk_iff.2 (by omega)]
    have : ((s : Int) == (t : Int)) = false := by rw [beq_eq_false_iff_ne]; omega
    rw [this]; rfl
  obtain ⟨W, hW⟩ : ∃ W, W = w.alloc (.cells #[.int .i64 (N : Int), .slice A l.length c] 44) := ⟨_, rfl⟩
  have B0 : Below w.heap.size w W := by subst hW; exact (Below.refl _ _).alloc (Nat.le_refl _) _
  have hzw : w.heap.size < W.heap.size := by subst hW; simp
  have HB0 := Lib.hid B0
  have HX := Lib.hid (show W.heap[w.heap.size]? = some (.cells #[.int .i64 (N : Int), .slice A l.length c] 44 (0, 0)) by subst hW; exact heap_alloc_new _ _)
  have x0 : W.cell? ⟨w.heap.size, 0, none⟩ = some (.int .i64 (N : Int)) := cell_of HX.out rfl
  have x1 : W.cell? ⟨w.heap.size, 1, none⟩ = some (.slice A l.length c) := cell_of HX.out rfl
  have hLW := hL.on B0 (Nat.le_refl _)
  have HF := Lib.hid (c_fault (N : Int) (.slice A l.length c) l s t W hLW 0 hf0)
  have HG := Lib.hid (fun (X : World) (hX : PtSl X (.slice A l.length c) l) => c_greatest N s t (.slice A l.length c) l hs ht hst X hX hok)
  have HLW := Lib.hid hLW
  unfold ntV at HF HG ⊢
  clear B0 hL hok hf0 hLW
  rw [hW] at x0 x1
  go_enter Tryz.func38, Tryz.ntmps38
  go_wp2_with (fail)
  rw [← hW]
  clear hW x0 x1
  go_at_call 55
  refine HF.out.mono ?_
  rintro e w1 ⟨rfl, hb⟩
  have HX1 := Lib.hid ((hb.block _ (at_lt HX.out)).trans HX.out)
  have x0 : w1.cell? ⟨w.heap.size, 0, none⟩ = some (.int .i64 (N : Int)) := cell_of HX1.out rfl
  have x1 : w1.cell? ⟨w.heap.size, 1, none⟩ = some (.slice A l.length c) := cell_of HX1.out rfl
  have HB1 := Lib.hid (below_join HB0.out hb HB0.out.size)
  have HL1 := Lib.hid (HLW.out.on hb (Nat.le_refl _))
  have hz1 : W.heap.size ≤ w1.heap.size := hb.size
  clear hb
  go_wp2_with (fail)
  go_at_call 56
  refine (HG.out _ HL1.out).mono ?_
  rintro e w2 ⟨r, lf, val, rfl, hbest, hsh, hrr, hbR, -, -, hb2⟩
  obtain ⟨A1, n1, c1, hE⟩ := hsh.es
  obtain ⟨A2, n2, c2, hR⟩ := hsh.rs
  unfold Rs.val Rs.M
  rw [hE, hR]
  have HE := Lib.hid hE
  have HR := Lib.hid hR
  obtain ⟨b9, hb9⟩ : ∃ b, b = w2.heap.size := ⟨_, rfl⟩
  obtain ⟨V, hV⟩ : ∃ V, V = w2.alloc (.cells #[.slice A1 n1 c1, .slice A2 n2 c2, .slice (some ⟨r.bM, r.oM, none⟩) N r.cM] 95) := ⟨_, rfl⟩
  have hzV : V.heap.size = b9 + 1 := by subst hV; simp [hb9]
  have hzb : w1.heap.size ≤ b9 := by rw [hb9]; exact hb2.size
  have HBV := Lib.hid (show Below w.heap.size w V by subst hV; exact (below_join HB1.out hb2 HB1.out.size).alloc (by omega) _)
  have H9 := Lib.hid (show V.heap[b9]? = some (.cells #[.slice A1 n1 c1, .slice A2 n2 c2, .slice (some ⟨r.bM, r.oM, none⟩) N r.cM] 95 (0, 0)) by subst hV; exact row_new _ _ _ hb9)
  have HRR := Lib.hid (show Row V r.bR r.oR (rooms lf) by subst hV; exact hrr.kept fun cs t fr h => old_heap _ h)
  have HXV := Lib.hid (show V.heap[w.heap.size]? = some (.cells #[.int .i64 (N : Int), .slice A l.length c] 44 (0, 0)) by subst hV; exact old_heap _ ((hb2.block _ (by omega)).trans HX1.out))
  have v1 : V.cell? ⟨w.heap.size, 1, none⟩ = some (.slice A l.length c) := cell_of HXV.out rfl
  have hll : lf.length = l.length := by rw [ends_len hbest.ends_, arsOf_len]
  have HSH := Lib.hid hsh
  have HBEST := Lib.hid hbest
  have HLL := Lib.hid hll
  obtain ⟨i1, hi1, hz1', hz2, hz3⟩ := info_parts int_info
  rw [hV] at v1
  clear hb2 hrr hsh hbest hE hR x0 x1 hll
  go_wp2_with (fail)
  rw [← hV]
  rw [← hb9]
  clear hV v1 hb9
  go_loopw [7, 28] (fun v i wr => ∃ k : Nat, k ≤ l.length ∧ i = .int .i64 (k : Int) ∧ Hid (Below V.heap.size V wr) ∧ Hid (wr.ownsRow V.heap.size 3 1 v k (ints ((lf.map Ar.x).take k)))) (fun _ i _ => l.length - (intOf i).toNat)
  case atStart => exact ⟨0, Nat.zero_le _, rfl, Lib.hid (Below.refl _ _), Lib.hid (World.ownsRow_nil _ _ _ _)⟩
  case round =>
    obtain ⟨k, hk, rfl, hB, ho⟩ := hrel
    have hki : ((k : Nat) : Int).toNat = k := by omega
    have h9 := (hB.out.block _ (at_lt H9.out)).trans H9.out
    obtain ⟨y0, y1, y2⟩ := three_cells h9
    by_cases hlt : k < l.length
    · obtain ⟨a, ha⟩ : ∃ a, lf[k]? = some a := ⟨_, List.getElem?_eq_getElem (by rw [HLL.out]; exact hlt)⟩
      have HC := Lib.hid (c_carried r N k lf a ha (by rw [HLL.out]; exact hl128) HSH.out wr (HRR.out.kept fun cs t fr h => (hB.out.block _ (at_lt h)).trans h))
      unfold Rs.val Rs.M at HC
      rw [HE.out, HR.out] at HC
      have HAK := Lib.hid ha
      obtain ⟨As, ns, cs, rfl⟩ := own_shape ho.out
      clear h9 ha
      go_wp2_with (fail)
      go_at_call 57
      refine HC.out.mono ?_
      rintro e w3 ⟨rfl, hb3⟩
      have HB3 := Lib.hid (below_join hB.out hb3 hB.out.size)
      have HO3 := Lib.hid (own_row_kept ho.out fun g cur _ hc => (hb3.block _ (at_lt hc)).trans hc)
      have hz3' := HB3.out.size
      obtain ⟨x, hx⟩ : ∃ x, x = a.x := ⟨_, rfl⟩
      rw [← hx]
      have HXA := Lib.hid hx
      clear hb3 y0 y1 y2 hx
      go_wp2_with (at_builtin; refine wpList_append_lies _ rfl _ _ 69 rfl V.heap.size 3 i1 (.int .i64 0) 1 8 Tryz.underlying69 hi1 hz1' hz2 hz3 rfl (by decide) (.slice As ns cs) k _ rfl (HO3.out.alloc _) ⟨w3.heap.size, 0, none⟩ 1 1 [.int .i64 x] rfl rfl (World.news_of_block (heap_alloc_new _ _)) (by simp [Value.oneCell']) (by decide) (by unfold maxLen; omega) (by omega) (by simp; omega) (w3.heap.size + 1) (by simp) ?_; intro g4 cap4 Z hown hgrow _ _; have HBZ := Lib.hid ((HB3.out.alloc HB3.out.size _).grown hgrow (by simp; omega) (fun k hk => (ownsRow_lt HO3.out hk).1)); have HOZ := Lib.hid hown; clear hown hgrow)
      have HOZ' := Lib.hid (show Z.ownsRow V.heap.size 3 1 (.slice (some ⟨g4, 0, none⟩) (k + 1) cap4) (k + 1) (ints ((lf.map Ar.x).take (k + 1))) by
        have e : (lf.map Ar.x)[k]? = some x := by rw [List.getElem?_map, HAK.out, HXA.out]; rfl
        rw [take_snoc e, ints_snoc]
        exact HOZ.out)
      go_roundw
      case rel => exact ⟨k + 1, by omega, by go_num, HBZ, HOZ'⟩
      case measure => simp only [intOf]; omega
    · obtain rfl : k = l.length := by omega
      have hfin := ho.out
      rw [List.take_of_length_le (by rw [List.length_map, HLL.out]; exact Nat.le_refl _)] at hfin
      have HP := Lib.hid (fun (hd : True) => show MxPost N s t l w (.returned (.tuple #[.int .i64 val, u7, .int .i64 0])) wr from ⟨lf, val, u7, rfl, HBEST.out, own_mono (by rw [HLL.out]; exact hfin) HBV.out.size, below_join HBV.out hB.out HBV.out.size⟩)
      clear h9 hfin
      go_wp2_with (fail)
      exact retTTT rfl rfl rfl rfl rfl (HP.out trivial)
end Go.Proofs.YtidpiokkfnhobaaGreat.v5
