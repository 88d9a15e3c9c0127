/-
  DERIVED. send: more flows along shortest ways (stage 5).
-/
import Derived.Test.YtglpaihadongkaaBH
import Derived.Test.YtglpaihadongkaaBE
import Derived.Laws.EntriesVeiled
namespace Go.Proofs.Ytglpaihadongkaa
open Go.RowKit Go.Shelf
set_option maxRecDepth 100000
set_option linter.unusedSimpArgs false
set_option linter.unusedVariables false

/-- What send leaves. -/
def SdPost (r : Rs) (s t : Nat) (l : List Ar) (W : World) (e : Ending) (w' : World) : Prop :=
  ∃ d l', e = .returned (.int .i64 d) ∧ 0 ≤ d ∧ ends l' = ends l ∧ Fits l' ∧ (∀ n, gain l' n = gain l n + ((if s = n then d else 0) - (if t = n then d else 0))) ∧ (d = 0 → l' = l ∧ ¬ Reach l s t) ∧ Row w' r.bR r.oR (rooms l') ∧ Out (fun k => k = r.bR) W w'
set_option maxHeartbeats 8000000 in
theorem c_send (r : Rs) (N s t : Nat) (l : List Ar) (hN : 2 ≤ N ∧ N ≤ 64) (hs : s < N) (ht : t < N) (hl : l.length ≤ 128) (hnodes : ∀ a ∈ l, a.u < N ∧ a.v < N ∧ a.cap ≤ 100000000) (hfits : Fits l) (hsh : RShape r N l) (W : World) (hbR : r.bR < W.heap.size) (hfx : ∀ Y, KpG (fun k => k ≠ r.bR) W Y → RFix Y r N l) (hrr : Row W r.bR r.oR (rooms l)) :
    Calls Try.prog 43 #[r.val N, .int .i64 (s : Int), .int .i64 (t : Int)] W (SdPost r s t l W) := by
  have hval : r.val N = .agg #[r.E, r.R, r.M N] := rfl
  obtain ⟨W1, hW1⟩ : ∃ W1, W1 = (W.alloc (.cells #[r.E, r.R, r.M N] 64)).alloc (.cells #[.int .i64 (t : Int)] 3) := ⟨_, rfl⟩
  have hb1 : Below W.heap.size W W1 := by subst hW1; exact ((Below.refl _ _).alloc (Nat.le_refl _) _).alloc (by simp) _
  have hz1 : W1.heap.size = W.heap.size + 2 := by subst hW1; simp
  have hbr : W1.heap[W.heap.size]? = some (.cells #[r.E, r.R, r.M N] 64 (0, 0)) := by subst hW1; exact old_heap _ (heap_alloc_new _ _)
  have hbt : Boxed W1 (W.heap.size + 1) 3 (.int .i64 (t : Int)) := by subst hW1; exact row_new _ _ _ (by simp)
  have hrr1 : Row W1 r.bR r.oR (rooms l) := hrr.kept fun cs t fr hb => (hb1.block _ (at_lt hb)).trans hb
  have HD := Lib.hid (c_distances r N s l hN hs hl (fun a ha => ⟨(hnodes a ha).1, (hnodes a ha).2.1⟩) hsh W1 (by omega) (fun Y hY => hfx Y ⟨Nat.le_trans hb1.size hY.size, fun k cs t fr hk hc => hY.same k cs t fr (by have := at_lt hc; omega) ((hb1.block _ (at_lt hc)).trans hc)⟩) hrr1)
  rw [hval] at HD ⊢
  obtain ⟨A1, n1, c1, hE⟩ := hsh.es
  obtain ⟨A2, n2, c2, hR⟩ := hsh.rs
  have x0 : W1.cell? ⟨W.heap.size, 0, none⟩ = some (.slice A1 n1 c1) := by rw [← hE]; exact cell_of hbr rfl
  have x1 : W1.cell? ⟨W.heap.size, 1, none⟩ = some (.slice A2 n2 c2) := by rw [← hR]; exact cell_of hbr rfl
  have x2 : W1.cell? ⟨W.heap.size, 2, none⟩ = some (.slice (some ⟨r.bM, r.oM, none⟩) N r.cM) := cell_of hbr rfl
  unfold Rs.M at HD hW1 ⊢
  rw [hE, hR] at HD hW1 ⊢
  have HE := Lib.hid hE
  have HR := Lib.hid hR
  have HB1 := Lib.hid hb1
  have HBR := Lib.hid hbr
  have HBT := Lib.hid hbt
  have HRR := Lib.hid hrr1
  have HFX := Lib.hid hfx
  have HND := Lib.hid hnodes
  have HFT := Lib.hid hfits
  have HSH := Lib.hid hsh
  clear hE hR hb1 hbr hbt hrr1 hrr hfx hnodes hfits hsh hval
  rw [hW1] at x0 x1 x2
  go_enter Try.func43, Try.ntmps43
  go_wp2_with (fail)
  rw [← hW1]
  clear hW1 x0 x1 x2
  go_at_call 38
  refine HD.out.mono ?_
  rintro e w2 ⟨F, g, rfl, hrow, hFl, hfar, hlev, hge, hb2⟩
  obtain ⟨bf, hbf⟩ : ∃ b, b = w2.heap.size := ⟨_, rfl⟩
  have hgb : W.heap.size + 2 ≤ g ∧ g < bf := ⟨by omega, by rw [hbf]; exact hrow.lt (by omega)⟩
  have hw2b : w2.heap.size ≤ bf ∧ bf ≤ w2.heap.size := by omega
  have hzz := hb2.size
  have HB2 := Lib.hid hb2
  have HROW := Lib.hid hrow
  have HFL := Lib.hid hFl
  have HFAR := Lib.hid hfar
  have HLEV := Lib.hid hlev
  have HBF := Lib.hid hbf
  clear hb2 hrow hFl hfar hlev HD hbf
  obtain ⟨FV, hFV⟩ : ∃ v : Value, v = .func (.func 47) #[] #[.pointer (some ⟨W.heap.size + 1, 0, none⟩), .pointer (some ⟨W.heap.size, 0, none⟩), .pointer (some ⟨w2.heap.size, 0, none⟩), .pointer (some ⟨w2.heap.size + 1, 0, none⟩)] := ⟨_, rfl⟩
  have q0 : Boxed ((w2.alloc (.cells #[.slice (some ⟨g, 0, none⟩) N N] 25)).alloc (.cells #[Value.nilFunc] 79)) (w2.heap.size + 1) 79 Value.nilFunc := row_new _ _ _ (by simp)
  have q1 := q0.cell
  have q2 := q0.frozen
  have q3 := (q0.set FV).cell
  rw [hFV] at q3
  have HQ0 := Lib.hid q0
  have HFV := Lib.hid hFV
  clear q0 hFV
  go_wp2_with (fail)
  obtain ⟨W3, hW3⟩ : ∃ W3, W3 = (w2.alloc (.cells #[.slice (some ⟨g, 0, none⟩) N N] 25)).alloc (.cells #[.func (.func 47) #[] #[.pointer (some ⟨W.heap.size + 1, 0, none⟩), .pointer (some ⟨W.heap.size, 0, none⟩), .pointer (some ⟨w2.heap.size, 0, none⟩), .pointer (some ⟨w2.heap.size + 1, 0, none⟩)]] 79) := ⟨_, rfl⟩
  rw [← hW3]
  have hB3 : Below W1.heap.size W1 W3 := by subst hW3; exact (HB2.out.alloc HB2.out.size _).alloc (by have := HB2.out.size; simp; omega) _
  have hB0 : Below W.heap.size W W3 := below_join HB1.out hB3 (by omega)
  have hk3 : ∀ k o, w2.heap[k]? = some o → W3.heap[k]? = some o := fun k o h => by subst hW3; exact old_heap _ (old_heap _ h)
  obtain ⟨sd, hsd⟩ : ∃ sd : Sd, sd = { bt := W.heap.size + 1, br := W.heap.size, bf := w2.heap.size, bo := w2.heap.size + 1, bF := g, oF := 0, cF := N } := ⟨_, rfl⟩
  have hSF : SFxA W3 sd r N t l := by
    intro Y hY
    have hgs : ∀ k, k ≠ r.bR → k ≠ g → GS r sd k := fun k h1 h2 => by rw [hsd]; exact ⟨h1, h2⟩
    have hkk : ∀ (k : Nat) (cs : Array Value) (T : TypeId) (fr : Nat × Nat), k ≠ r.bR → k ≠ g → W3.heap[k]? = some (.cells cs T fr) → Y.heap[k]? = some (.cells cs T fr) := fun k cs T fr h1 h2 h => hY.same k cs T fr (hgs k h1 h2) h
    refine ⟨?_, ?_, ?_, ?_, HFX.out Y ⟨Nat.le_trans hB0.size hY.size, fun k cs t fr hk hc => hkk k cs t fr hk (by have := at_lt hc; omega) ((hB0.block _ (at_lt hc)).trans hc)⟩⟩
    · rw [hsd]; exact hkk _ _ _ _ (by show W.heap.size + 1 ≠ r.bR; omega) (by show W.heap.size + 1 ≠ g; omega) ((hB3.block _ (by show W.heap.size + 1 < _; omega)).trans HBT.out)
    · rw [hsd]; exact hkk _ _ _ _ (by show W.heap.size ≠ r.bR; omega) (by show W.heap.size ≠ g; omega) (((hB3.block _ (by show W.heap.size < _; omega)).trans HBR.out).trans (by unfold Rs.M; rw [HE.out, HR.out]))
    · rw [hsd]; exact hkk _ _ _ _ (by show w2.heap.size ≠ r.bR; omega) (by show w2.heap.size ≠ g; omega) (by subst hW3; exact old_heap _ (heap_alloc_new _ _))
    · rw [hsd]; exact hkk _ _ _ _ (by show w2.heap.size + 1 ≠ r.bR; omega) (by show w2.heap.size + 1 ≠ g; omega) (by subst hW3; exact row_new _ _ _ (by simp))
  have hg3 : g < W3.heap.size := by subst hW3; simp; omega
  have hs0 : ff F s = 0 := (HFAR.out.zero s).2 rfl
  have hc := c_onward r sd N t hN.2 ht (by rw [hsd]; show r.bR ≠ g; omega) (by rw [hsd]; show W.heap.size + 1 ≠ r.bR ∧ W.heap.size + 1 ≠ g ∧ W.heap.size ≠ r.bR ∧ W.heap.size ≠ g ∧ w2.heap.size ≠ r.bR ∧ w2.heap.size ≠ g ∧ w2.heap.size + 1 ≠ r.bR ∧ w2.heap.size + 1 ≠ g; omega) (by rw [hsd]; exact ⟨Nat.le_refl _, by unfold maxLen; show N ≤ _; omega⟩)
    (N + 1) l F s 12800000000 W3 hl HND.out HFT.out HSH.out HFL.out HLEV.out hs (by omega) (by omega) (by omega) (Int.le_refl _) (Nat.lt_of_lt_of_le hbR hB0.size) (by rw [hsd]; exact hg3) hSF (HRR.out.kept fun cs t fr hb => (hB3.block _ (at_lt hb)).trans hb) (by rw [hsd]; exact HROW.out.kept fun cs t fr hb => hk3 _ _ hb)
  rw [hsd] at hc
  have HC := Lib.hid hc
  have HB0 := Lib.hid hB0
  clear hc hSF hsd hW3 hB3 hB0 hk3 q1 q2 q3
  go_at_call 47
  refine HC.out.mono ?_
  rintro e w4 ⟨d, l', F', rfl, ho, hr, -, hout⟩
  have HP := Lib.hid (show SdPost r s t l W (.returned (.int .i64 d)) w4 from
    ⟨d, l', rfl, ho.lo, ho.ends, ho.fits, ho.gain, fun h0 => by
      obtain ⟨e1, -, e3⟩ := ho.none h0
      refine ⟨e1, fun hre => ?_⟩
      exact (HFAR.out.iff t).1 hre (HFAR.out.no_way e3), hr,
      ⟨hout.os.trans HB0.out.os, hout.tape.trans HB0.out.tape, hout.output.trans HB0.out.output, Nat.le_trans HB0.out.size hout.size, fun k o hk hc => hout.same k o (fun hh => by have := at_lt hc; rcases hh with hh | hh; exact hk hh; rw [hh] at this; have : g < W.heap.size := this; omega) ((HB0.out.block _ (at_lt hc)).trans hc)⟩⟩)
  clear ho hr hout HC
  go_wp2_with (fail)
  go_ret
  exact HP.out
end Go.Proofs.Ytglpaihadongkaa
