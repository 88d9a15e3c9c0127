/-
  DERIVED. greatest: sends until nothing more can be sent (stage 5).
-/
import Derived.Test.YtglpaihadongkaaBM
namespace Go.Proofs.Ytglpaihadongkaa
open Go.RowKit Go.Shelf
set_option maxRecDepth 100000
set_option linter.unusedSimpArgs false
set_option linter.unusedVariables false

/-- A flow of a net that leaves no way. -/
structure Best (N s t : Nat) (L : List (Int × Int × Int)) (lf : List Ar) (val : Int) : Prop where
  flow : IsFlow N lf s t
  ends_ : ends lf = ends (arsOf L)
  value : gain lf s = val
  no : ¬ Reach lf s t
/-- What greatest returns. -/
def GrPost (N s t : Nat) (L : List (Int × Int × Int)) (w : World) (e : Ending) (w' : World) : Prop :=
  ∃ (r : Rs) (lf : List Ar) (val : Int), e = .returned (.tuple #[.int .i64 val, r.val N]) ∧ Best N s t L lf val ∧ RShape r N lf ∧ Row w' r.bR r.oR (rooms lf) ∧ r.bR < w'.heap.size ∧ w.heap.size ≤ r.bR ∧ (∀ Y, KpG (fun k => k ≠ r.bR ∧ w.heap.size + 2 ≤ k) w' Y → RFix Y r N lf) ∧ Below w.heap.size w w'
theorem arsOf_nodes {N : Nat} {L : List (Int × Int × Int)} (h : ∀ a ∈ L, arOk (N : Int) a = true) : ∀ a ∈ arsOf L, a.u < N ∧ a.v < N ∧ a.cap ≤ 100000000 ∧ 0 ≤ a.cap ∧ a.x = 0 := fun a ha => by
  unfold arsOf at ha
  obtain ⟨b, hb, rfl⟩ := List.mem_map.1 ha
  obtain ⟨h1, h2, h3, h4, h5⟩ := arOk_iff.1 (h b hb)
  refine ⟨?_, ?_, h5, h4, rfl⟩
  · show b.1.toNat < N; omega
  · show b.2.1.toNat < N; omega
theorem fits_flow {N s t : Nat} {l : List Ar} (h : IsFlow N l s t) : Fits l := h.fits
set_option maxHeartbeats 8000000 in
theorem c_greatest (N s t : Nat) (L : Value) (l : List (Int × Int × Int)) (hs : s < N) (ht : t < N) (hst : s ≠ t) (w : World) (hL : PtSl w L l) (hok : ntOk (N : Int) l = true) :
    Calls Try.prog 35 #[ntV (N : Int) L, .int .i64 (s : Int), .int .i64 (t : Int)] w (GrPost N s t l w) := by
  obtain ⟨A, c, rfl, hc1, hc2⟩ := hL.shape
  obtain ⟨hN2, hN64, hl128, hall⟩ := ntOk_iff.1 hok
  have hnd := arsOf_nodes hall
  obtain ⟨W, hW⟩ : ∃ W, W = (w.alloc (.cells #[.int .i64 (N : Int), .slice A l.length c] 24)).alloc (.cells #[.slice none 0 0, .slice none 0 0, .slice none 0 0] 64) := ⟨_, rfl⟩
  have B0 : Below w.heap.size w W := by subst hW; exact ((Below.refl _ _).alloc (Nat.le_refl _) _).alloc (by simp) _
  have hz0 : W.heap.size = w.heap.size + 2 := by subst hW; simp
  have HWH := Lib.hid (c_whole N (.slice A l.length c) l W (hL.on B0 (Nat.le_refl _)) hok)
  have HX := Lib.hid (show W.heap[w.heap.size]? = some (.cells #[.int .i64 (N : Int), .slice A l.length c] 24 (0, 0)) by subst hW; exact old_heap _ (heap_alloc_new _ _))
  have HZ := Lib.hid (show W.heap[w.heap.size + 1]? = some (.cells #[.slice none 0 0, .slice none 0 0, .slice none 0 0] 64 (0, 0)) by subst hW; exact row_new _ _ _ (by simp))
  have x0 : W.cell? ⟨w.heap.size, 0, none⟩ = some (.int .i64 (N : Int)) := cell_of HX.out rfl
  have x1 : W.cell? ⟨w.heap.size, 1, none⟩ = some (.slice A l.length c) := cell_of HX.out rfl
  have HB0 := Lib.hid B0
  have HND := Lib.hid hnd
  unfold ntV at HWH ⊢
  clear hL hok hall hnd B0
  rw [hW] at x0 x1
  go_enter Try.func35, Try.ntmps35
  go_wp2_with (fail)
  rw [← hW]
  clear hW x0 x1
  go_at_call 42
  refine HWH.out.mono ?_
  rintro e w1 ⟨r, rfl, hsh, hbR, hbR2, hrr, hfx, hb1⟩
  obtain ⟨A1, n1, c1, hE⟩ := hsh.es
  obtain ⟨A2, n2, c2, hR⟩ := hsh.rs
  unfold Rs.val Rs.M
  rw [hE, hR]
  obtain ⟨b9, hb9⟩ : ∃ b, b = w1.heap.size := ⟨_, rfl⟩
  obtain ⟨V, hV⟩ : ∃ V, V = w1.alloc (.cells #[.slice A1 n1 c1, .slice A2 n2 c2, .slice (some ⟨r.bM, r.oM, none⟩) N r.cM] 64) := ⟨_, rfl⟩
  have hz1 := hb1.size
  have HBV := Lib.hid (show Below w.heap.size w V by subst hV; exact (below_join HB0.out hb1 HB0.out.size).alloc (by omega) _)
  have H9 := Lib.hid (show V.heap[b9]? = some (.cells #[.slice A1 n1 c1, .slice A2 n2 c2, .slice (some ⟨r.bM, r.oM, none⟩) N r.cM] 64 (0, 0)) by subst hV; exact row_new _ _ _ hb9)
  have H7 := Lib.hid (show V.heap[w.heap.size + 1]? = some (.cells #[.slice none 0 0, .slice none 0 0, .slice none 0 0] 64 (0, 0)) by subst hV; exact old_heap _ ((hb1.block _ (by omega)).trans HZ.out))
  have HRR := Lib.hid (show Row V r.bR r.oR (rooms (arsOf l)) by subst hV; exact hrr.kept fun cs t fr h => old_heap _ h)
  have hbV : r.bR < V.heap.size ∧ r.bR < b9 ∧ w.heap.size + 2 ≤ r.bR := by subst hV; simp; omega
  have HFX := Lib.hid (show ∀ Y, KpG (fun k => k ≠ r.bR ∧ w.heap.size + 2 ≤ k) V Y → RFix Y r N (arsOf l) from fun Y hY => hfx Y ⟨Nat.le_trans (by subst hV; simp) hY.size, fun k cs t fr hk hc => hY.same k cs t fr ⟨hk.1, by have := hk.2; omega⟩ (by subst hV; exact old_heap _ hc)⟩)
  have HSH := Lib.hid hsh
  have HE := Lib.hid hE
  have HR := Lib.hid hR
  have hlen : (arsOf l).length ≤ 128 := by rw [arsOf_len]; omega
  obtain ⟨hfl0, hg0⟩ := IsFlow.none (s := s) (t := t) (fun a ha => ⟨(HND.out a ha).1, (HND.out a ha).2.1⟩) (fun a ha => ⟨(HND.out a ha).2.2.2.2, (HND.out a ha).2.2.2.1⟩)
  have HFL0 := Lib.hid hfl0
  have HG0 := Lib.hid hg0
  clear hb1 hrr hfx hsh hE hR HWH hfl0 hg0
  rw [← hb9] at hz1
  have hb9' : w1.heap.size ≤ b9 ∧ b9 ≤ w1.heap.size := by omega
  go_wp2_with (fail)
  rw [← hb9, ← hV]
  clear hV hb9
  go_loopw [8] (fun v wr => ∃ (lf : List Ar) (val : Int), v = .int .i64 val ∧ 0 ≤ val ∧ val ≤ 12800000000 ∧ Hid (IsFlow N lf s t) ∧ Hid (ends lf = ends (arsOf l)) ∧ Hid (gain lf s = val) ∧ Hid (Row wr r.bR r.oR (rooms lf)) ∧ Hid (Out (fun k => k = r.bR) V wr)) (fun v _ => (12800000000 - intOf v).toNat)
  case atStart => exact ⟨arsOf l, 0, rfl, by omega, by omega, HFL0, Lib.hid rfl, HG0, HRR, Lib.hid (Out.refl _)⟩
  case round =>
    obtain ⟨lf, val, rfl, hv0, hv1, hfl, hen, hgn, hrr, hout⟩ := hrel
    have h9 := hout.out.same b9 _ (by omega) H9.out
    obtain ⟨y0, y1, y2⟩ := three_cells h9
    have hnl : ∀ a ∈ lf, a.u < N ∧ a.v < N ∧ a.cap ≤ 100000000 := caps_ends hen.out (fun a ha => ⟨(HND.out a ha).1, (HND.out a ha).2.1, (HND.out a ha).2.2.1⟩)
    have HSD := Lib.hid (c_send r N s t lf (by omega) hs ht (by rw [ends_len hen.out]; exact hlen) hnl hfl.out.fits (rShape_same HSH.out hen.out) wr (Nat.lt_of_lt_of_le hbV.1 hout.out.size) (fun Y hY => rFix_same (HFX.out Y ((hout.out.kp (fun k hk => hk.1)).trans ⟨hY.size, fun k cs t fr hk hc => hY.same k cs t fr hk.1 hc⟩)) hen.out) hrr.out)
    unfold Rs.val Rs.M at HSD
    rw [HE.out, HR.out] at HSD
    have HNL := Lib.hid hnl
    have H9' := Lib.hid h9
    clear hnl h9
    go_wp2_with (fail)
    go_at_call 43
    refine HSD.out.mono ?_
    rintro e w2 ⟨d, l', rfl, hd0, he2, hf2, hg2, hno, hr2, ho2⟩
    have ho2' := hout.out.trans ho2
    by_cases hd : d = 0
    · obtain ⟨e3, hnr⟩ := hno hd
      subst e3
      subst hd
      have h92 := ho2'.same b9 _ (by omega) H9.out
      have h72 := ho2'.same (w.heap.size + 1) _ (by omega) H7.out
      obtain ⟨z0, z1, z2⟩ := three_cells h92
      obtain ⟨q0, q1, q2⟩ := three_cells h72
      obtain ⟨f0, f1, f2⟩ := three_frozen h72
      have hb79 : b9 ≠ w.heap.size + 1 := by omega
      have H72 := Lib.hid h72
      have HP := Lib.hid (fun (x0 x1 x2 : Value) => show GrPost N s t l w (.returned (.tuple #[.int .i64 val, .agg #[.slice A1 n1 c1, .slice A2 n2 c2, .slice (some ⟨r.bM, r.oM, none⟩) N r.cM]])) (((w2.setCell ⟨w.heap.size + 1, 0, none⟩ x0).setCell ⟨w.heap.size + 1, 1, none⟩ x1).setCell ⟨w.heap.size + 1, 2, none⟩ x2).drew from
        ⟨r, l', val, by unfold Rs.val Rs.M; rw [HE.out, HR.out], ⟨hfl.out, hen.out, hgn.out, hnr⟩, rShape_same HSH.out hen.out, ((hr2.other (b' := w.heap.size + 1) (i := 0) (by omega) x0).other (b' := w.heap.size + 1) (i := 1) (by omega) x1).other (b' := w.heap.size + 1) (i := 2) (by omega) x2, by have := ho2'.size; simp [World.setCell]; omega, by omega,
          fun Y hY => rFix_same (HFX.out Y ⟨Nat.le_trans ho2'.size (Nat.le_trans (by simp [World.setCell]) hY.size), fun k cs t fr hk hc => by
            have e : k ≠ w.heap.size + 1 := by have := hk.2; omega
            exact hY.same k cs t fr hk (by
              show (((w2.setCell ⟨w.heap.size + 1, 0, none⟩ x0).setCell ⟨w.heap.size + 1, 1, none⟩ x1).setCell ⟨w.heap.size + 1, 2, none⟩ x2).heap[k]? = _
              rw [Below.heap_setCell _ ⟨w.heap.size + 1, 2, none⟩ _ k e, Below.heap_setCell _ ⟨w.heap.size + 1, 1, none⟩ _ k e, Below.heap_setCell _ ⟨w.heap.size + 1, 0, none⟩ _ k e]; exact ho2'.same k _ hk.1 hc)⟩) hen.out,
          ((((ho2'.below HBV.out (fun i hi e => by omega)).setCell (by show w.heap.size ≤ w.heap.size + 1; omega) _).setCell (by show w.heap.size ≤ w.heap.size + 1; omega) _).setCell (by show w.heap.size ≤ w.heap.size + 1; omega) _).drew⟩)
      clear hfl hen hgn hrr hout hr2 ho2 ho2' hno hnr hf2 hg2 he2 h72 h92 y0 y1 y2 hd0
      go_wp2_with (fail)
      go_region
      go_wp2_with (fail)
      have HP' := Lib.hid (HP.out (.slice A1 n1 c1) (.slice A2 n2 c2) (.slice (some ⟨r.bM, r.oM, none⟩) N r.cM))
      have h3 := row_store3 H72.out (.slice A1 n1 c1) (.slice A2 n2 c2) (.slice (some ⟨r.bM, r.oM, none⟩) N r.cM)
      obtain ⟨WF, hWF⟩ : ∃ W', W' = (((w2.setCell ⟨w.heap.size + 1, 0, none⟩ (.slice A1 n1 c1)).setCell ⟨w.heap.size + 1, 1, none⟩ (.slice A2 n2 c2)).setCell ⟨w.heap.size + 1, 2, none⟩ (.slice (some ⟨r.bM, r.oM, none⟩) N r.cM)).drew := ⟨_, rfl⟩
      have h4 : WF.heap[w.heap.size + 1]? = _ := (by rw [hWF]; exact h3 : WF.heap[w.heap.size + 1]? = some (.cells #[.slice A1 n1 c1, .slice A2 n2 c2, .slice (some ⟨r.bM, r.oM, none⟩) N r.cM] 64 (0, 0)))
      obtain ⟨c0, c1', c2'⟩ := three_cells h4
      rw [← hWF] at HP' ⊢
      clear hWF h3 h4
      refine bodyPost_ret (v := .tuple #[.int .i64 val, .agg #[.slice A1 n1 c1, .slice A2 n2 c2, .slice (some ⟨r.bM, r.oM, none⟩) N r.cM]]) ?_ rfl HP'.out
      simp [results, Try.results35, go_sem, c0, c1', c2']
    · have hdpos : 0 < d := by omega
      have hdz : (d == 0) = false := by rw [beq_eq_false_iff_ne]; exact hd
      obtain ⟨hfl', hgn'⟩ := hfl.out.sent hst he2 hf2 hg2
      rw [hgn.out] at hgn'
      have hen' := he2.trans hen.out
      have hcaps : ∀ a ∈ l', a.cap ≤ 100000000 := fun a ha => (caps_ends he2 HNL.out a ha).2.2
      have hvb := value_bound (M := 100000000) hfl' hs hst hcaps (by decide)
      have hll : l'.length ≤ 128 := by rw [ends_len hen']; exact hlen
      rw [hgn'] at hvb
      have hvb2 : val + d ≤ 12800000000 := by omega
      have HF := Lib.hid hfl'
      have HG := Lib.hid hgn'
      have HEN := Lib.hid hen'
      have HR2 := Lib.hid hr2
      have HO2 := Lib.hid ho2'
      clear hfl hen hgn hrr hout hr2 ho2 ho2' hno hf2 hg2 he2 y0 y1 y2 hfl' hgn' hen' hcaps hvb hll hd
      go_wp2_with (fail)
      go_roundw
      case rel => exact ⟨l', val + d, rfl, by omega, hvb2, HF, HEN, HG, HR2, HO2⟩
      case measure => simp only [intOf]; omega
end Go.Proofs.Ytglpaihadongkaa
