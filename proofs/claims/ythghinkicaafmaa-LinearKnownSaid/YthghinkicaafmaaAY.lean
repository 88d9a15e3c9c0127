/-
  DERIVED. First (stage 6).
-/
import Derived.Test.YthghinkicaafmaaAX
import Derived.Test.YthghinkicaafmaaAW
namespace Go.Proofs.Ythghinkicaafmaa
open Go.RowKit Go.Shelf
attribute [local go_sem ↓] Go.wp_at_zero Go.wp_at_succ
set_option maxRecDepth 100000

theorem c_firstAboveF (lim : Int) (b : Nat) (Gd : Nat → Prop) (ts : List (Nat × Int)) (hf : ∀ (i : Nat) (t : Nat × Int), ts[i]? = some t → t.1 = i) (w : World) (hGd : ∀ k, Gd k → k < w.heap.size)
    (hseq : SeqIt 7 Try.prog 48 #[.pointer (some ⟨b + 1, 0, none⟩), .pointer (some ⟨b + 1 + 1, 0, none⟩), .pointer (some ⟨b, 0, none⟩)] 3 Gd okL ts w) (r : Int) (hr : frs lim (ts.map (·.2)) = r) :
    Calls Try.prog 37 #[.int .i64 lim, lvF b] w fun e w' => e = .returned (.int .i64 r) ∧ Below w.heap.size w w' := c_firstAbove lim _ Gd ts hf w hGd hseq r hr
theorem lvI_at (C s : Int) (l : List Int) (i : Nat) (t : Nat × Int) (h : (lvI C 0 s l)[i]? = some t) : t.1 = i := by
  have := lvI_fst C l 0 s i t h
  omega
/-- What First answers. -/
def fstP (C : Int) (ps : List (Int × Int × Int)) (s : Int) (ins : List (List Int)) (n lim : Int) : Int := frs lim (crsP C ps s ins n)
set_option maxHeartbeats 8000000 in
theorem c_First (C : Int) (ps : List (Int × Int × Int)) (s : Int) (ins : List (List Int)) (n lim : Int) (P I : Value) (w : World) (hP : PtSl w P ps) (hI : LiSl w I ins) (y r : Int) (hr : fltL C ps s ins n = r) (hy : y = if r = 0 then fstP C ps s ins n lim else 0) :
    Calls Try.prog 22 #[lnV C P, .int .i64 s, I, .int .i64 n, .int .i64 lim] w fun e w' => e = .returned (.tuple #[.int .i64 y, .int .i64 r]) ∧ Below w.heap.size w w' := by
  obtain ⟨W, hW⟩ : ∃ W, W = w.alloc (.cells #[.int .i64 C, P] 24) := ⟨_, rfl⟩
  have B0 : Below w.heap.size w W := by subst hW; exact (Below.refl _ _).alloc (Nat.le_refl _) _
  have HB := Lib.hid B0
  have HL := Lib.hid (show W.heap[w.heap.size]? = some (.cells #[.int .i64 C, P] 24 (0, 0)) by subst hW; exact heap_alloc_new _ _)
  have hz : w.heap.size < W.heap.size := by subst hW; simp
  have HC := Lib.hid (fun (r1 : Int) (h1 : fltL C ps s ins n = r1) => c_fault C ps s ins n P I W (hP.on B0 (Nat.le_refl _)) (hI.on B0 (Nat.le_refl _)) r1 h1)
  have HP := Lib.hid hP
  have HI := Lib.hid hI
  obtain ⟨A, c, rfl, -, -⟩ := hP.shape
  obtain ⟨A2, c2, rfl, -, -⟩ := hI.shape
  obtain ⟨x0, x1⟩ := lin_cells HL.out
  unfold lnV at HC
  unfold lnV
  clear B0 hP hI
  by_cases h1 : r = 0
  · subst h1
    rw [if_pos rfl] at hy
    obtain ⟨g1, g2, g3, g4⟩ := flt_cases hr
    obtain ⟨g5, g6, g7⟩ := lnOk_iff.1 g1
    obtain ⟨m, rfl⟩ : ∃ m : Nat, n = (m : Int) := ⟨n.toNat, by omega⟩
    have hm1 : m ≤ 1000 := by omega
    have HR := Lib.hid hr
    have HS := Lib.hid (fun (U wa Z : World) (hU : Below w.heap.size w U) (ha : ArW C (m : Int) _ _ U wa) (hz : LvW C s (arF U.heap.size) wa Z) => lv_seq (fun _ => False) (C0 := C) (w0 := w) (U := U) (wa := wa) (Z := Z) g5 g4 hm1 g7 g6 g2 HP.out HI.out (fun k h => h.elim) hU ha hz)
    have HY := Lib.hid (show frs lim ((lvI C 0 s (amts ps ins m)).map (·.2)) = y by rw [hy, lvI_snd]; rfl)
    clear hr hy g1 g2 g3 g4 g5 g6 g7
    go_enter Try.func22, Try.ntmps22
    go_wp2_with (fail)
    rw [← hW]
    clear hW
    go_at_call 30
    refine (HC.out _ HR.out).mono ?_
    rintro e w1 ⟨rfl, b1⟩
    have HB1 := Lib.hid (below_join HB.out b1 HB.out.size)
    have HL1 := Lib.hid ((b1.block _ hz).trans HL.out)
    have hz1 := Nat.lt_of_lt_of_le hz b1.size
    clear b1 x0 x1
    go_wp2_with (fail)
    go_region_held3 (fun X => X.cell? ⟨w.heap.size, 0, none⟩ = some (.int .i64 C) ∧ X.cell? ⟨w.heap.size, 1, none⟩ = some (.slice A ps.length c))
      (first | exact lin_cells HLF.out | exact lin_cells HLZ.out | exact lin_cells HLA.out | exact lin_cells (X := w1.drew) HL1.out)
      (first
        | (go_at_call 35; (with_reducible refine (c_arrivalsW C (.slice A ps.length c) (.slice A2 ins.length c2) (m : Int) w1.drew ⟨_, _, _, rfl⟩).mono ?_); rintro e wa ⟨rfl, hwa⟩; have HWA := Lib.hid hwa; have HLA := Lib.hid ((hwa.bel.block _ hz1).trans HL1.out); clear hwa)
        | (go_at_call 34; (with_reducible refine (c_levelsA C s _ wa).mono ?_); rintro e wz ⟨rfl, hwz⟩; have HWZ := Lib.hid hwz; have HLZ := Lib.hid ((hwz.bel.block _ (Nat.lt_of_lt_of_le hz1 HWA.out.bel.size)).trans HLA.out); have HSQ := Lib.hid (HS.out w1.drew wa wz HB1.out.drew HWA.out hwz); have HBZ := Lib.hid (below_join (below_join HB1.out.drew HWA.out.bel HB1.out.size) hwz.bel (Nat.le_trans HB1.out.size HWA.out.bel.size)); have HZZ := Lib.hid (Nat.lt_of_lt_of_le hz1 (Nat.le_trans HWA.out.bel.size hwz.bel.size)); clear hwz)
        | (go_at_call 37; (with_reducible refine (c_firstAboveF lim _ _ _ (lvI_at C s (amts ps ins m)) wz (fun k h => h.1) HSQ.out y HY.out).mono ?_); rintro e wf ⟨rfl, bf⟩; have HLF := Lib.hid ((bf.block _ HZZ.out).trans HLZ.out); have HBF := Lib.hid (below_join HBZ.out bf HBZ.out.size); clear bf)
        | fail)
    go_wp2_with (fail)
    exact retTT rfl rfl rfl rfl ⟨rfl, HBF.out⟩
  · have hne : (r != 0) = true := by rw [bne_iff_ne]; exact h1
    have HR := Lib.hid hr
    rw [if_neg h1] at hy
    subst hy
    clear hr h1
    go_enter Try.func22, Try.ntmps22
    go_wp2_with (fail)
    rw [← hW]
    clear hW
    go_at_call 30
    refine (HC.out _ HR.out).mono ?_
    rintro e w1 ⟨rfl, b1⟩
    have HB1 := Lib.hid (below_join HB.out b1 HB.out.size)
    clear b1 x0 x1
    go_wp2_with (fail)
    exact retTT rfl rfl rfl rfl ⟨rfl, HB1.out⟩
end Go.Proofs.Ythghinkicaafmaa
