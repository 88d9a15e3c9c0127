/-
  DERIVED. Several texts in one.
-/
import Derived.Test.YtjheaeeeeggncaaPB2
import Derived.Lib.Tables
import Derived.WideMake
import Derived.OrdersHeld
import Derived.Deep.RegionHeld3
set_option linter.unusedVariables false
set_option linter.unusedSimpArgs false

namespace Go.Proofs.Ytjheaeeeeggncaa
open Go.RowKit Go.Shelf
attribute [local go_sem] Oper.semAt_some
set_option maxRecDepth 100000
set_option linter.unusedVariables false
set_option linter.unusedSimpArgs false

/-- What comes directly before each element. -/
def dirS (f : Nat → Nat) (j : Nat) : Nat := redF f (f j) (lst 12 (f j))
set_option maxHeartbeats 16000000 in
theorem c_directly (g n : Nat) (f : Nat → Nat) (hn : n ≤ 12) (hf : ∀ j, f j < 2 ^ 12) (hlt : ∀ j k, j < n → (f j).testBit k = true → k < n) (w : World) (h : Blk w g n f) :
    Calls Try.prog 52 #[.slice (some ⟨g, 0, none⟩) n n] w fun e w' => ∃ v, e = .returned v ∧ w'.ownsRow w.heap.size 72 1 v n (cellsV 1 unV (fL n (dirS f))) ∧ Below w.heap.size w w' := by
  have H := Lib.hid h
  have HF := Lib.hid hf
  have HLT := Lib.hid hlt
  clear h hf hlt
  obtain ⟨W, hW⟩ : ∃ W, W = w.alloc (.cells #[.slice (some ⟨g, 0, none⟩) n n] 64) := ⟨_, rfl⟩
  have HB := Lib.hid (show Below w.heap.size w W by subst hW; exact (Below.refl _ _).alloc (Nat.le_refl _) _)
  have H0 := Lib.hid (show Boxed W w.heap.size 64 (.slice (some ⟨g, 0, none⟩) n n) by subst hW; exact heap_alloc_new _ _)
  have x0 := H0.out.cell
  have hzW : W.heap.size = w.heap.size + 1 := by subst hW; simp
  obtain ⟨i1, hi1, hz1, hz2, hz3⟩ := info_parts el_info
  refine (callsIn_wide (n := 8)).1 ?_
  refine callsIn_of_wp_marks Try.func52 rfl trivial ?_ rfl
  simp only [Try.ntmps52, List.size_toArray, List.length_cons, List.length_nil, Nat.reduceAdd, Nat.reduceSub, Array.replicate_succ, Array.replicate_zero, List.push_toArray, List.append_toArray, List.nil_append, List.cons_append]
  rw [wpIn_wide]
  go_wp2_with (fail)
  rw [← hW]
  clear hW
  refine wp_loop (fun a' wr => ∃ (u3 u5 u6 u7 u10 u11 u12 u13 u14 u15 u16 u17 u18 u19 u20 u21 u22 u23 u24 u25 u26 u27 u28 : Value) (ds : List Deferred), (∃ k : Nat, k ≤ n ∧ u10 = .int .i64 (k : Int) ∧ Hid (Below W.heap.size W wr) ∧ Hid (wr.ownsRow W.heap.size 72 1 u3 k (cellsV 1 unV (fL k (dirS f)))) ∧ ∃ bs, ds = marks bs ∧ Hid (Mks W.heap.size bs wr)) ∧ a' = { tmps := #[.slice (some ⟨g, 0, none⟩) n n, .pointer (some ⟨w.heap.size, 0, none⟩), .slice none 0 0, u3, undef, u5, u6, u7, .slice (some ⟨g, 0, none⟩) n n, .int .i64 (n : Int), u10, u11, u12, u13, u14, u15, u16, u17, u18, u19, u20, u21, u22, u23, u24, u25, u26, u27, u28, undef], defers := ds }) (fun a' _ => n - (intOf (a'.tmps.getD 10 undef)).toNat) ?atStart ?round
  case atStart =>
    (repeat apply Exists.intro)
    refine ⟨?rel0, rfl⟩
    exact ⟨0, Nat.zero_le _, rfl, Lib.hid (Below.refl _ _), Lib.hid (World.ownsRow_nil _ _ _ _), [], rfl, Lib.hid (Mks.nil _ _)⟩
  case round =>
    rintro _ wr ⟨u3, u5, u6, u7, u10, u11, u12, u13, u14, u15, u16, u17, u18, u19, u20, u21, u22, u23, u24, u25, u26, u27, u28, ds, ⟨k, hk, rfl, hK, ho, bs, rfl, hM⟩, rfl⟩
    have hki : ((k : Nat) : Int).toNat = k := by omega
    obtain ⟨As, cs, rfl⟩ := own_shape ho.out
    by_cases hlt : k < n
    · have hkl : (k : Int) < (n : Int) := by omega
      have HBW := Lib.hid ((HB.out.trans (hK.out.mono (by omega))))
      have HBK := Lib.hid (H.out.on HBW.out (Nat.le_refl _))
      have b0 := HBK.out.at_ hlt
      have hs12 := HF.out k
      obtain ⟨s, hs⟩ : ∃ s, f k = s := ⟨_, rfl⟩
      have HS := Lib.hid hs
      rw [hs] at b0 hs12
      have hgb : g < w.heap.size := at_lt H.out
      have hzr := hK.out.size
      obtain ⟨V, hV⟩ : ∃ V, V = wr.alloc (.cells #[.int .u16 (s : Int)] 72) := ⟨_, rfl⟩
      have HBV := Lib.hid (show Below wr.heap.size wr V by subst hV; exact (Below.refl _ _).alloc (Nat.le_refl _) _)
      have HX := Lib.hid (show Boxed V wr.heap.size 72 (.int .u16 (s : Int)) by subst hV; exact heap_alloc_new _ _)
      have hzV : V.heap.size = wr.heap.size + 1 := by subst hV; simp
      have HMV := Lib.hid (hM.out.on HBV.out (Nat.le_refl _))
      have HSQ := Lib.hid (c_each 7 (by omega) (fun _ => False) s hs12 V)
      have HLS := Lib.hid (show ∀ i ∈ lst 12 s, i < n from fun i hi => HLT.out k i hlt (by rw [HS.out]; exact (lst_mem.1 hi).2))
      have HKV := Lib.hid (below_join hK.out HBV.out hzr)
      have HOV := Lib.hid (own_on ho.out HBV.out (Nat.le_refl _))
      clear hs
      go_wp2_with (fail)
      rw [← hV]
      clear hV b0
      refine (wpIn_wide (n := 8)).1 ?_
      refine wpIn_it (n := 8) (by omega) (gf := 77) (fb := #[.int .u16 (s : Int)]) (lb := #[]) rfl eg_each (m := 0) (Gd := fun _ => False) (ok := okE) (ts := lst 12 s) (w0 := V) HSQ.out (KpG.refl _) (fun v t h => by rw [h]; rfl)
        (fun pre X => Boxed X wr.heap.size 72 (.int .u16 ((redF f s pre : Nat) : Int)) ∧ But wr.heap.size V X) (fun _ _ _ => False)
        (fun pre X Y h hE => ⟨hE.same _ _ h.1 (.inl (by omega)), h.2.own hE (by omega)⟩) (fun _ _ _ _ h _ => h.elim)
        (fun pre X l o o' h hl ho hc => ⟨boxed_put h.1 ho hc, h.2.put _ (by omega)⟩) (fun _ _ _ _ _ _ h _ _ _ => h.elim)
        ⟨HX.out, But.refl _⟩ ?iround ?idone (fun _ _ _ _ _ _ h _ => h.elim)
      case iround =>
        intro l pre v i X K hpre hok hKK
        obtain rfl : v = #[.int .i64 (i : Int)] := hok
        gi_wp2_with (fail)
        refine hKK _ _ (Below.refl _ _) ?_
        rintro Y ⟨o, o', ho', hoc, hYe⟩ hsz ⟨hI, hBt⟩
        have hin := HLS.out i (hpre.subset (by simp))
        have hil : (i : Int) < (n : Int) := by omega
        have y0 := hI.cell
        have f0 := hI.frozen
        have HWY := Lib.hid (hBt.below (w := W) HKV.out (by omega) (Nat.le_refl _))
        have y1 := (show Boxed Y w.heap.size 64 (.slice (some ⟨g, 0, none⟩) n n) from (HWY.out.block _ (by omega)).trans H0.out).cell
        have y2 := (H.out.on (HB.out.trans (HWY.out.mono (by omega))) (Nat.le_refl _)).at_ hin
        have hq := HF.out i
        have hrl := redF_lt (f := f) pre hs12
        have HI := Lib.hid hI
        have HBT := Lib.hid hBt
        have HNX := Lib.hid (redF_snoc f s pre i)
        have hfm : Try.prog.follows Departure.mixedOrders = true := by kernel_rfl
        obtain ⟨q, hq0⟩ : ∃ q, f i = q := ⟨_, rfl⟩
        obtain ⟨t, ht0⟩ : ∃ t, redF f s pre = t := ⟨_, rfl⟩
        rw [hq0] at y2 hq HNX
        rw [ht0] at y0 hrl HNX HI
        have hdf := bits_dif16 t q (by omega) (by omega)
        obtain ⟨t2, ht2⟩ : ∃ t2, dif t q = t2 := ⟨_, rfl⟩
        rw [ht2] at hdf HNX
        clear hYe ho' hoc o o' hKK hI hBt hpre hq0 ht0 ht2
        gi_wp2_with (fail)
        gi_region_o
        all_goals gi_wp2_with (fail)
        all_goals
          have hk := kf_store (B := V.heap.size + 2) (o := 0) (.int .u16 (t2 : Int)) HI.out
          have hk2 := kf_store (B := V.heap.size) (o := 0) (.int .u16 (t2 : Int)) HI.out
          have hb2 := HBT.out.trans (But.store (.int .u16 (t2 : Int)) 0)
          exact ⟨⟨hk2.size, hk2.same⟩, ⟨hk.size, fun k' _ _ _ hk' _ => by rcases hk' with h | h; exact h.elim; omega, hk.same⟩, by rw [HNX.out]; exact HI.out.set _, ⟨hb2.os, hb2.tape, hb2.output, hb2.size, hb2.same⟩⟩
      case idone =>
        rintro D X rfl ⟨hI, hBt⟩ hdef
        obtain ⟨r, hr⟩ : ∃ r, redF f s (lst 12 s) = r := ⟨_, rfl⟩
        rw [hr] at hI
        have y0 := hI.cell
        have HFN := Lib.hid (show cellsV 1 unV (fL (k + 1) (dirS f)) = cellsV 1 unV (fL k (dirS f)) ++ [.int .u16 (r : Int)] by
          have e : fL (k + 1) (dirS f) = fL k (dirS f) ++ [r] := by
            rw [← hr, ← HS.out]
            unfold fL
            rw [List.range_succ, List.map_append]
            rfl
          rw [e, cellsV_append]; rfl)
        have HOX := Lib.hid (show X.ownsRow W.heap.size 72 1 (.slice As k cs) k (cellsV 1 unV (fL k (dirS f))) from own_row_kept ho.out fun gg cur _ hc => hBt.same _ _ (by have := at_lt hc; omega) ((HBV.out.block _ (at_lt hc)).trans hc))
        have HMX := Lib.hid (show Mks W.heap.size ((wr.heap.size + 1) :: bs) X from by rw [← hzV]; exact Mks.push HMV.out (HMV.out.but hBt HX.out) (Nat.le_refl _) (by omega) hdef)
        have HKX := Lib.hid (show Below W.heap.size W X from hBt.below HKV.out (by omega) (Nat.le_refl _))
        have hzX := HKX.out.size
        clear hI hBt hdef hr
        go_wp2_with (at_builtin; refine wpList_append_lies _ rfl _ _ 63 rfl W.heap.size 72 i1 (.int .u16 0) 1 2 Try.underlying63 hi1 hz1 hz2 hz3 rfl (by decide) (.slice As k cs) k _ rfl (HOX.out.alloc _) ⟨X.heap.size, 0, none⟩ 1 1 [.int .u16 (r : Int)] rfl rfl (World.news_of_block (heap_alloc_new _ _)) (by simp [Value.oneCell']) (by decide) (by unfold maxLen; omega) (by omega) (by simp; omega) (X.heap.size + 1) (by simp) ?_; intro g4 cap4 Z hown hgrow _ _; have HBZ := Lib.hid ((HKX.out.alloc HKX.out.size _).grown hgrow (by have := HKX.out.size; simp; omega) (fun k hk => (ownsRow_lt HOX.out hk).1)); have HOZ := Lib.hid hown; have HMZ := Lib.hid (HMX.out.grown HOX.out hgrow); clear hown hgrow)
        refine ⟨⟨_, _, _, _, _, _, _, _, _, _, _, _, _, _, _, _, _, _, _, _, _, _, _, _, ⟨k + 1, by omega, by go_num, HBZ, Lib.hid (by rw [HFN.out]; exact HOZ.out), _, rfl, HMZ⟩, rfl⟩, ?_⟩
        simp [intOf]; omega
    · obtain rfl : k = n := by omega
      go_wp2_with (fail)
      refine leaves_marks (by simp) bs wr hM.out fun W' hW' => ?_
      exact ⟨.slice As k cs, by simp [results, Try.results52, go_sem], _, rfl, own_mono (hW'.own hM.out ho.out) (by omega), hW'.below (fun b hb => by have := (hM.out.at_ b hb).1; omega) (HB.out.trans (hK.out.mono (by omega))) (Nat.le_refl _)⟩
end Go.Proofs.Ytjheaeeeeggncaa

namespace Go.Proofs.Ytjheaeeeeggncaa
open Go.RowKit
attribute [local go_sem] Oper.semAt_some
set_option maxRecDepth 100000
set_option linter.unusedVariables false
set_option linter.unusedSimpArgs false

/-- An element stands in another one's list. -/
def EdF (xs : List LsV) (i k : Nat) : Prop := i < xs.length ∧ k ∈ lstF xs i
theorem ord_cb {xs : List LsV} (hok : NmOk xs) {i : Nat} (hi : i < xs.length) (k : Nat) : (ordF xs i).testBit k = true ↔ Cb (EdF xs) i k := by
  unfold ordF
  exact wAll_iff (E := EdF xs) (fun i k h => ⟨h.1, lstF_lt hok i k h.2⟩) (fun i hi k => by
    unfold dirA EdF
    rw [bitsL_tb]
    unfold lstF natsL
    rw [List.mem_map]
    exact ⟨fun h => ⟨hi, h⟩, fun h => h.2⟩) hi k
theorem ord_lt {xs : List LsV} (hok : NmOk xs) (j k : Nat) (hj : j < xs.length) (h : (ordF xs j).testBit k = true) : k < xs.length :=
  Cb.lt (fun i k h => lstF_lt hok i k h.2) ((ord_cb hok hj k).1 h)
theorem ord_po {xs : List LsV} (hok : NmOk xs) (hno : ¬ Loop xs) : Po xs.length (ordF xs) :=
  Po.of (E := EdF xs) (fun i k h => ⟨h.1, lstF_lt hok i k h.2⟩) (fun i hi k => ord_cb hok hi k) (fun i hi => by
    cases e : (ordF xs i).testBit i
    · rfl
    · exact absurd ⟨i, hi, e⟩ hno)
theorem dirS_lt {f : Nat → Nat} (hf : ∀ j, f j < 2 ^ 12) (j : Nat) : dirS f j < 2 ^ 12 := redF_lt _ (hf j)
set_option maxHeartbeats 8000000 in
theorem c_Reduce (A : Option Addr) (c : Nat) (xs : List LsV) (w : World) (h : LsAt w A c xs) : Calls Try.prog 15 #[.slice A xs.length c] w (LsTo w (rdN xs) (setsL (dirS (ordF xs)) xs.length)) := by
  have H := Lib.hid h
  obtain ⟨R, hR⟩ : ∃ R, R = LsTo w (rdN xs) (setsL (dirS (ordF xs)) xs.length) := ⟨_, rfl⟩
  rw [← hR]
  have HRR := Lib.hid hR
  clear hR h
  go_enter Try.func15, Try.ntmps15
  go_wp2_with (fail)
  go_at_call 48
  refine (c_read A c xs w H.out).mono ?_
  rintro e w1 ⟨⟨h0, rfl⟩ | ⟨h0, hl, hok, -, g, rfl, hg, hblk⟩, b1⟩
  · have H0 := Lib.hid h0
    have K1 := Lib.hid b1
    have hne : (rdN xs != 0) = true := by simpa using h0
    have hd0 : (rdN xs == 0) = false := by simpa using h0
    clear h0 b1
    go_wp2_with (fail)
    rw [HRR.out]
    exact ⟨.inl ⟨H0.out, rfl⟩, K1.out⟩
  · have H0 := Lib.hid h0
    have K1 := Lib.hid b1
    have HL := Lib.hid hl
    have HD := Lib.hid (c_directly g xs.length (ordF xs) hl (ordF_lt hl hok) (ord_lt hok) w1 hblk)
    have HDL := Lib.hid (dirS_lt (ordF_lt hl hok))
    clear h0 b1 hblk hl
    go_wp2_with (fail)
    go_at_call 52
    refine HD.out.mono ?_
    rintro e w2 ⟨v2, rfl, o2, b2⟩
    obtain ⟨A2, c2, rfl⟩ := own_shape o2
    have HV := Lib.hid (show Rv 1 unV w2 A2 c2 (fL xs.length (dirS (ordF xs))) by
      obtain ⟨A', c', e', hr'⟩ := own_rv (k := 1) (F := unV) (l := fL xs.length (dirS (ordF xs))) (by rw [fL_len]; exact o2)
      injection e' with e1 _ e2
      rw [e1, e2]; exact hr')
    have K2 := Lib.hid (below_join K1.out b2 K1.out.size)
    have HC := Lib.hid (c_listsOf A2 c2 (fL xs.length (dirS (ordF xs))) (by rw [fL_len]; exact HL.out) (fun x hx => by
      obtain ⟨j, -, rfl⟩ := List.mem_map.1 hx
      exact HDL.out j) w2 HV.out)
    rw [fL_len, listsU_fL] at HC
    clear b2 o2
    go_wp2_with (fail)
    go_at_call 49
    refine HC.out.mono ?_
    rintro e w3 ⟨v, ys, rfl, ho, hm, b3⟩
    have K3 := Lib.hid (below_join K2.out b3 K2.out.size)
    have HO := Lib.hid ho
    have HM := Lib.hid hm
    have hs1 := Lib.hid K2.out.size
    clear b3 ho hm
    go_wp2_with (fail)
    rw [HRR.out, H0.out]
    exact ⟨.inr ⟨rfl, _, ys, rfl, ⟨own_mono HO.out.1 hs1.out, fun y hy => own_mono (HO.out.2 y hy) hs1.out⟩, HM.out⟩, K3.out⟩
end Go.Proofs.Ytjheaeeeeggncaa

namespace Go.Proofs.Ytjheaeeeeggncaa
open Go.RowKit
attribute [local go_sem] Oper.semAt_some
set_option maxRecDepth 100000
set_option linter.unusedVariables false
set_option linter.unusedSimpArgs false

theorem idB_iff {f : Nat → Nat} {n s : Nat} (hn : n ≤ 12) (hs : s < 2 ^ n) : idB f s = true ↔ Idl n f s := by
  unfold idB Idl
  rw [List.all_eq_true]
  constructor
  · intro h i hi hsi k hk
    exact inside_iff.1 (of_decide_eq_true (h i (lst_mem.2 ⟨by omega, hsi⟩))) k hk
  · intro h i hi
    have hsi := (lst_mem.1 hi).2
    have hin : i < n := by
      rcases Nat.lt_or_ge i n with h | h
      · exact h
      · rw [Nat.testBit_lt_two_pow (Nat.lt_of_lt_of_le hs (Nat.pow_le_pow_right (by omega) h))] at hsi
        cases hsi
    exact decide_eq_true (inside_iff.2 (h i hin hsi))
end Go.Proofs.Ytjheaeeeeggncaa

namespace Go.Proofs.Ytjheaeeeeggncaa
open Go.RowKit
attribute [local go_sem] Oper.semAt_some
set_option maxRecDepth 100000
set_option linter.unusedVariables false
set_option linter.unusedSimpArgs false

theorem enL_len (b : Nat → Nat) (s k : Nat) : (enL k b s).length ≤ k := by
  unfold enL
  exact Nat.le_trans (List.length_filter_le _ _) (by simp)
end Go.Proofs.Ytjheaeeeeggncaa

namespace Go.Proofs.Ytjheaeeeeggncaa
open Go.RowKit
attribute [local go_sem] Oper.semAt_some
set_option maxRecDepth 100000
set_option linter.unusedVariables false
set_option linter.unusedSimpArgs false

theorem lst_cut {n s : Nat} (hs : s < 2 ^ n) : ∀ j, lst (n + j) s = lst n s
  | 0 => rfl
  | j + 1 => by
    rw [show n + (j + 1) = (n + j) + 1 by omega, lst_next, lst_cut hs j, Nat.testBit_lt_two_pow (Nat.lt_of_lt_of_le hs (Nat.pow_le_pow_right (by omega) (by omega)))]
    simp
theorem lst_en {b : Nat → Nat} {n s : Nat} (hn : n ≤ 12) : lst 12 (setB (enB b s) n) = enL n b s := by
  have := lst_cut (setB_lt (enB b s) n) (12 - n)
  rw [show n + (12 - n) = 12 by omega] at this
  rw [this, lst_setB]; rfl
/-- Whether a number is an ideal, for IsIdeal. -/
noncomputable def isA (xs : List LsV) (x : Int) : Bool := if askN xs x = 0 then idB (ordF xs) x.toNat else false
/-- The error of Enabled. -/
noncomputable def enN (xs : List LsV) (x : Int) : Int := if askN xs x = 0 then (if idB (ordF xs) x.toNat = true then 0 else 13) else askN xs x
/-- What Ideals, Enabled and Nth answer. -/
def NmTo (w : World) (n : Int) (L : List Nat) (e : Ending) (w' : World) : Prop :=
  ((n ≠ 0 ∧ e = .returned (.tuple #[.slice none 0 0, .int .i64 n])) ∨ (n = 0 ∧ ∃ v, e = .returned (.tuple #[v, .int .i64 0]) ∧ w'.ownsRow w.heap.size 3 1 v L.length (elV L))) ∧ Below w.heap.size w w'
theorem ask_rd {xs : List LsV} {x : Int} (h : rdN xs ≠ 0) : askN xs x = rdN xs := by unfold askN; rw [if_pos h]
theorem ask_in {xs : List LsV} {x : Int} (h : rdN xs = 0) (h2 : 0 ≤ x ∧ x < ((2 ^ xs.length : Nat) : Int)) : askN xs x = 0 := by unfold askN; rw [if_neg (by simp [h]), if_pos h2]
theorem ask_out {xs : List LsV} {x : Int} (h : rdN xs = 0) (h2 : ¬ (0 ≤ x ∧ x < ((2 ^ xs.length : Nat) : Int))) : askN xs x = 2 := by unfold askN; rw [if_neg (by simp [h]), if_neg h2]
set_option maxHeartbeats 8000000 in
theorem c_IsIdeal (A : Option Addr) (c : Nat) (xs : List LsV) (x : Int) (w : World) (h : LsAt w A c xs) : Calls Try.prog 21 #[.slice A xs.length c, .int .i64 x] w fun e w' => e = .returned (.tuple #[.bool (isA xs x), .int .i64 (askN xs x)]) ∧ Below w.heap.size w w' := by
  have H := Lib.hid h
  obtain ⟨N, hN⟩ : ∃ N, askN xs x = N := ⟨_, rfl⟩
  obtain ⟨r, hr⟩ : ∃ r, isA xs x = r := ⟨_, rfl⟩
  have HN := Lib.hid hN
  have HR := Lib.hid hr
  rw [hN, hr]
  clear hN hr h
  go_enter Try.func21, Try.ntmps21
  go_wp2_with (fail)
  go_at_call 48
  refine (c_read A c xs w H.out).mono ?_
  rintro e w1 ⟨⟨h0, rfl⟩ | ⟨h0, hl, hok, -, g, rfl, hg, hblk⟩, b1⟩
  · have K1 := Lib.hid b1
    have HNN := Lib.hid (show N = rdN xs by rw [← HN.out]; exact ask_rd h0)
    have HRR := Lib.hid (show r = false by rw [← HR.out]; unfold isA; rw [if_neg (by rw [ask_rd h0]; exact h0)])
    have hne : (rdN xs != 0) = true := by simpa using h0
    have hd0 : (rdN xs == 0) = false := by simpa using h0
    clear h0 b1
    go_wp2_with (fail)
    go_ret2
    exact ⟨by rw [HNN.out, HRR.out]; rfl, K1.out⟩
  · have H0 := Lib.hid h0
    have K1 := Lib.hid b1
    have HL := Lib.hid hl
    have HOK := Lib.hid hok
    have HBK := Lib.hid hblk
    obtain ⟨q, hq⟩ : ∃ q : Bool, q = true ↔ 0 ≤ x ∧ x < 2 ^ xs.length := ⟨decide (0 ≤ x ∧ x < 2 ^ xs.length), by simp⟩
    obtain ⟨y, hy⟩ : ∃ y, y = if q = true then x else 0 := ⟨_, rfl⟩
    have HC := Lib.hid (c_setOf (some ⟨g, 0, none⟩) xs.length xs.length hl x y q hq hy w1)
    have hp : (2 : Int) ^ xs.length = ((2 ^ xs.length : Nat) : Int) := by simp
    rw [hp] at hq
    have HQ := Lib.hid hq
    have HY := Lib.hid hy
    clear h0 b1 hl hok hblk hq hy hp
    go_wp2_with (fail)
    go_at_call 54
    refine HC.out.mono ?_
    rintro e w2 ⟨rfl, hw2⟩
    rw [hw2]
    clear hw2 w2
    cases q
    · have HNN := Lib.hid (show N = 2 by rw [← HN.out]; exact ask_out H0.out (fun h => by have := HQ.out.2 h; cases this))
      have HRR := Lib.hid (show r = false by rw [← HR.out]; unfold isA; rw [if_neg (by rw [HN.out, HNN.out]; decide)])
      go_wp2_with (fail)
      go_ret2
      exact ⟨by rw [HNN.out, HRR.out]; rfl, K1.out⟩
    · have hin := HQ.out.1 rfl
      obtain ⟨s, rfl⟩ : ∃ s : Nat, x = s := ⟨x.toNat, by omega⟩
      obtain rfl : y = s := by rw [HY.out]; rfl
      have HNN := Lib.hid (show N = 0 by rw [← HN.out]; exact ask_in H0.out hin)
      have HRR := Lib.hid (show r = idB (ordF xs) s by rw [← HR.out]; unfold isA; rw [if_pos (by rw [HN.out, HNN.out])]; simp)
      have HCI := Lib.hid (c_isIdeal g xs.length (ordF xs) HL.out (ordF_lt HL.out HOK.out) s (by omega) w1 HBK.out)
      clear hin
      go_wp2_with (fail)
      go_at_call 55
      refine HCI.out.mono ?_
      rintro e w3 ⟨rfl, b3⟩
      have K3 := Lib.hid (below_join K1.out b3 K1.out.size)
      clear b3
      go_wp2_with (fail)
      go_ret2
      exact ⟨by rw [HNN.out, HRR.out]; rfl, K3.out⟩
set_option maxHeartbeats 8000000 in
theorem c_Enabled (A : Option Addr) (c : Nat) (xs : List LsV) (x : Int) (w : World) (h : LsAt w A c xs) : Calls Try.prog 26 #[.slice A xs.length c, .int .i64 x] w (NmTo w (enN xs x) (enL xs.length (ordF xs) x.toNat)) := by
  have H := Lib.hid h
  obtain ⟨N, hN⟩ : ∃ N, enN xs x = N := ⟨_, rfl⟩
  have HN := Lib.hid hN
  rw [hN]
  obtain ⟨R, hR⟩ : ∃ R, R = NmTo w N (enL xs.length (ordF xs) x.toNat) := ⟨_, rfl⟩
  rw [← hR]
  have HRR := Lib.hid hR
  clear hN h hR
  have HE := Lib.hid (show ∀ (X : World) (n : Int), N = n → n ≠ 0 → Below w.heap.size w X → R (.returned (.tuple #[.slice none 0 0, .int .i64 n])) X from fun X n h h2 hb => by rw [HRR.out, h]; exact ⟨.inl ⟨h2, rfl⟩, hb⟩)
  go_enter Try.func26, Try.ntmps26
  go_wp2_with (fail)
  go_at_call 48
  refine (c_read A c xs w H.out).mono ?_
  rintro e w1 ⟨⟨h0, rfl⟩ | ⟨h0, hl, hok, -, g, rfl, hg, hblk⟩, b1⟩
  · have K1 := Lib.hid b1
    have H0 := Lib.hid h0
    have HNN := Lib.hid (show N = rdN xs by rw [← HN.out]; unfold enN; rw [if_neg (by rw [ask_rd h0]; exact h0)]; exact ask_rd h0)
    have hne : (rdN xs != 0) = true := by simpa using h0
    have hd0 : (rdN xs == 0) = false := by simpa using h0
    clear h0 b1
    go_wp2_with (fail)
    exact HE.out _ _ HNN.out H0.out K1.out
  · have H0 := Lib.hid h0
    have K1 := Lib.hid b1
    have HL := Lib.hid hl
    have HOK := Lib.hid hok
    have HBK := Lib.hid hblk
    obtain ⟨q, hq⟩ : ∃ q : Bool, q = true ↔ 0 ≤ x ∧ x < 2 ^ xs.length := ⟨decide (0 ≤ x ∧ x < 2 ^ xs.length), by simp⟩
    obtain ⟨y, hy⟩ : ∃ y, y = if q = true then x else 0 := ⟨_, rfl⟩
    have HC := Lib.hid (c_setOf (some ⟨g, 0, none⟩) xs.length xs.length hl x y q hq hy w1)
    have hp : (2 : Int) ^ xs.length = ((2 ^ xs.length : Nat) : Int) := by simp
    rw [hp] at hq
    have HQ := Lib.hid hq
    have HY := Lib.hid hy
    clear h0 b1 hl hok hblk hq hy hp
    go_wp2_with (fail)
    go_at_call 54
    refine HC.out.mono ?_
    rintro e w2 ⟨rfl, hw2⟩
    rw [hw2]
    clear hw2 w2
    cases q
    · have HNN := Lib.hid (show N = 2 by
        have h2 := ask_out H0.out (fun h => by have := HQ.out.2 h; cases this)
        rw [← HN.out]; unfold enN; rw [if_neg (by rw [h2]; decide), h2])
      go_wp2_with (fail)
      exact HE.out _ _ HNN.out (by decide) K1.out
    · have hin := HQ.out.1 rfl
      obtain ⟨s, rfl⟩ : ∃ s : Nat, x = s := ⟨x.toNat, by omega⟩
      obtain rfl : y = s := by rw [HY.out]; rfl
      have hs12 : s < 2 ^ 12 := Nat.lt_of_lt_of_le (show s < 2 ^ xs.length by omega) (Nat.pow_le_pow_right (by omega) HL.out)
      have HA0 := Lib.hid (ask_in H0.out hin)
      have HCI := Lib.hid (c_isIdeal g xs.length (ordF xs) HL.out (ordF_lt HL.out HOK.out) s (by omega) w1 HBK.out)
      obtain ⟨r, hr⟩ : ∃ r, idB (ordF xs) s = r := ⟨_, rfl⟩
      have HR := Lib.hid hr
      rw [hr] at HCI
      clear hin hr
      go_wp2_with (fail)
      go_at_call 55
      refine HCI.out.mono ?_
      rintro e w3 ⟨rfl, b3⟩
      have K3 := Lib.hid (below_join K1.out b3 K1.out.size)
      have HB3 := Lib.hid (HBK.out.on b3 (Nat.le_refl _))
      clear b3
      cases r
      · have HNN := Lib.hid (show N = 13 by rw [← HN.out]; unfold enN; rw [if_pos HA0.out, if_neg (by simp [HR.out])])
        go_wp2_with (fail)
        exact HE.out _ _ HNN.out (by decide) K3.out
      · have HNN := Lib.hid (show N = 0 by rw [← HN.out]; unfold enN; rw [if_pos HA0.out, if_pos (by simp [HR.out])])
        have HCE := Lib.hid (c_enabled g xs.length (ordF xs) HL.out (ordF_lt HL.out HOK.out) s hs12 w3 HB3.out)
        have HLE := Lib.hid (lst_en (b := ordF xs) (s := s) HL.out)
        have hsb : setB (enB (ordF xs) s) xs.length < 2 ^ 12 := Nat.lt_of_lt_of_le (setB_lt _ _) (Nat.pow_le_pow_right (by omega) HL.out)
        obtain ⟨t, ht⟩ : ∃ t, setB (enB (ordF xs) s) xs.length = t := ⟨_, rfl⟩
        rw [ht] at HCE HLE hsb
        clear ht
        go_wp2_with (fail)
        go_at_call 59
        refine HCE.out.mono ?_
        rintro e w4 ⟨rfl, hw4⟩
        rw [hw4]
        clear hw4 w4
        go_wp2_with (fail)
        go_at_call 60
        refine (c_list t hsb w3).mono ?_
        rintro e w5 ⟨v, rfl, o5, b5⟩
        have K5 := Lib.hid (below_join K3.out b5 K3.out.size)
        have O5 := Lib.hid (show w5.ownsRow w.heap.size 3 1 v (enL xs.length (ordF xs) s).length (elV (enL xs.length (ordF xs) s)) by rw [← HLE.out]; exact own_mono o5 K3.out.size)
        clear b5 o5
        go_wp2_with (fail)
        rw [HRR.out, HNN.out]
        exact ⟨.inr ⟨rfl, v, rfl, O5.out⟩, K5.out⟩
end Go.Proofs.Ytjheaeeeeggncaa

namespace Go.Proofs.Ytjheaeeeeggncaa
open Go.RowKit Go.Shelf
attribute [local go_sem] Oper.semAt_some
set_option maxRecDepth 100000
set_option linter.unusedVariables false
set_option linter.unusedSimpArgs false

theorem idL_len (f : Nat → Nat) (k : Nat) : (idL f k).length ≤ k := by
  unfold idL
  exact Nat.le_trans (List.length_filter_le _ _) (by simp)
theorem pow12 {n : Nat} (hn : n ≤ 12) : 2 ^ n ≤ 4096 := Nat.le_trans (Nat.pow_le_pow_right (by omega) hn) (by decide)
theorem idL_lt {f : Nat → Nat} {k x : Nat} (h : x ∈ idL f k) : x < k := by
  unfold idL at h
  exact List.mem_range.1 (List.mem_filter.1 h).1
set_option maxHeartbeats 8000000 in
theorem c_Ideals (A : Option Addr) (c : Nat) (xs : List LsV) (w : World) (h : LsAt w A c xs) : Calls Try.prog 23 #[.slice A xs.length c] w (NmTo w (rdN xs) (idL (ordF xs) (2 ^ xs.length))) := by
  have H := Lib.hid h
  obtain ⟨N, hN⟩ : ∃ N, rdN xs = N := ⟨_, rfl⟩
  have HN := Lib.hid hN
  rw [hN]
  obtain ⟨R, hR⟩ : ∃ R, R = NmTo w N (idL (ordF xs) (2 ^ xs.length)) := ⟨_, rfl⟩
  rw [← hR]
  have HRR := Lib.hid hR
  clear hN h hR
  refine (callsIn_wide (n := 8)).1 ?_
  refine callsIn_of_wp_marks Try.func23 rfl trivial ?_ rfl
  simp only [Try.ntmps23, List.size_toArray, List.length_cons, List.length_nil, Nat.reduceAdd, Nat.reduceSub, Array.replicate_succ, Array.replicate_zero, List.push_toArray, List.append_toArray, List.nil_append, List.cons_append]
  rw [wpIn_wide]
  go_wp2_with (fail)
  go_at_call 48
  refine (c_read A c xs w H.out).mono ?_
  rintro e w1 ⟨⟨h0, rfl⟩ | ⟨h0, hl, hok, -, g, rfl, hg, hblk⟩, b1⟩
  · have K1 := Lib.hid b1
    have H0 := Lib.hid h0
    have hne : (rdN xs != 0) = true := by simpa using h0
    have hd0 : (rdN xs == 0) = false := by simpa using h0
    clear h0 b1
    go_wp2_with (fail)
    exact ⟨.tuple #[.slice none 0 0, .int .i64 (rdN xs)], by simp [results, Try.results23, go_sem], by rw [HRR.out, ← HN.out]; exact ⟨.inl ⟨H0.out, rfl⟩, K1.out⟩⟩
  · have H0 := Lib.hid h0
    have K1 := Lib.hid b1
    have hgl := at_lt hblk
    have hp12 := pow12 hl
    have HLN := Lib.hid (idL_len (ordF xs) (2 ^ xs.length))
    have HSQ := Lib.hid (c_ideals 7 (by omega) (fun k => k < w1.heap.size) g xs.length (ordF xs) hl (ordF_lt hl hok) w1 hblk hgl)
    have HML := Lib.hid (show ∀ x ∈ idL (ordF xs) (2 ^ xs.length), x < 4096 from fun x hx => Nat.lt_of_lt_of_le (idL_lt hx) hp12)
    obtain ⟨L, hL⟩ : ∃ L, idL (ordF xs) (2 ^ xs.length) = L := ⟨_, rfl⟩
    rw [hL] at HSQ HLN HRR HML
    have hLN : L.length ≤ 4096 := Nat.le_trans HLN.out hp12
    obtain ⟨W, hW⟩ : ∃ W, W = w1.alloc (.cells #[.slice none 0 0] 33) := ⟨_, rfl⟩
    have HB := Lib.hid (show Below w1.heap.size w1 W by subst hW; exact (Below.refl _ _).alloc (Nat.le_refl _) _)
    have HX := Lib.hid (show Boxed W w1.heap.size 33 (.slice none 0 0) by subst hW; exact Boxed.new _ _ _)
    have hzW : W.heap.size = w1.heap.size + 1 := by subst hW; simp
    clear h0 b1 hl hok hblk hL hp12 HLN
    go_wp2_with (fail)
    rw [← hW]
    clear hW
    obtain ⟨i0, hi0, hzz0, hzz1, hzz2⟩ := info_parts int_info
    refine (wpIn_wide (n := 8)).1 ?_
    refine wpIn_it (n := 8) (by omega) (gf := 58) (fb := #[.slice (some ⟨g, 0, none⟩) xs.length xs.length]) (lb := #[]) rfl eg_ideals (m := 0) (Gd := fun k => k < w1.heap.size) (ok := okS) (ts := L) (w0 := w1) HSQ.out (KpG.of_below HB.out (Nat.le_refl _)) (fun v t h => by rw [h]; rfl)
      (fun pre X => ColI w1 w1.heap.size (W.heap.size + 2 + 0) pre X) (fun _ _ _ => False)
      (fun pre X Y h hE => h.own hE (by omega) (by omega)) (fun _ _ _ _ h _ => h.elim)
      (fun pre X l o o' h hl ho hc => h.put (by omega) ho hc) (fun _ _ _ _ _ _ h _ _ _ => h.elim)
      ⟨⟨_, HX.out, World.ownsRow_nil _ _ _ _, fun g hg => by cases hg⟩, HB.out⟩ ?round ?done (fun _ _ _ _ _ _ h _ => h.elim)
    case round =>
      intro l pre v x X K hpre hok hK
      obtain rfl : v = #[.int .u16 (x : Int)] := hok
      gi_wp2_with (fail)
      refine hK _ _ (Below.refl _ _) ?_
      rintro Y ⟨o, o', ho, hoc, hYe⟩ hsz ⟨⟨v, k1, k2, k3⟩, k4⟩
      have hlen : pre.length + 1 ≤ L.length := by have := hpre.length_le; simpa using this
      have hl12 : pre.length + 1 ≤ 4096 := Nat.le_trans hlen hLN
      have hcell := k1.cell
      have HK1 := Lib.hid k1
      have HK2 := Lib.hid k2
      have HK3 := Lib.hid k3
      have HK4 := Lib.hid k4
      have hbs := k4.size
      have hcv : IntKind.i64.wrap (x : Int) = (x : Int) := nat64 _ (by have := HML.out x (hpre.subset (by simp)); omega)
      clear hYe ho hoc o o' hK k1 k2 k3 k4 hpre hlen
      gi_wp2_with (gi_at_builtin; refine wpListIn_append_lies _ rfl _ _ 33 rfl w1.heap.size 3 i0 (.int .i64 0) 1 8 Try.underlying33 hi0 hzz0 hzz1 hzz2 rfl (by decide) _ _ _ rfl (HK2.out.alloc _) ⟨Y.heap.size, 0, none⟩ 1 1 [.int .i64 (x : Int)] rfl rfl (one_at (heap_alloc_new _ _)) (by simp [Value.oneCell']) (by decide) (by unfold maxLen; omega) (by omega) (by simp; omega) (Y.heap.size + 1) (by simp) ?_)
      intro g2 cap2 Z hown hgrow hat
      obtain ⟨hv1, hc2, hkp, hkf⟩ := col_step (S0 := W.heap.size + 2) (m := 0) (Gd := fun k => k < w1.heap.size) rfl (by omega) (Nat.le_refl _) (fun k hk => by omega) hsz HK1.out HK2.out HK3.out HK4.out hown hgrow hat
      have hc1 := hv1.cell
      have hf1 := hv1.frozen
      have HC := Lib.hid hc2
      have HKP := Lib.hid hkp
      have HKF := Lib.hid hkf
      clear hv1 hc2 hkp hkf hown hgrow hat
      gi_wp2_with (fail)
      exact ⟨HKF.out _, HKP.out, HC.out⟩
    case done =>
      rintro D X rfl ⟨⟨v, k1, k2, k3⟩, k4⟩ hdef
      have hcell := k1.cell
      have HDEF := Lib.hid hdef
      have HRW := Lib.hid (show (X.putObj W.heap.size (.deferred none)).ownsRow w.heap.size 3 1 v L.length (elV L) from own_mono (own_row_kept k2 (fun g cur _ hc => put_cells hc hdef rfl)) K1.out.size)
      have HB4 := Lib.hid (below_join K1.out (below_put (o' := .deferred none) k4 (by omega : w1.heap.size ≤ W.heap.size)) K1.out.size)
      clear k1 k2 k3 k4 hdef
      go_wp2_with (fail)
      refine ⟨by simp, .inl ⟨_, _, rfl, run_takeDeferred HDEF.out, ?_⟩⟩
      exact ⟨.tuple #[v, .int .i64 0], by simp [results, Try.results23, go_sem], by rw [HRR.out, ← HN.out, H0.out]; exact ⟨.inr ⟨rfl, v, rfl, HRW.out⟩, HB4.out⟩⟩
end Go.Proofs.Ytjheaeeeeggncaa

namespace Go.Proofs.Ytjheaeeeeggncaa
open Go.RowKit
attribute [local go_sem] Oper.semAt_some
set_option maxRecDepth 100000
set_option linter.unusedVariables false
set_option linter.unusedSimpArgs false

theorem fold_ones : ({ data := (([0, 1, 1, 2, 1, 2, 2, 3, 1, 2, 2, 3, 2, 3, 3, 4, 1, 2, 2, 3, 2, 3, 3, 4, 2, 3, 3, 4, 3, 4, 4, 5, 1, 2, 2, 3, 2, 3, 3, 4, 2, 3, 3, 4, 3, 4, 4, 5, 2, 3, 3, 4, 3, 4, 4, 5, 3, 4, 4, 5, 4, 5, 5, 6].append [1, 2, 2, 3, 2, 3, 3, 4, 2, 3, 3, 4, 3, 4, 4, 5, 2, 3, 3, 4, 3, 4, 4, 5, 3, 4, 4, 5, 4, 5, 5, 6, 2, 3, 3, 4, 3, 4, 4, 5, 3, 4, 4, 5, 4, 5, 5, 6, 3, 4, 4, 5, 4, 5, 5, 6, 4, 5, 5, 6, 5, 6, 6, 7]).append ([1, 2, 2, 3, 2, 3, 3, 4, 2, 3, 3, 4, 3, 4, 4, 5, 2, 3, 3, 4, 3, 4, 4, 5, 3, 4, 4, 5, 4, 5, 5, 6, 2, 3, 3, 4, 3, 4, 4, 5, 3, 4, 4, 5, 4, 5, 5, 6, 3, 4, 4, 5, 4, 5, 5, 6, 4, 5, 5, 6, 5, 6, 6, 7].append [2, 3, 3, 4, 3, 4, 4, 5, 3, 4, 4, 5, 4, 5, 5, 6, 3, 4, 4, 5, 4, 5, 5, 6, 4, 5, 5, 6, 5, 6, 6, 7, 3, 4, 4, 5, 4, 5, 5, 6, 4, 5, 5, 6, 5, 6, 6, 7, 4, 5, 5, 6, 5, 6, 6, 7, 5, 6, 6, 7, 6, 7, 7, 8])).toArray } : ByteArray) = Lib.pop8tab := by rfl
theorem pop_lst : ∀ n : Fin 256, Lib.pop8 (n.val : Int) = ((lst 8 n.val).length : Int) := by decide +kernel
theorem lst_split (s : Nat) (hs : s < 2 ^ 12) : (lst 12 s).length = (lst 8 (s / 256)).length + (lst 8 (s % 256)).length := by
  have h1 : lst 8 (s / 256) = lst 4 (s / 256) := lst_cut (n := 4) (by omega) 4
  rw [h1]
  unfold lst
  rw [show List.range 12 = List.range 8 ++ (List.range 4).map (8 + ·) from by decide, List.filter_append, List.length_append, List.filter_map, List.length_map, Nat.add_comm]
  congr 2
  · refine List.filter_congr fun i _ => ?_
    show s.testBit (8 + i) = (s / 256).testBit i
    rw [show (256 : Nat) = 2 ^ 8 by decide, Nat.testBit_div_two_pow]
    rw [Nat.add_comm]
  · refine List.filter_congr fun i hi => ?_
    have := List.mem_range.1 hi
    rw [show (256 : Nat) = 2 ^ 8 by decide, Nat.testBit_mod_two_pow]
    simp [this]
attribute [local go_sem high] fold_ones
set_option maxHeartbeats 8000000 in
theorem c_ones (s : Nat) (hs : s < 2 ^ 12) (w : World) :
    Calls Try.prog 88 #[.int .u16 (s : Int)] w fun e w' => e = .returned (.int .i64 ((lst 12 s).length : Int)) ∧ w' = w.drew := by
  have hl := lst_split s hs
  have e1 : (s : Int) / 256 = ((s / 256 : Nat) : Int) := by omega
  have e2 : bits BinOp.and IntKind.u16 (s : Int) 255 = ((s % 256 : Nat) : Int) := by
    rw [show (255 : Int) = ((255 : Nat) : Int) from rfl, bits_and16 s 255 (by omega) (by decide), show (255 : Nat) = 2 ^ 8 - 1 by decide, Nat.and_two_pow_sub_one_eq_mod]
  have p1 := pop_lst ⟨s / 256, by omega⟩
  have p2 := pop_lst ⟨s % 256, by omega⟩
  have l1 : (lst 8 (s / 256)).length ≤ 8 := lst_len 8 _
  have l2 : (lst 8 (s % 256)).length ≤ 8 := lst_len 8 _
  have q1 : s / 256 < 256 := by omega
  have q2 : s % 256 < 256 := by omega
  simp only at p1 p2
  obtain ⟨a, ha⟩ : ∃ a, s / 256 = a := ⟨_, rfl⟩
  obtain ⟨b, hb⟩ : ∃ b, s % 256 = b := ⟨_, rfl⟩
  rw [ha] at e1 p1 hl l1 q1
  rw [hb] at e2 p2 hl l2 q2
  rw [hl]
  clear hl ha hb
  obtain ⟨m1, hm1⟩ : ∃ m, (lst 8 a).length = m := ⟨_, rfl⟩
  obtain ⟨m2, hm2⟩ : ∃ m, (lst 8 b).length = m := ⟨_, rfl⟩
  rw [hm1] at p1 l1 ⊢
  rw [hm2] at p2 l2 ⊢
  clear hm1 hm2
  have i1 : ∀ X : World, (Instr.index 9 (.string Lib.pop8tab) (.int .u16 (a : Int))).run Try.prog X = .ok (.int .u8 (m1 : Int)) X := fun X => by rw [Lib.run_index_pop8tab X 9 .u16 (a : Int) Try.underlying9 (by omega) (by omega), p1]
  have i2 : ∀ X : World, (Instr.index 9 (.string Lib.pop8tab) (.int .u16 (b : Int))).run Try.prog X = .ok (.int .u8 (m2 : Int)) X := fun X => by rw [Lib.run_index_pop8tab X 9 .u16 (b : Int) Try.underlying9 (by omega) (by omega), p2]
  clear p1 p2
  go_enter Try.func88, Try.ntmps88
  rw [fold_ones]
  go_wp2_with (fail)
  have HM := Lib.hid (show ((m1 + m2 : Nat) : Int) = (m1 : Int) + (m2 : Int) by omega)
  go_region
  go_wp2_with (fail)
  go_ret
  refine ⟨?_, rfl⟩
  show Ending.returned (.int .i64 _) = _
  congr 2
set_option maxHeartbeats 4000000 in
theorem c_size (s : Nat) (hs : s < 2 ^ 12) (w : World) :
    Calls Try.prog 82 #[.int .u16 (s : Int)] w fun e w' => e = .returned (.int .i64 ((lst 12 s).length : Int)) ∧ w' = w.drew := by
  have HC := Lib.hid (c_ones s hs w)
  obtain ⟨m, hm⟩ : ∃ m, (lst 12 s).length = m := ⟨_, rfl⟩
  rw [hm] at HC ⊢
  clear hm
  go_enter Try.func82, Try.ntmps82
  go_wp2_with (fail)
  go_at_call 88
  refine HC.out.mono ?_
  rintro e w1 ⟨rfl, rfl⟩
  go_wp2_with (fail)
  go_ret
  exact ⟨rfl, rfl⟩
end Go.Proofs.Ytjheaeeeeggncaa

namespace Go.Proofs.Ytjheaeeeeggncaa
open Go.RowKit
attribute [local go_sem] Oper.semAt_some
set_option maxRecDepth 100000
set_option linter.unusedVariables false
set_option linter.unusedSimpArgs false

/-- What Height and Width answer. -/
def HwTo (w : World) (n : Int) (P : Nat → Prop) (e : Ending) (w' : World) : Prop :=
  ((n ≠ 0 ∧ e = .returned (.tuple #[.int .i64 0, .int .i64 n])) ∨ (n = 0 ∧ ∃ h : Nat, e = .returned (.tuple #[.int .i64 (h : Int), .int .i64 0]) ∧ P h)) ∧ Below w.heap.size w w'
theorem all_tb {n i : Nat} (h : i < n) : (2 ^ n - 1).testBit i = true := by rw [Nat.testBit_two_pow_sub_one]; simp [h]
theorem all_of {n s : Nat} (hs : s < 2 ^ n) (h : ∀ i, i < n → s.testBit i = true) : s = 2 ^ n - 1 := by
  apply Nat.eq_of_testBit_eq
  intro i
  rw [Nat.testBit_two_pow_sub_one]
  rcases Nat.lt_or_ge i n with hi | hi
  · rw [h i hi]; simp [hi]
  · rw [Nat.testBit_lt_two_pow (Nat.lt_of_lt_of_le hs (Nat.pow_le_pow_right (by omega) hi))]; simp; omega
theorem come_more {n : Nat} {b : Nat → Nat} (hp : Po n b) {r : Nat} (h : come n b r ≠ 2 ^ n - 1) : r < n ∧ ∃ i, i < n ∧ (come n b r).testBit i = false := by
  have : ∃ i, i < n ∧ (come n b r).testBit i = false := by
    apply Classical.byContradiction
    intro hno
    refine h (all_of (come_lt r) fun i hi => ?_)
    cases e : (come n b r).testBit i
    · exact absurd ⟨i, hi, e⟩ hno
    · rfl
  obtain ⟨i, hi, hb⟩ := this
  refine ⟨?_, i, hi, hb⟩
  have hc : Chn b r i := by
    rcases Classical.em (Chn b r i) with h | h
    · exact h
    · rw [(come_iff hp r i hi).2 h] at hb; cases hb
  exact hc.lt hp hi
set_option maxHeartbeats 8000000 in
theorem c_height (g n : Nat) (f : Nat → Nat) (hn : n ≤ 12) (hf : ∀ j, f j < 2 ^ 12) (hp : Po n f) (w : World) (h : Blk w g n f) :
    Calls Try.prog 66 #[.slice (some ⟨g, 0, none⟩) n n] w fun e w' => (∃ k : Nat, e = .returned (.int .i64 (k : Int)) ∧ High n f k) ∧ w' = w := by
  have H := Lib.hid h
  have HC := Lib.hid (fun s (hs : s < 2 ^ 12) => c_enabled g n f hn hf s hs w h)
  have HA := Lib.hid (c_all (some ⟨g, 0, none⟩) n n hn w)
  have HP := Lib.hid hp
  have HM := Lib.hid (fun r (h : come n f r ≠ 2 ^ n - 1) => come_more hp h)
  have HLT := Lib.hid (fun r => Nat.lt_of_lt_of_le (come_lt (n := n) (b := f) r) (Nat.pow_le_pow_right (n := 2) (by omega) hn))
  have hall : 2 ^ n - 1 < 2 ^ 12 := by have := Nat.pow_le_pow_right (n := 2) (by omega) hn; have := Nat.two_pow_pos n; omega
  have HTB := Lib.hid (fun i (hi : i < n) => all_tb hi)
  obtain ⟨N, hN⟩ : ∃ N, 2 ^ n - 1 = N := ⟨_, rfl⟩
  rw [hN] at HA HM hall HTB
  clear hN h hp hf
  go_enter Try.func66, Try.ntmps66
  go_wp2_with (fail)
  go_loopw [3, 4] (fun v s wr => ∃ r : Nat, r ≤ n ∧ v = .int .i64 (r : Int) ∧ s = .int .u16 ((come n f r : Nat) : Int) ∧ w = wr ∧ Hid (r = 0 ∨ ∃ i, i < n ∧ (come n f (r - 1)).testBit i = false)) (fun v _ _ => n + 1 - (intOf v).toNat)
  case atStart => exact ⟨0, Nat.zero_le _, rfl, rfl, rfl, Lib.hid (.inl rfl)⟩
  case round =>
    obtain ⟨r, hr, rfl, rfl, rfl, hQ⟩ := hrel
    have hri : ((r : Nat) : Int).toNat = r := by omega
    have hs12 := HLT.out r
    have HNX := Lib.hid (show come n f (r + 1) = come n f r ||| setB (enB f (come n f r)) n from rfl)
    have hsb : setB (enB f (come n f r)) n < 2 ^ 12 := Nat.lt_of_lt_of_le (setB_lt _ _) (Nat.pow_le_pow_right (by omega) hn)
    have HMR := Lib.hid (HM.out r)
    have HCR := Lib.hid (HC.out _ hs12)
    have HTR := Lib.hid (show come n f r = N → High n f r from fun e => high_of HP.out (fun i hi => by rw [e]; exact HTB.out i hi) hQ.out)
    have HQN := Lib.hid (show (come n f r ≠ N) → (r + 1 = 0 ∨ ∃ i, i < n ∧ (come n f (r + 1 - 1)).testBit i = false) from fun e => .inr (HM.out r e).2)
    obtain ⟨s, hs⟩ : ∃ s, come n f r = s := ⟨_, rfl⟩
    rw [hs] at hs12 HMR HNX HTR HQN HCR hsb ⊢
    obtain ⟨t, ht⟩ : ∃ t, setB (enB f s) n = t := ⟨_, rfl⟩
    rw [ht] at HNX HCR hsb
    have hor := bits_or16 s t (by omega) (by omega)
    obtain ⟨u, hu⟩ : ∃ u, s ||| t = u := ⟨_, rfl⟩
    rw [hu] at hor HNX
    clear hs ht hu
    by_cases e : s = N
    · have HH := Lib.hid (HTR.out e)
      have hd : ((s : Int) == (N : Int)) = true := by rw [beq_iff_eq]; omega
      have hd2 : ((s : Int) != (N : Int)) = false := by simp [e]
      clear e
      go_wp2_with (go_at_call 78; refine HA.out.mono ?_; rintro e w1 ⟨rfl, hw1⟩; rw [hw1]; clear hw1 w1)
      go_ret
      exact ⟨⟨r, rfl, HH.out⟩, rfl⟩
    · have hlt := (HMR.out e).1
      have HQ2 := Lib.hid (HQN.out e)
      have hd : ((s : Int) == (N : Int)) = false := by rw [beq_eq_false_iff_ne]; omega
      have hd2 : ((s : Int) != (N : Int)) = true := by simp [bne, hd]
      clear e
      go_wp2_with first
        | (go_at_call 78; refine HA.out.mono ?_; rintro e w1 ⟨rfl, hw1⟩; rw [hw1]; clear hw1 w1)
        | (go_at_call 59; refine HCR.out.mono ?_; rintro e w1 ⟨rfl, hw1⟩; rw [hw1]; clear hw1 w1)
      go_roundw
      case rel => exact ⟨r + 1, by omega, by go_num, by rw [HNX.out], trivial, HQ2⟩
      case measure => simp only [intOf]; omega
set_option maxHeartbeats 8000000 in
theorem c_Height (A : Option Addr) (c : Nat) (xs : List LsV) (w : World) (h : LsAt w A c xs) : Calls Try.prog 35 #[.slice A xs.length c] w (HwTo w (rdN xs) (High xs.length (ordF xs))) := by
  have H := Lib.hid h
  obtain ⟨R, hR⟩ : ∃ R, R = HwTo w (rdN xs) (High xs.length (ordF xs)) := ⟨_, rfl⟩
  rw [← hR]
  have HRR := Lib.hid hR
  clear hR h
  go_enter Try.func35, Try.ntmps35
  go_wp2_with (fail)
  go_at_call 48
  refine (c_read A c xs w H.out).mono ?_
  rintro e w1 ⟨⟨h0, rfl⟩ | ⟨h0, hl, hok, hno, g, rfl, hg, hblk⟩, b1⟩
  · have H0 := Lib.hid h0
    have K1 := Lib.hid b1
    have hne : (rdN xs != 0) = true := by simpa using h0
    have hd0 : (rdN xs == 0) = false := by simpa using h0
    clear h0 b1
    go_wp2_with (fail)
    rw [HRR.out]
    exact ⟨.inl ⟨H0.out, rfl⟩, K1.out⟩
  · have H0 := Lib.hid h0
    have K1 := Lib.hid b1
    have HC := Lib.hid (c_height g xs.length (ordF xs) hl (ordF_lt hl hok) (ord_po hok hno) w1 hblk)
    clear h0 b1 hblk
    go_wp2_with (fail)
    go_at_call 66
    refine HC.out.mono ?_
    rintro e w2 ⟨⟨k, rfl, hk⟩, hw2⟩
    rw [hw2]
    have HK := Lib.hid hk
    clear hw2 w2 hk
    go_wp2_with (fail)
    rw [HRR.out, H0.out]
    exact ⟨.inr ⟨rfl, k, rfl, HK.out⟩, K1.out⟩
end Go.Proofs.Ytjheaeeeeggncaa

namespace Go.Proofs.Ytjheaeeeeggncaa
open Go.RowKit
attribute [local go_sem] Oper.semAt_some
set_option maxRecDepth 100000
set_option linter.unusedVariables false
set_option linter.unusedSimpArgs false

def Up (n : Nat) (b g : Nat → Nat) : Prop := ∀ i, i < n → ∀ v, v < g i → Chn b v i
theorem Up.le {n : Nat} {b g : Nat → Nat} (hp : Po n b) (h : Up n b g) {i : Nat} (hi : i < n) : g i ≤ n := by
  rcases Nat.lt_or_ge n (g i) with h1 | h1
  · exact absurd ((h i hi n h1).lt hp hi) (Nat.lt_irrefl _)
  · exact h1
end Go.Proofs.Ytjheaeeeeggncaa

namespace Go.Proofs.Ytjheaeeeeggncaa
open Go.RowKit Go.Shelf
attribute [local go_sem] Oper.semAt_some
set_option maxRecDepth 100000
set_option linter.unusedVariables false
set_option linter.unusedSimpArgs false

/-- The most elements that one of some sets enables. -/
def wideL (n : Nat) (f : Nat → Nat) (l : List Nat) : Nat := l.foldl (fun m s => max m (enL n f s).length) 0
theorem wideL_snoc (n : Nat) (f : Nat → Nat) (l : List Nat) (s : Nat) : wideL n f (l ++ [s]) = max (wideL n f l) (enL n f s).length := by simp [wideL]
theorem fold_ge (g : Nat → Nat) : ∀ (l : List Nat) (m : Nat), m ≤ l.foldl (fun m s => max m (g s)) m ∧ ∀ s ∈ l, g s ≤ l.foldl (fun m s => max m (g s)) m
  | [], m => ⟨Nat.le_refl _, fun s hs => by cases hs⟩
  | x :: l, m => by
    obtain ⟨h1, h2⟩ := fold_ge g l (max m (g x))
    refine ⟨Nat.le_trans (Nat.le_max_left _ _) h1, fun s hs => ?_⟩
    rcases List.mem_cons.1 hs with rfl | hs
    · exact Nat.le_trans (Nat.le_max_right _ _) h1
    · exact h2 s hs
theorem fold_of (g : Nat → Nat) : ∀ (l : List Nat) (m : Nat), l.foldl (fun m s => max m (g s)) m = m ∨ ∃ s ∈ l, g s = l.foldl (fun m s => max m (g s)) m
  | [], m => .inl rfl
  | x :: l, m => by
    rcases fold_of g l (max m (g x)) with h | ⟨s, hs, h⟩
    · rcases Nat.le_total m (g x) with h2 | h2
      · refine .inr ⟨x, by simp, ?_⟩
        show g x = l.foldl _ (max m (g x))
        rw [h]; omega
      · refine .inl ?_
        show l.foldl _ (max m (g x)) = m
        rw [h]; omega
    · exact .inr ⟨s, List.mem_cons_of_mem _ hs, h⟩
theorem wide_idL {n : Nat} {f : Nat → Nat} (hn : n ≤ 12) (hp : Po n f) : Wide n f (wideL n f (idL f (2 ^ n))) := by
  have hmem : ∀ t, t < 2 ^ n → Idl n f t → t ∈ idL f (2 ^ n) := fun t ht hi => by
    unfold idL
    exact List.mem_filter.2 ⟨List.mem_range.2 ht, (idB_iff hn ht).2 hi⟩
  have hge := (fold_ge (fun s => (enL n f s).length) (idL f (2 ^ n)) 0).2
  refine wide_ideals hp ?_ (fun t ht hi => hge t (hmem t ht hi))
  rcases fold_of (fun s => (enL n f s).length) (idL f (2 ^ n)) 0 with h | ⟨s, hs, h⟩
  · have h0 : Idl n f 0 := fun i _ hb => by rw [Nat.zero_testBit] at hb; cases hb
    refine ⟨0, h0, ?_⟩
    have := hge 0 (hmem 0 (Nat.two_pow_pos n) h0)
    unfold wideL
    omega
  · refine ⟨s, ?_, h⟩
    exact (idB_iff hn (idL_lt hs)).1 (List.mem_filter.1 hs).2
/-- Between two ideals. -/
structure WdI (w : World) (g n : Nat) (f : Nat → Nat) (pre : List Nat) (X : World) : Prop where
  bb : Boxed X w.heap.size 64 (.slice (some ⟨g, 0, none⟩) n n)
  bm : Boxed X (w.heap.size + 1) 3 (.int .i64 ((wideL n f pre : Nat) : Int))
  bel : Below w.heap.size w X
section
variable {w X Y : World} {g n : Nat} {f : Nat → Nat} {pre : List Nat} {S m : Nat}
theorem WdI.own (h : WdI w g n f pre X) (hE : OwnIt S m X Y) (hS : w.heap.size + 2 ≤ S) : WdI w g n f pre Y :=
  ⟨hE.same _ _ h.bb (.inl (by omega)), hE.same _ _ h.bm (.inl (by omega)), below_own h.bel hE (by omega)⟩
theorem WdI.put {l : Nat} {o o' : Obj} (h : WdI w g n f pre X) (hw : w.heap.size ≤ l) (hl : X.heap[l]? = some o) (ho : o.isCells = false) : WdI w g n f pre (X.putObj l o') :=
  ⟨put_cells h.bb hl ho, put_cells h.bm hl ho, below_put h.bel hw⟩
end
theorem wideL_le (n : Nat) (f : Nat → Nat) (l : List Nat) : wideL n f l ≤ n := by
  rcases fold_of (fun s => (enL n f s).length) l 0 with h | ⟨s, hs, h⟩
  · unfold wideL; omega
  · have := enL_len f s n
    unfold wideL; omega
set_option maxHeartbeats 8000000 in
theorem c_width (g n : Nat) (f : Nat → Nat) (hn : n ≤ 12) (hf : ∀ j, f j < 2 ^ 12) (hp : Po n f) (w : World) (h : Blk w g n f) :
    Calls Try.prog 67 #[.slice (some ⟨g, 0, none⟩) n n] w fun e w' => (∃ k : Nat, e = .returned (.int .i64 (k : Int)) ∧ Wide n f k) ∧ Below w.heap.size w w' := by
  have HWD := Lib.hid (wide_idL hn hp)
  have HK := Lib.hid h
  have HF := Lib.hid hf
  have hgl := at_lt h
  have hp12 := pow12 hn
  have HML := Lib.hid (show ∀ x ∈ idL f (2 ^ n), x < 2 ^ n from fun x hx => idL_lt hx)
  have hnp := Nat.pow_le_pow_right (n := 2) (by omega) hn
  obtain ⟨W, hW⟩ : ∃ W, W = (w.alloc (.cells #[.slice (some ⟨g, 0, none⟩) n n] 64)).alloc (.cells #[.int .i64 0] 3) := ⟨_, rfl⟩
  have HB := Lib.hid (show Below w.heap.size w W by subst hW; exact ((Below.refl _ _).alloc (Nat.le_refl _) _).alloc (by simp) _)
  have H0 := Lib.hid (show Boxed W w.heap.size 64 (.slice (some ⟨g, 0, none⟩) n n) by subst hW; exact old_heap _ (heap_alloc_new _ _))
  have H1 := Lib.hid (show Boxed W (w.heap.size + 1) 3 (.int .i64 0) by subst hW; exact row_new _ _ _ (by simp))
  have x0 := H0.out.cell
  have hzW : W.heap.size = w.heap.size + 2 := by subst hW; simp
  have HSQ := Lib.hid (c_ideals 7 (by omega) (fun k => k < w.heap.size) g n f hn hf w h hgl)
  obtain ⟨L, hL⟩ : ∃ L, idL f (2 ^ n) = L := ⟨_, rfl⟩
  rw [hL] at HWD HML HSQ
  clear h hf hp hL
  refine (callsIn_wide (n := 8)).1 ?_
  refine callsIn_of_wp_marks Try.func67 rfl trivial ?_ rfl
  simp only [Try.ntmps67, List.size_toArray, List.length_cons, List.length_nil, Nat.reduceAdd, Nat.reduceSub, Array.replicate_succ, Array.replicate_zero, List.push_toArray, List.append_toArray, List.nil_append, List.cons_append]
  rw [wpIn_wide]
  go_wp2_with (fail)
  rw [← hW]
  clear hW
  refine (wpIn_wide (n := 8)).1 ?_
  refine wpIn_it (n := 8) (by omega) (gf := 58) (fb := #[.slice (some ⟨g, 0, none⟩) n n]) (lb := #[]) rfl eg_ideals (m := 0) (Gd := fun k => k < w.heap.size) (ok := okS) (ts := L) (w0 := w) HSQ.out (KpG.of_below HB.out (Nat.le_refl _)) (fun v t h => by rw [h]; rfl)
    (fun pre X => WdI w g n f pre X) (fun _ _ _ => False)
    (fun pre X Y h hE => h.own hE (by omega)) (fun _ _ _ _ h _ => h.elim)
    (fun pre X l o o' h hl ho hc => h.put (by omega) ho hc) (fun _ _ _ _ _ _ h _ _ _ => h.elim)
    ⟨H0.out, H1.out, HB.out⟩ ?round ?done (fun _ _ _ _ _ _ h _ => h.elim)
  case round =>
    intro l pre v s X K hpre hok hK
    obtain rfl : v = #[.int .u16 (s : Int)] := hok
    gi_wp2_with (fail)
    refine hK _ _ (Below.refl _ _) ?_
    rintro Y ⟨o, o', ho, hoc, hYe⟩ hsz hI
    have hs12 : s < 2 ^ 12 := by have := HML.out s (hpre.subset (by simp)); omega
    have y0 := hI.bb.cell
    have y1 := hI.bm.cell
    have f1 := hI.bm.frozen
    have HBY := Lib.hid (HK.out.on hI.bel (Nat.le_refl _))
    have HCE := Lib.hid (fun (Z : World) (hZ : Blk Z g n f) => c_enabled g n f hn HF.out s hs12 Z hZ)
    have HLE := Lib.hid (lst_en (b := f) (s := s) hn)
    have hsb : setB (enB f s) n < 2 ^ 12 := Nat.lt_of_lt_of_le (setB_lt _ _) (Nat.pow_le_pow_right (by omega) hn)
    have HNX := Lib.hid (wideL_snoc n f pre s)
    have hwl := wideL_le n f pre
    have hel := enL_len f s n
    have HI := Lib.hid hI
    have hfm : Try.prog.follows Departure.mixedOrders = true := by kernel_rfl
    obtain ⟨t, ht⟩ : ∃ t, setB (enB f s) n = t := ⟨_, rfl⟩
    rw [ht] at HCE HLE hsb
    have HSZ := Lib.hid (fun Z => c_size t hsb Z)
    rw [HLE.out] at HSZ
    obtain ⟨p, hp⟩ : ∃ p, wideL n f pre = p := ⟨_, rfl⟩
    obtain ⟨q, hq⟩ : ∃ q, (enL n f s).length = q := ⟨_, rfl⟩
    rw [hp] at y1 HNX hwl
    rw [hq] at HNX HSZ hel
    have HFIN := Lib.hid (show ∀ v : Nat, v = max p q → KeepsFrom (w.heap.size + 2) Y (Y.setCell ⟨w.heap.size + 1, 0, none⟩ (.int .i64 (v : Int))).drew.drew ∧ KpIt (w.heap.size + 2 + 2) 0 (fun k => k < w.heap.size) Y (Y.setCell ⟨w.heap.size + 1, 0, none⟩ (.int .i64 (v : Int))).drew.drew ∧ WdI w g n f (pre ++ [s]) (Y.setCell ⟨w.heap.size + 1, 0, none⟩ (.int .i64 (v : Int))).drew.drew from fun v hv => by
      have hk2 := kf_store (B := w.heap.size + 2) (o := 0) (.int .i64 (v : Int)) HI.out.bm
      have hk := kf_store (B := w.heap.size + 2 + 2) (o := 0) (.int .i64 (v : Int)) HI.out.bm
      refine ⟨⟨hk2.size, hk2.same⟩, ⟨hk.size, fun k cs T fr hk' hc => ?_, hk.same⟩, ⟨?_, ?_, ?_⟩⟩
      · have hne : k ≠ w.heap.size + 1 := by rcases hk' with h | h <;> omega
        exact set_else hc hne
      · exact set_else HI.out.bb (by omega)
      · rw [HNX.out, ← hv]; exact HI.out.bm.set _
      · exact (HI.out.bel.setCell (p := ⟨w.heap.size + 1, 0, none⟩) (by show w.heap.size ≤ w.heap.size + 1; omega) _).drew.drew)
    clear hYe ho hoc o o' hK hI hpre ht hp hq
    gi_wp2_with (fail)
    gi_region_with_o (refine ⟨trivial, ?_⟩; first
      | (gi_at_call 59; refine (CallsIn.inRound l (calls_wide (HCE.out Y.drew HBY.out))).mono ?_; rintro e wa ⟨rfl, hwa⟩; rw [hwa]; clear hwa wa)
      | (gi_at_call 82; refine (CallsIn.inRound l (calls_wide (HSZ.out _))).mono ?_; rintro e wa ⟨rfl, hwa⟩; rw [hwa]; clear hwa wa))
    all_goals gi_wp2_with (fail)
    all_goals first
      | exact HFIN.out q (by omega)
      | exact HFIN.out p (by omega)
  case done =>
    rintro D X rfl hI hdef
    have y1 := hI.bm.cell
    have HDEF := Lib.hid hdef
    have HI := Lib.hid hI
    clear hI hdef
    go_wp2_with (fail)
    refine ⟨by simp, .inl ⟨_, _, rfl, run_takeDeferred HDEF.out, ?_⟩⟩
    exact ⟨.int .i64 ((wideL n f L : Nat) : Int), by simp [results, Try.results67, go_sem], ⟨_, rfl, HWD.out⟩, below_put HI.out.bel (by omega)⟩
end Go.Proofs.Ytjheaeeeeggncaa

namespace Go.Proofs.Ytjheaeeeeggncaa
open Go.RowKit
attribute [local go_sem] Oper.semAt_some
set_option maxRecDepth 100000
set_option linter.unusedVariables false
set_option linter.unusedSimpArgs false

set_option maxHeartbeats 8000000 in
theorem c_Width (A : Option Addr) (c : Nat) (xs : List LsV) (w : World) (h : LsAt w A c xs) : Calls Try.prog 37 #[.slice A xs.length c] w (HwTo w (rdN xs) (Wide xs.length (ordF xs))) := by
  have H := Lib.hid h
  obtain ⟨R, hR⟩ : ∃ R, R = HwTo w (rdN xs) (Wide xs.length (ordF xs)) := ⟨_, rfl⟩
  rw [← hR]
  have HRR := Lib.hid hR
  clear hR h
  go_enter Try.func37, Try.ntmps37
  go_wp2_with (fail)
  go_at_call 48
  refine (c_read A c xs w H.out).mono ?_
  rintro e w1 ⟨⟨h0, rfl⟩ | ⟨h0, hl, hok, hno, g, rfl, hg, hblk⟩, b1⟩
  · have H0 := Lib.hid h0
    have K1 := Lib.hid b1
    have hne : (rdN xs != 0) = true := by simpa using h0
    have hd0 : (rdN xs == 0) = false := by simpa using h0
    clear h0 b1
    go_wp2_with (fail)
    rw [HRR.out]
    exact ⟨.inl ⟨H0.out, rfl⟩, K1.out⟩
  · have H0 := Lib.hid h0
    have K1 := Lib.hid b1
    have HC := Lib.hid (c_width g xs.length (ordF xs) hl (ordF_lt hl hok) (ord_po hok hno) w1 hblk)
    clear h0 b1 hblk
    go_wp2_with (fail)
    go_at_call 67
    refine HC.out.mono ?_
    rintro e w2 ⟨⟨k, rfl, hk⟩, b2⟩
    have K2 := Lib.hid (below_join K1.out b2 K1.out.size)
    have HK := Lib.hid hk
    clear b2 hk
    go_wp2_with (fail)
    rw [HRR.out, H0.out]
    exact ⟨.inr ⟨rfl, k, rfl, HK.out⟩, K2.out⟩
end Go.Proofs.Ytjheaeeeeggncaa

namespace Go.Proofs.Ytjheaeeeeggncaa
open Go.RowKit
attribute [local go_sem] Oper.semAt_some
set_option maxRecDepth 100000
set_option linter.unusedVariables false
set_option linter.unusedSimpArgs false

theorem Rv.but {α : Type} {k c g : Nat} {F : α → Nat → Value} {X Y : World} {A : Option Addr} {l : List α} (h : Rv k F X A c l) (hb : But g X Y) (hne : ∀ b o, A = some ⟨b, o, none⟩ → b ≠ g) : Rv k F Y A c l := by
  obtain ⟨h1, h2, h3, h4⟩ := h
  refine ⟨h1, h2, h3, fun h0 => ?_⟩
  obtain ⟨b, o, e, hlt, hc⟩ := h4 h0
  refine ⟨b, o, e, Nat.lt_of_lt_of_le hlt hb.size, fun j x hj i hi => ?_⟩
  have h5 := Array.getElem?_eq_getElem hlt
  have := hb.same b _ (hne b o e) h5
  rw [← hc j x hj i hi]
  exact World.cell?_of_block (a := ⟨b, o + j * k + i, none⟩) (this.trans h5.symm)
/-- In how many ways an ideal goes on; 0 of what is none. -/
def wyI (n : Nat) (f : Nat → Nat) (s : Nat) : Nat := if idB f s = true then wys n f s else 0
def sumW (g : Nat → Nat) (l : List Nat) : Nat := (l.map g).sum
theorem sumW_snoc (g : Nat → Nat) (l : List Nat) (x : Nat) : sumW g (l ++ [x]) = sumW g l + g x := by simp [sumW]
theorem sumW_pre (g : Nat → Nat) {l m : List Nat} (h : l <+: m) : sumW g l ≤ sumW g m := by
  obtain ⟨r, rfl⟩ := h
  simp [sumW]
end Go.Proofs.Ytjheaeeeeggncaa

namespace Go.Proofs.Ytjheaeeeeggncaa
open Go.RowKit
attribute [local go_sem] Oper.semAt_some
set_option maxRecDepth 100000
set_option linter.unusedVariables false
set_option linter.unusedSimpArgs false

set_option maxHeartbeats 4000000 in
theorem c_Index (A : Option Addr) (c : Nat) (l : List Int) (x : Int) (w : World) (h : Rv 1 inV w A c l) :
    Calls Try.prog 45 #[.slice A l.length c, .int .i64 x] w fun e w' => (∃ r : Int, e = .returned (.int .i64 r) ∧ (0 ≤ r ↔ x ∈ l) ∧ -1 ≤ r ∧ r < 9223372036854775807) ∧ w' = w := by
  have H := Lib.hid h
  have k1 := h.1; have k2 := h.2.1
  unfold maxLen at k2
  clear h
  go_enter Try.func45, Try.ntmps45
  go_wp2_with (fail)
  go_loopw [8] (fun i wr => ∃ t : Nat, t ≤ l.length ∧ i = .int .i64 (t : Int) ∧ w = wr ∧ Hid (x ∉ l.take t)) (fun i _ => l.length - (intOf i).toNat)
  case atStart => exact ⟨0, Nat.zero_le _, rfl, rfl, Lib.hid (by simp)⟩
  case round =>
    obtain ⟨t, ht, rfl, rfl, hno⟩ := hrel
    have hti : ((t : Nat) : Int).toNat = t := by omega
    by_cases hlt : t < l.length
    · have htl : (t : Int) < ((l.length : Nat) : Int) := by omega
      obtain ⟨z, hz⟩ : ∃ z, l[t]? = some z := ⟨_, List.getElem?_eq_getElem hlt⟩
      obtain ⟨pb, o, rfl, -, -⟩ := H.out.at_ hz
      have y0 := inV_at H.out hz
      have HZ := Lib.hid hz
      rcases hd : (x == z) with _ | _
      · have HNN := Lib.hid (show x ∉ l.take (t + 1) by
          rw [take_snoc HZ.out, List.mem_append, List.mem_singleton]
          rintro (h | h)
          · exact hno.out h
          · rw [beq_eq_false_iff_ne] at hd; exact hd h)
        clear hz
        go_wp2_with (fail)
        go_roundw
        case rel => exact ⟨t + 1, by omega, by go_num, trivial, HNN⟩
        case measure => simp only [intOf]; omega
      · have HM := Lib.hid (show x ∈ l by rw [beq_iff_eq] at hd; rw [hd]; exact List.mem_of_getElem? HZ.out)
        clear hz
        go_wp2_with (fail)
        go_ret
        exact ⟨⟨_, rfl, ⟨fun _ => HM.out, fun _ => by omega⟩, by omega, by omega⟩, rfl⟩
    · obtain rfl : t = l.length := by omega
      have HM := Lib.hid (show x ∉ l by have := hno.out; rwa [List.take_length] at this)
      go_wp2_with (fail)
      go_ret
      exact ⟨⟨-1, rfl, ⟨fun h => absurd h (by decide), fun h => absurd h HM.out⟩, by decide, by decide⟩, rfl⟩
set_option maxHeartbeats 4000000 in
theorem c_Contains (A : Option Addr) (c : Nat) (l : List Int) (x : Int) (r : Bool) (hr : r = true ↔ x ∈ l) (w : World) (h : Rv 1 inV w A c l) :
    Calls Try.prog 43 #[.slice A l.length c, .int .i64 x] w fun e w' => e = .returned (.bool r) ∧ w' = w := by
  have HR := Lib.hid hr
  have HC := Lib.hid (c_Index A c l x w h)
  clear hr h
  go_enter Try.func43, Try.ntmps43
  go_wp2_with (fail)
  go_at_call 45
  refine HC.out.mono ?_
  rintro e w1 ⟨⟨q, rfl, hq, h1, h2⟩, hw1⟩
  rw [hw1]
  clear hw1 w1
  have HD := Lib.hid (show decide (0 ≤ q) = r by rw [Bool.eq_iff_iff, decide_eq_true_iff, hq]; exact HR.out.symm)
  obtain ⟨d, hd⟩ : ∃ d, decide (0 ≤ q) = d := ⟨_, rfl⟩
  have HDR := Lib.hid (show d = r by rw [← hd]; exact HD.out)
  clear hq
  cases d
  · go_wp2_with (fail)
    go_ret
    exact ⟨by rw [← HDR.out]; rfl, rfl⟩
  · go_wp2_with (fail)
    go_ret
    exact ⟨by rw [← HDR.out]; rfl, rfl⟩
end Go.Proofs.Ytjheaeeeeggncaa

namespace Go.Proofs.Ytjheaeeeeggncaa
open Go.RowKit
attribute [local go_sem] Oper.semAt_some
set_option maxRecDepth 100000
set_option linter.unusedVariables false
set_option linter.unusedSimpArgs false

/-- The error of Rank. -/
noncomputable def rkN (xs : List LsV) (line : List Int) : Int := if rdN xs ≠ 0 then rdN xs else if line.length = xs.length ∧ (rkL xs.length (ordF xs) line 0 0).isSome = true then 0 else 13
def lesW (n : Nat) (f : Nat → Nat) (s : Nat) (x : Int) (l : List Nat) : Nat := sumW (fun i => wys n f (s ||| 1 <<< i)) (l.filter fun (i : Nat) => decide ((i : Int) < x))
theorem lesW_snoc (n : Nat) (f : Nat → Nat) (s : Nat) (x : Int) (l : List Nat) (j : Nat) : lesW n f s x (l ++ [j]) = if (j : Int) < x then lesW n f s x l + wys n f (s ||| 1 <<< j) else lesW n f s x l := by
  unfold lesW
  rw [List.filter_append]
  by_cases h : (j : Int) < x
  · rw [if_pos h]; simp [h, sumW]
  · rw [if_neg h]; simp [h, sumW]
theorem lesW_le {n : Nat} (hn : n ≤ 12) (f : Nat → Nat) (s : Nat) (x : Int) {l : List Nat} (hl : l.length ≤ 12) : lesW n f s x l ≤ 5748019200 := by
  unfold lesW sumW
  have h1 := sum_le (f := fun i => wys n f (s ||| 1 <<< i)) (M := 479001600) (l.filter fun (i : Nat) => decide ((i : Int) < x)) (fun i _ => wys_12 hn _)
  have h2 := List.length_filter_le (fun (i : Nat) => decide ((i : Int) < x)) l
  have h3 : (l.filter fun (i : Nat) => decide ((i : Int) < x)).length * 479001600 ≤ 12 * 479001600 := Nat.mul_le_mul_right _ (by omega)
  omega
theorem rkL_cons {n : Nat} {f : Nat → Nat} {x : Int} {l : List Int} {s k : Nat} : rkL n f (x :: l) s k = if (enL n f s).any (fun (i : Nat) => (i : Int) == x) = true then rkL n f l (s ||| 1 <<< x.toNat) (k + lesW n f s x (enL n f s)) else none := rfl
theorem drop_at {α : Type} {l : List α} {t : Nat} {x : α} (h : l[t]? = some x) : l.drop t = x :: l.drop (t + 1) := by
  obtain ⟨hl, e⟩ := List.getElem?_eq_some_iff.1 h
  rw [List.drop_eq_getElem_cons hl, e]
theorem rk_err {xs : List LsV} {line : List Int} (h0 : rdN xs = 0) (h : ¬ (line.length = xs.length ∧ (rkL xs.length (ordF xs) line 0 0).isSome = true)) : rkN xs line = 13 := by unfold rkN; rw [if_neg (by simp [h0]), if_neg h]
theorem rk_ok {xs : List LsV} {line : List Int} {k : Nat} (h0 : rdN xs = 0) (h : line.length = xs.length) (h2 : rkL xs.length (ordF xs) line 0 0 = some k) : rkN xs line = 0 := by unfold rkN; rw [if_neg (by simp [h0]), if_pos ⟨h, by rw [h2]; rfl⟩]
end Go.Proofs.Ytjheaeeeeggncaa

namespace Go.Proofs.Ytjheaeeeeggncaa
open Go.RowKit
attribute [local go_sem] Oper.semAt_some
set_option maxRecDepth 100000
set_option linter.unusedVariables false
set_option linter.unusedSimpArgs false

/-- The error of Nth. -/
noncomputable def ntN (xs : List LsV) (x : Int) : Int := if rdN xs ≠ 0 then rdN xs else if 0 ≤ x ∧ x < ((wys xs.length (ordF xs) 0 : Nat) : Int) then 0 else 2
theorem pick_cons {g : Nat → Nat} {i : Nat} {l : List Nat} {k : Nat} : pickN g (i :: l) k = if k < g i then some (i, k) else pickN g l (k - g i) := rfl
theorem nthL_next {n : Nat} {b : Nat → Nat} {r s k i k' : Nat} (h : pickN (fun i => wys n b (s ||| 1 <<< i)) (enL n b s) k = some (i, k')) : nthL n b (r + 1) s k = i :: nthL n b r (s ||| 1 <<< i) k' := by
  show (match pickN (fun i => wys n b (s ||| 1 <<< i)) (enL n b s) k with | some (i, k') => i :: nthL n b r (s ||| 1 <<< i) k' | none => []) = _
  rw [h]
theorem nt_in {xs : List LsV} {x : Int} (h0 : rdN xs = 0) (h : 0 ≤ x ∧ x < ((wys xs.length (ordF xs) 0 : Nat) : Int)) : ntN xs x = 0 := by unfold ntN; rw [if_neg (by simp [h0]), if_pos h]
theorem nt_out {xs : List LsV} {x : Int} (h0 : rdN xs = 0) (h : ¬ (0 ≤ x ∧ x < ((wys xs.length (ordF xs) 0 : Nat) : Int))) : ntN xs x = 2 := by unfold ntN; rw [if_neg (by simp [h0]), if_neg h]
theorem free_none {n : Nat} : free n 0 = n := by
  unfold free cnt
  rw [List.filter_eq_self.2 (fun i _ => by simp)]
  simp
end Go.Proofs.Ytjheaeeeeggncaa

namespace Go.Proofs.Ytjheaeeeeggncaa
open Go.RowKit
attribute [local go_sem] Oper.semAt_some
set_option maxRecDepth 100000
set_option linter.unusedVariables false
set_option linter.unusedSimpArgs false

theorem take_eq_next {α : Type} {l m : List α} {t : Nat} {x y : α} (hx : l[t]? = some x) (hy : m[t]? = some y) (h : l.take t = m.take t) : l.take (t + 1) = m.take (t + 1) ↔ x = y := by
  rw [take_snoc hx, take_snoc hy, h]
  simp
set_option maxHeartbeats 8000000 in
theorem c_eqInts (A1 : Option Addr) (c1 : Nat) (l : List Int) (A2 : Option Addr) (c2 : Nat) (m : List Int) (r : Bool) (hr : decide (l = m) = r) (w : World) (h1 : Rv 1 inV w A1 c1 l) (h2 : Rv 1 inV w A2 c2 m) :
    Calls Try.prog 25 #[.slice A1 l.length c1, .slice A2 m.length c2] w fun e w' => e = .returned (.bool r) ∧ Below w.heap.size w w' := by
  have H1 := Lib.hid h1
  have H2 := Lib.hid h2
  have HR := Lib.hid hr
  have k1 := h1.1; have k2 := h1.2.1
  have j1 := h2.1; have j2 := h2.2.1
  unfold maxLen at k2 j2
  clear h1 h2 hr
  have HB0 := Lib.hid (Below.refl w.heap.size w)
  by_cases hl : l.length = m.length
  rotate_left
  · have hd0 : ((l.length : Int) == (m.length : Int)) = false := by rw [beq_eq_false_iff_ne]; omega
    have hne : ((l.length : Int) != (m.length : Int)) = true := by simp; omega
    have HF := Lib.hid (show false = r by rw [← HR.out]; exact (decide_eq_false fun e => hl (by rw [e])).symm)
    clear hl
    go_enter Try.func25, Try.ntmps25
    go_wp2_with (fail)
    go_ret
    exact ⟨by rw [← HF.out]; rfl, HB0.out⟩
  have hd0 : ((l.length : Int) == (m.length : Int)) = true := by rw [beq_iff_eq]; omega
  have hne : ((l.length : Int) != (m.length : Int)) = false := by simp; omega
  have HLM := Lib.hid hl
  go_enter Try.func25, Try.ntmps25
  go_wp2_with (fail)
  go_loopw [13] (fun i wr => ∃ t : Nat, t ≤ l.length ∧ i = .int .i64 (t : Int) ∧ Hid (Below w.heap.size w wr) ∧ Hid (l.take t = m.take t)) (fun i _ => l.length - (intOf i).toNat)
  case atStart => exact ⟨0, Nat.zero_le _, rfl, HB0, Lib.hid (by simp)⟩
  case round =>
    obtain ⟨t, ht, rfl, hB, hT⟩ := hrel
    have hti : ((t : Nat) : Int).toNat = t := by omega
    by_cases hlt : t < l.length
    · have htl : (t : Int) < ((l.length : Nat) : Int) := by omega
      have htm : (t : Int) < ((m.length : Nat) : Int) := by omega
      obtain ⟨x, hx⟩ : ∃ x, l[t]? = some x := ⟨_, List.getElem?_eq_getElem hlt⟩
      obtain ⟨y, hy⟩ : ∃ y, m[t]? = some y := ⟨_, List.getElem?_eq_getElem (by omega)⟩
      have HX := H1.out.on hB.out (Nat.le_refl _)
      have HY := H2.out.on hB.out (Nat.le_refl _)
      obtain ⟨pb, o, rfl, -, -⟩ := HX.at_ hx
      obtain ⟨pb2, o2, rfl, -, -⟩ := HY.at_ hy
      have y0 := inV_at HX hx
      have y1 := inV_at HY hy
      have HN := Lib.hid (take_eq_next hx hy hT.out)
      clear hx hy HX HY
      rcases hd : (x == y) with _ | _
      · have hd2 : (x != y) = true := by simp [bne, hd]
        have HF := Lib.hid (show false = r by
          rw [← HR.out]
          refine (decide_eq_false fun e => ?_).symm
          have := HN.out.1 (by rw [e])
          rw [beq_eq_false_iff_ne] at hd
          exact hd this)
        go_wp2_with (fail)
        go_region
        all_goals go_wp2_with (fail)
        all_goals
          go_ret
          exact ⟨by rw [← HF.out]; rfl, hB.out.drew⟩
      · have hd2 : (x != y) = false := by simp [bne, hd]
        have HT2 := Lib.hid (HN.out.2 (by rw [beq_iff_eq] at hd; exact hd))
        go_wp2_with (fail)
        go_region
        all_goals go_wp2_with (fail)
        all_goals exact ⟨⟨t + 1, by omega, by go_num, Lib.hid hB.out.drew, HT2⟩, by simp only [intOf]; omega⟩
    · obtain rfl : t = l.length := by omega
      have HF := Lib.hid (show true = r by
        rw [← HR.out]
        have := hT.out
        rw [List.take_length, HLM.out, List.take_length] at this
        exact (decide_eq_true this).symm)
      go_wp2_with (fail)
      go_ret
      exact ⟨by rw [← HF.out]; rfl, hB.out⟩
end Go.Proofs.Ytjheaeeeeggncaa

namespace Go.Proofs.Ytjheaeeeeggncaa
open Go.RowKit
attribute [local go_sem] Oper.semAt_some
set_option maxRecDepth 100000
set_option linter.unusedVariables false
set_option linter.unusedSimpArgs false

def lsL (xs : List LsV) : List (List Int) := xs.map (·.l)
theorem lsL_at {xs : List LsV} {t : Nat} {x : LsV} (h : xs[t]? = some x) : (lsL xs)[t]? = some x.l := by simp [lsL, h]
set_option maxHeartbeats 8000000 in
theorem c_EqualFunc (A1 : Option Addr) (c1 : Nat) (xs : List LsV) (A2 : Option Addr) (c2 : Nat) (ys : List LsV) (r : Bool) (hr : decide (lsL xs = lsL ys) = r) (w : World) (h1 : LsAt w A1 c1 xs) (h2 : LsAt w A2 c2 ys) :
    Calls Try.prog 53 #[.slice A1 xs.length c1, .slice A2 ys.length c2, .func (.func 25) #[] #[]] w fun e w' => e = .returned (.bool r) ∧ Below w.heap.size w w' := by
  have H1 := Lib.hid h1
  have H2 := Lib.hid h2
  have HR := Lib.hid hr
  have k1 := h1.1.1; have k2 := h1.1.2.1
  have j1 := h2.1.1; have j2 := h2.1.2.1
  unfold maxLen at k2 j2
  clear h1 h2 hr
  have HB0 := Lib.hid (Below.refl w.heap.size w)
  by_cases hl : xs.length = ys.length
  rotate_left
  · have hd0 : ((xs.length : Int) == (ys.length : Int)) = false := by rw [beq_eq_false_iff_ne]; omega
    have hne : ((xs.length : Int) != (ys.length : Int)) = true := by simp; omega
    have HF := Lib.hid (show false = r by
      rw [← HR.out]
      refine (decide_eq_false fun e => hl ?_).symm
      have := congrArg List.length e
      simpa [lsL] using this)
    clear hl
    go_enter Try.func53, Try.ntmps53
    go_wp2_with (fail)
    go_ret
    exact ⟨by rw [← HF.out]; rfl, HB0.out⟩
  have hd0 : ((xs.length : Int) == (ys.length : Int)) = true := by rw [beq_iff_eq]; omega
  have hne : ((xs.length : Int) != (ys.length : Int)) = false := by simp; omega
  have HLM := Lib.hid hl
  clear hl
  go_enter Try.func53, Try.ntmps53
  go_wp2_with (fail)
  go_loopw [17] (fun i wr => ∃ t : Nat, t ≤ xs.length ∧ i = .int .i64 (t : Int) ∧ Hid (Below w.heap.size w wr) ∧ Hid ((lsL xs).take t = (lsL ys).take t)) (fun i _ => xs.length - (intOf i).toNat)
  case atStart => exact ⟨0, Nat.zero_le _, rfl, HB0, Lib.hid (by simp)⟩
  case round =>
    obtain ⟨t, ht, rfl, hB, hT⟩ := hrel
    have hti : ((t : Nat) : Int).toNat = t := by omega
    by_cases hlt : t < xs.length
    · have htl : (t : Int) < ((xs.length : Nat) : Int) := by omega
      have htm : (t : Int) < ((ys.length : Nat) : Int) := by have := HLM.out; omega
      obtain ⟨x, hx⟩ : ∃ x, xs[t]? = some x := ⟨_, List.getElem?_eq_getElem hlt⟩
      obtain ⟨y, hy⟩ : ∃ y, ys[t]? = some y := ⟨_, List.getElem?_eq_getElem (by have := HLM.out; omega)⟩
      have HX := H1.out.on hB.out (Nat.le_refl _)
      have HY := H2.out.on hB.out (Nat.le_refl _)
      have HXL := HX.2 x (List.mem_of_getElem? hx)
      have HYL := HY.2 y (List.mem_of_getElem? hy)
      obtain ⟨pb, o, rfl, -, -⟩ := HX.1.at_ hx
      obtain ⟨pb2, o2, rfl, -, -⟩ := HY.1.at_ hy
      have y0 := ls_at HX.1 hx
      have y1 := ls_at HY.1 hy
      have HN := Lib.hid (take_eq_next (lsL_at hx) (lsL_at hy) hT.out)
      obtain ⟨q, hq⟩ : ∃ q, decide (x.l = y.l) = q := ⟨_, rfl⟩
      have HC := Lib.hid (c_eqInts x.A x.c x.l y.A y.c y.l q hq wr HXL HYL)
      have HQ := Lib.hid hq
      clear hx hy HX HY HXL HYL hq
      go_wp2_with (fail)
      go_at_call 25
      refine HC.out.mono ?_
      rintro e w1 ⟨rfl, b1⟩
      have K1 := Lib.hid (below_join hB.out b1 hB.out.size)
      clear b1
      cases q
      · have HF := Lib.hid (show false = r by
          rw [← HR.out]
          refine (decide_eq_false fun e => ?_).symm
          have := HN.out.1 (by rw [e])
          exact (of_decide_eq_false HQ.out) this)
        go_wp2_with (fail)
        go_ret
        exact ⟨by rw [← HF.out]; rfl, K1.out⟩
      · have HT2 := Lib.hid (HN.out.2 (of_decide_eq_true HQ.out))
        go_wp2_with (fail)
        go_roundw
        case rel => exact ⟨t + 1, by omega, by go_num, K1, HT2⟩
        case measure => simp only [intOf]; omega
    · obtain rfl : t = xs.length := by omega
      have HF := Lib.hid (show true = r by
        rw [← HR.out]
        have := hT.out
        have e1 : (lsL xs).length = xs.length := by simp [lsL]
        have e2 : (lsL ys).length = ys.length := by simp [lsL]
        rw [List.take_of_length_le (by omega), List.take_of_length_le (by have := HLM.out; omega)] at this
        exact (decide_eq_true this).symm)
      go_wp2_with (fail)
      go_ret
      exact ⟨by rw [← HF.out]; rfl, hB.out⟩
theorem c_same (A1 : Option Addr) (c1 : Nat) (xs : List LsV) (A2 : Option Addr) (c2 : Nat) (ys : List LsV) (r : Bool) (hr : decide (lsL xs = lsL ys) = r) (w : World) (h1 : LsAt w A1 c1 xs) (h2 : LsAt w A2 c2 ys) :
    Calls Try.prog 17 #[.slice A1 xs.length c1, .slice A2 ys.length c2] w fun e w' => e = .returned (.bool r) ∧ Below w.heap.size w w' := by
  have HC := Lib.hid (c_EqualFunc A1 c1 xs A2 c2 ys r hr w h1 h2)
  clear hr h1 h2
  go_enter Try.func17, Try.ntmps17
  go_wp2_with (fail)
  go_at_call 53
  refine HC.out.mono ?_
  rintro e w1 ⟨rfl, b1⟩
  have K1 := Lib.hid b1
  clear b1
  go_wp2_with (fail)
  go_ret
  exact ⟨rfl, K1.out⟩
end Go.Proofs.Ytjheaeeeeggncaa

namespace Go.Proofs.Ytjheaeeeeggncaa
open Go.RowKit
set_option maxRecDepth 100000
set_option linter.unusedVariables false
set_option linter.unusedSimpArgs false

def mkEm : List (Nat × Nat) → Nat → List MapEntry
  | [], _ => []
  | (k, v) :: l, n => { key := .int .u16 (k : Int), val := .int .i64 (v : Int), born := n } :: mkEm l (n + 1)
def assocN (s : Nat) : List (Nat × Nat) → Option Nat
  | [] => none
  | (k, x) :: l => if k = s then some x else assocN s l
theorem assocN_mem {s v : Nat} : ∀ {l : List (Nat × Nat)}, assocN s l = some v → (s, v) ∈ l
  | [], h => by cases h
  | (k, x) :: l, h => by
    unfold assocN at h
    split at h
    · rename_i e
      injection h with h
      subst e h
      exact List.mem_cons_self ..
    · exact List.mem_cons_of_mem _ (assocN_mem h)
theorem assocN_none {s : Nat} : ∀ {l : List (Nat × Nat)}, assocN s l = none ↔ ∀ x ∈ l, x.1 ≠ s
  | [] => ⟨fun _ x hx => (by cases hx), fun _ => rfl⟩
  | (k, y) :: l => by
    unfold assocN
    constructor
    · intro h x hx
      split at h
      · cases h
      · rename_i hne
        rcases List.mem_cons.1 hx with rfl | hx
        · exact hne
        · exact assocN_none.1 h x hx
    · intro h
      rw [if_neg (h (k, y) (List.mem_cons_self ..))]
      exact assocN_none.2 fun x hx => h x (List.mem_cons_of_mem _ hx)
/-- Block b is a map from these sets to these numbers. -/
def MapN (w : World) (b : Nat) (tab : List (Nat × Nat)) : Prop := ∃ es, w.heap[b]? = some (.map es tab.length) ∧ es.toList = mkEm tab 0
theorem findNow_mm (s : Nat) : ∀ (tab : List (Nat × Nat)) (n i : Nat),
    (∃ (j : Nat) (v : Nat), Instr.findNow (.int .u16) (.int .u16 (s : Int)) (mkEm tab n) i = some (some (j, .int .i64 (v : Int))) ∧ assocN s tab = some v) ∨ (Instr.findNow (.int .u16) (.int .u16 (s : Int)) (mkEm tab n) i = some none ∧ assocN s tab = none)
  | [], n, i => .inr ⟨rfl, rfl⟩
  | (k, v) :: l, n, i => by
    by_cases hk : k = s
    · subst hk
      exact .inl ⟨i, v, by simp [mkEm, Instr.findNow, Instr.sameNow], by simp [assocN]⟩
    · have hne : ((s : Int) == (k : Int)) = false := by rw [beq_eq_false_iff_ne]; omega
      rcases findNow_mm s l (n + 1) (i + 1) with ⟨j, v', h1, h2⟩ | ⟨h1, h2⟩
      · exact .inl ⟨j, v', by simp [mkEm, Instr.findNow, Instr.sameNow, hne, h1], by simp [assocN, hk, h2]⟩
      · exact .inr ⟨by simp [mkEm, Instr.findNow, Instr.sameNow, hne, h1], by simp [assocN, hk, h2]⟩
theorem run_lookM {P : Program} {t k e : TypeId} (ht : P.underlying t = some (.map k e)) (hk : P.underlying k = some (.int .u16)) {w : World} (hz : (zeroValue e).run P w = .ok (.int .i64 0) w) {b : Nat} {tab : List (Nat × Nat)} (hm : MapN w b tab) (s : Nat) :
    (Instr.lookup t (.map (some b)) (.int .u16 (s : Int)) true).run P w = .ok (.tuple #[.int .i64 (((assocN s tab).getD 0 : Nat) : Int), .bool (assocN s tab).isSome]) w := by
  obtain ⟨es, hb, he⟩ := hm
  have hc : (Instr.checkKey es.isEmpty 10000 k (.int .u16 (s : Int))).run P w = .ok () w := MapKept.run_checkKey (k := .int .u16 (s : Int)) hk (by simp [MapKept.IsKey]) _ 9999
  rcases findNow_mm s tab 0 0 with ⟨j, v, h1, h2⟩ | ⟨h1, h2⟩
  · rw [← he] at h1
    simp [Instr.lookup, run_underlying ht, MapKept.run_getObj_map hb, hc, MapKept.run_findKey hk h1, h2, Result.andThen]
  · rw [← he] at h1
    simp [Instr.lookup, run_underlying ht, MapKept.run_getObj_map hb, hc, MapKept.run_findKey hk h1, h2, Result.andThen, hz]
theorem mkEm_snoc (k : Nat) (v : Nat) : ∀ (tab : List (Nat × Nat)) (n : Nat), mkEm (tab ++ [(k, v)]) n = mkEm tab n ++ [{ key := .int .u16 (k : Int), val := .int .i64 (v : Int), born := n + tab.length }]
  | [], n => by simp [mkEm]
  | (k', v') :: l, n => by simp [mkEm, mkEm_snoc k v l (n + 1)]; omega
theorem run_putM {P : Program} {t k e : TypeId} (ht : P.underlying t = some (.map k e)) (hk : P.underlying k = some (.int .u16)) {w : World} {b : Nat} {tab : List (Nat × Nat)} (hm : MapN w b tab) (s v : Nat) (hs : assocN s tab = none) :
    ∃ w', (Instr.mapUpdate t (.map (some b)) (.int .u16 (s : Int)) (.int .i64 (v : Int))).run P w = .ok () w' ∧ MapN w' b (tab ++ [(s, v)]) ∧ w.grownBy w' (some b) := by
  obtain ⟨es, hb, he⟩ := hm
  have hc : (Instr.checkKey false 10000 k (.int .u16 (s : Int))).run P w = .ok () w := MapKept.run_checkKey (k := .int .u16 (s : Int)) hk (by simp [MapKept.IsKey]) false 9999
  have hf : Instr.findNow (.int .u16) (.int .u16 (s : Int)) es.toList 0 = some none := by
    rw [he]
    rcases findNow_mm s tab 0 0 with ⟨j, v, h1, h2⟩ | ⟨h1, h2⟩
    · rw [hs] at h2; cases h2
    · exact h1
  refine ⟨_, by simp [Instr.mapUpdate, run_underlying ht, MapKept.run_getObj_map hb, hc, MapKept.run_findKey hk hf, MapKept.run_setObj_map _ hb, Result.andThen]; rfl, ⟨es.push { key := .int .u16 (s : Int), val := .int .i64 (v : Int), born := tab.length }, ?_, ?_⟩, ?_⟩
  · have hlt := (Array.getElem?_eq_some_iff.1 hb).1
    simp [hlt]
  · rw [mkEm_snoc, Array.toList_push, he, Nat.zero_add]
  · exact ⟨rfl, rfl, rfl, by simp, fun i hi hne => by
      simp only [Array.getElem?_setIfInBounds]
      rw [if_neg (fun e => hne (by rw [e]))]⟩
theorem MapN.keep {w w' : World} {b : Nat} {tab : List (Nat × Nat)} (h : MapN w b tab) (H : ∀ o : Obj, w.heap[b]? = some o → w'.heap[b]? = some o) : MapN w' b tab := by
  obtain ⟨es, h1, h2⟩ := h; exact ⟨es, H _ h1, h2⟩
theorem MapN.lt {w : World} {b : Nat} {tab : List (Nat × Nat)} (h : MapN w b tab) : b < w.heap.size := by
  obtain ⟨es, h1, h2⟩ := h; exact (Array.getElem?_eq_some_iff.1 h1).1
theorem MapN.on {w w' : World} {b n : Nat} {tab : List (Nat × Nat)} (h : MapN w b tab) (hb : Below n w w') (hn : w.heap.size ≤ n) : MapN w' b tab := h.keep fun o ho => (hb.block b (by have := h.lt; omega)).trans ho
/-- What a map of ways may hold. -/
def TabOk (n : Nat) (f : Nat → Nat) (tab : List (Nat × Nat)) : Prop := ∀ x ∈ tab, x.2 = wys n f x.1
theorem TabOk.app {n : Nat} {f : Nat → Nat} {a b : List (Nat × Nat)} (h : TabOk n f a) (k : TabOk n f b) : TabOk n f (a ++ b) := fun x hx => by
  rcases List.mem_append.1 hx with hx | hx
  · exact h x hx
  · exact k x hx
end Go.Proofs.Ytjheaeeeeggncaa

namespace Go.Proofs.Ytjheaeeeeggncaa
open Go.RowKit Go.Shelf
set_option maxRecDepth 100000

/-- Q, but nothing is outgrown. -/
def NoOut (Q : Exit → Act → World → Prop) : Exit → Act → World → Prop
  | .outgrown, _, _ => False
  | e, a, w => Q e a w
theorem NoOut.imp {Q : Exit → Act → World → Prop} : ∀ (e : Exit) (a : Act) (w : World), NoOut Q e a w → Q e a w := fun e _ _ h => by
  cases e <;> first | exact h | exact h.elim
theorem noOut_normal (Q : Exit → Act → World → Prop) (a : Act) (w : World) : NoOut Q .normal a w = Q .normal a w := rfl
theorem not_letsOut (Q : Exit → Act → World → Prop) : ¬ LetsOut (NoOut Q) := fun ⟨_, _, h⟩ => h
theorem opIn_of_op {P : Program} {o : Oper} {a : Act} {w : World} {l n : Nat} {K : Act → World → Prop} {Q : Exit → Act → World → Prop} (hnd : ∀ c, o.op ≠ .defer c) (h : o.wp P a w K (NoOut Q)) : o.wpIn (Fence.wide.inRound l) n P a w K Q := by
  unfold Oper.wpIn
  refine ⟨fun _ _ => trivial, ?_⟩
  rw [show (Fence.wide.inRound l).round = some l from rfl, Oper.semAt_eq _ _ _ hnd]
  unfold Oper.wp at h
  generalize (execOp a.eval o).run P w = r at *
  cases r with
  | ok x w' =>
    cases x <;> simp only [Oper.uponIn, Oper.upon] at h ⊢
    case value => exact h
    case skip => exact h
    case defer => exact h
    case enter f args =>
      refine ⟨fun h => (by cases h), (CallsIn.inRound l (calls_wide h)).mono fun e w'' he => ?_⟩
      cases e with
      | returned v => exact he
      | panicked c => exact he
      | outgrown => exact (not_letsOut Q he).elim
    case row row args => exact ⟨fun h => (by cases h), fun c cs _ => by obtain ⟨v, w'', r, s⟩ := h c cs; exact ⟨v, w'', r, stepsIn_wide.2 s⟩⟩
  | halt x w' =>
    cases x <;> simp only [Oper.uponIn, Oper.upon] at h ⊢
    case panic => exact h
def noDefer (ops : Array Oper) : Bool := ops.all fun o => match o.op with | .defer _ => false | _ => true
theorem noDefer_spec {ops : Array Oper} (h : noDefer ops = true) {i : Nat} {o : Oper} (ho : ops[i]? = some o) : ∀ c, o.op ≠ .defer c := by
  intro c hc
  unfold noDefer at h
  rw [Array.all_eq_true_iff_forall_mem] at h
  have := h o (Array.mem_of_getElem? ho)
  rw [hc] at this
  cases this
section
variable {P : Program} {ops : Array Oper} {Q : Exit → Act → World → Prop} {md : Region.Mode} {S : World → Prop} {z : Nat}
/-- Whatever order comes: S holds behind each operation but z. -/
def wpAnyZ (P : Program) (md : Region.Mode) (ops : Array Oper) (Q : Exit → Act → World → Prop) (S : World → Prop) (z : Nat) : Nat → Array Bool → Act → World → Prop
  | 0, listed, a, w => Region.ready md ops listed = [] ∧ Q .normal a w
  | fuel + 1, listed, a, w =>
    (Region.ready md ops listed = [] → Q .normal a w) ∧
    ∀ i ∈ Region.ready md ops listed, wpOp P ops Q i (fun a' w' => (i = z ∨ S w') ∧ wpAnyZ P md ops Q S z fuel (listed.setIfInBounds i true) a' w') a w
/-- z waits for all others. -/
def waitsAll (md : Region.Mode) (ops : Array Oper) (z : Nat) : Bool :=
  match ops[z]? with
  | none => false
  | some o => (List.range ops.size).all fun k => k == z || o.after.any fun e => Region.binds md e && e.on == k
theorem waits_spec (hz : waitsAll md ops z = true) {listed : Array Bool} (hr : z ∈ Region.ready md ops listed) {i : Nat} (hi : i < ops.size) (hne : i ≠ z) : listed.getD i false = true := by
  obtain ⟨-, o, ho, hall⟩ := mem_ready.1 hr
  unfold waitsAll at hz
  rw [ho] at hz
  have h1 := List.all_eq_true.1 hz i (List.mem_range.2 hi)
  simp only [Bool.or_eq_true, beq_iff_eq] at h1
  rcases h1 with h1 | h1
  · exact absurd h1 hne
  · rw [← Array.any_toList, List.any_eq_true] at h1
    obtain ⟨e, he, hb⟩ := h1
    rw [Array.mem_toList_iff] at he
    simp only [Bool.and_eq_true, beq_iff_eq] at hb
    have := hall e he hb.1
    rw [hb.2] at this
    exact this
theorem not_both {listed : Array Bool} {i : Nat} (h1 : listed.getD i true = false) (h2 : listed.getD i false = true) : False := by
  by_cases hlt : i < listed.size
  · simp [hlt] at h1 h2
    rw [h1] at h2; cases h2
  · simp [Array.getElem?_eq_none (show listed.size ≤ i by omega)] at h1
theorem z_first {i : Nat} {oi : Oper} {v : Value} (hz : waitsAll md ops z = true) (hi : ops[i]? = some oi) (hsel : ∀ (j : Nat) (o : Oper) cs b, ops[j]? = some o → o.op ≠ .select cs b) (hQ : ∀ c a w, Q (.panic c) (a.put oi.dst v) w → Q (.panic c) a w) :
    ∀ (fuel : Nat) (listed : Array Bool) (a : Act) (w : World), (∀ j oj, ops[j]? = some oj → j ≠ i → listed.getD j true = false → (∀ e ∈ oj.after, Region.binds md e = true → e.on ≠ i) → oi.apart ops oj = true) →
      i ∈ Region.ready md ops listed → YieldsIf P ops S oi v a → S w → wpAnyZ P md ops Q S z fuel (listed.setIfInBounds i true) (a.put oi.dst v) w → wpAnyZ P md ops Q S z (fuel + 1) listed a w := by
  intro fuel
  induction fuel with
  | zero =>
    intro listed a w _ hr hy hS H
    refine ⟨fun h0 => ?_, fun j hj => ?_⟩
    · rw [h0] at hr; cases hr
    · rcases Nat.decEq j i with hne | heq
      · have h1 := ready_mono hj hne
        rw [H.1] at h1
        cases h1
      · subst heq
        exact hy.wpOp hi hS ⟨.inr hS, H⟩
  | succ fuel ih =>
    intro listed a w hfree hr hy hS H
    refine ⟨fun h0 => ?_, fun j hj => ?_⟩
    · rw [h0] at hr; cases hr
    rcases Nat.decEq j i with hne | heq
    · obtain ⟨hjun, oj, hoj, hall⟩ := mem_ready.1 hj
      have hi0 := (mem_ready.1 hr).1
      have hwait : ∀ e ∈ oj.after, Region.binds md e = true → e.on ≠ i := fun e he hb heq => not_both hi0 (by have h1 := hall e he hb; rw [heq] at h1; exact h1)
      have hjz : j ≠ z := fun e => by
        subst e
        exact not_both hi0 (waits_spec hz hj ((Array.getElem?_eq_some_iff.1 hi).1) (Ne.symm hne))
      have h2 := wpOp_putIf hoj (hfree j oj hoj hne hjun hwait) (fun cs b => hsel i oi cs b hi) (fun cs b => hsel j oj cs b hoj) hQ hy (H.2 j (ready_mono hj hne))
      refine wpOp_mono (fun a' w' h3 => ?_) h2
      obtain ⟨h4, h5, h6⟩ := h3
      have hSw : S w' := h5.resolve_left hjz
      refine ⟨.inr hSw, ih (listed.setIfInBounds j true) a' w' (fun k ok hk hki hun hno => hfree k ok hk hki ?_ hno) (ready_mono hr (Ne.symm hne)) h4 hSw ?_⟩
      · by_cases hjk : j = k
        · subst hjk; exact hjun
        · rw [getD_set_ne true hjk] at hun; exact hun
      · rw [Array.setIfInBounds_comm _ _ hne]
        exact h6
    · subst heq
      exact hy.wpOp hi hS ⟨.inr hS, H⟩
theorem takeZ (i : Nat) (d : Option Tmp) {oi : Oper} {v : Value} {fuel : Nat} {listed : Array Bool} {a : Act} {w : World} (hz : waitsAll md ops z = true) (hi : ops[i]? = some oi) (hd : oi.dst = d)
    (hs : Region.noSelect ops = true) (hf : Region.free md ops listed i = true) (hr : (Region.ready md ops listed).contains i = true)
    (hQ : ∀ c a w, Q (.panic c) (a.put d v) w → Q (.panic c) a w) (hw : Region.wanted oi (yielded ops a.tmps) = true) (hy : ∀ w, S w → (execOp a.eval oi).run P w = .ok (.value v) w) (hS : S w)
    (h : wpAnyZ P md ops Q S z fuel (listed.setIfInBounds i true) (a.put d v) w) : wpAnyZ P md ops Q S z (fuel + 1) listed a w := by
  subst hd
  exact z_first hz hi (Region.noSelect_spec hs) hQ fuel listed a w (Region.free_spec hi hf) (by simpa using hr) (.inl ⟨hw, hy⟩) hS h
/-- One operation alone may come up. -/
theorem oneZ (i : Nat) {oi : Oper} {fuel : Nat} {listed : Array Bool} {a : Act} {w : World} (hi : ops[i]? = some oi) (hr : Region.ready md ops listed = [i])
    (h : ∀ K : Act → World → Prop, _root_.Go.Shut (∀ a w, (i = z ∨ S w) → wpAnyZ P md ops Q S z fuel (listed.setIfInBounds i true) a w → K a w) → if Region.wanted oi (yielded ops a.tmps) = true then Oper.wp P oi a w K Q else K (a.put oi.dst undef) w) :
    wpAnyZ P md ops Q S z (fuel + 1) listed a w := by
  refine ⟨fun h0 => ?_, fun j hj => ?_⟩
  · rw [hr] at h0; cases h0
  · rw [hr] at hj
    obtain rfl : j = i := by simpa using hj
    exact wpOp_step hi fun K hK => h K fun a w h1 h2 => hK a w ⟨h1, h2⟩
theorem doneZ {listed : Array Bool} {a : Act} {w : World} (hr : Region.ready md ops listed = []) (h : Q .normal a w) : ∀ fuel, wpAnyZ P md ops Q S z fuel listed a w
  | 0 => ⟨hr, h⟩
  | _ + 1 => ⟨fun _ => h, by rw [hr]; simp⟩
end

theorem anyIn_of_z {P : Program} {ops : Array Oper} {md : Region.Mode} {l n z : Nat} {S : World → Prop} {Q : Exit → Act → World → Prop} (hnd : noDefer ops = true) :
    ∀ (fuel : Nat) (listed : Array Bool) (a : Act) (w : World), wpAnyZ P md ops (NoOut Q) S z fuel listed a w → wpAnyIn (Fence.wide.inRound l) n P md ops Q fuel listed a w
  | 0, _, _, _, h => ⟨h.1, NoOut.imp _ _ _ h.2⟩
  | fuel + 1, listed, a, w, h => by
    refine ⟨fun h0 => NoOut.imp _ _ _ (h.1 h0), fun i hi => ?_⟩
    have h2 := h.2 i hi
    unfold wpOp at h2
    unfold wpOpIn
    split at h2
    · rename_i e
      rw [e]
      exact anyIn_of_z hnd fuel _ _ _ h2.2
    · rename_i o e
      rw [e]
      show if _ then _ else _
      split at h2
      · rename_i hw
        rw [if_pos hw]
        rcases h2 with h2 | h2
        · exact Oper.wpIn_mono (fun a' w' h3 => anyIn_of_z hnd fuel _ a' w' h3.2) (opIn_of_op (noDefer_spec hnd e) h2)
        · exact (not_letsOut Q h2.2).elim
      · rename_i hw
        rw [if_neg hw]
        exact ⟨fun _ _ => trivial, anyIn_of_z hnd fuel _ _ _ h2.2⟩
/-- A region that draws, in a round; the operation z waits for all others. -/
theorem region_round_z {P : Program} {ops : Array Oper} {l n id : Nat} {S : World → Prop} {Q : Exit → Act → World → Prop} {a : Act} {w : World} (z : Nat) (hm : P.follows .mixedOrders = true) (hnd : noDefer ops = true) (hS : S w.drew)
    (h : S w.drew → wpAnyZ P .any ops (NoOut Q) S z ops.size (Array.replicate ops.size false) a w.drew) : (Code.region id ops true).wpIn (Fence.wide.inRound l) n P Q a w :=
  wpIn_region_any hm (anyIn_of_z hnd _ _ _ _ (h hS))
end Go.Proofs.Ytjheaeeeeggncaa
