/-
  DERIVED. Several texts in one.
-/
import Derived.Test.YtpokpgnclohiiaaGreatPB4
import Derived.Test.YtpokpgnclohiiaaGreatPB3
import Derived.BigQuiet
import Derived.RegionTactic
import Derived.Deep.RegionHeld3
import Derived.Test.YtpokpgnclohiiaaGreatRows
import Derived.Handed
import Derived.OpenShut
import Derived.Deep.Fields
import Derived.Deep.Slices
import Derived.ChangeSame
import Derived.ChangeSlices
import Derived.Test.YtpokpgnclohiiaaGreatPB2
set_option linter.unusedVariables false
set_option linter.unusedSimpArgs false

namespace Go.Proofs.YtpokpgnclohiiaaGreat
open Go.RowKit
set_option maxRecDepth 100000
set_option linter.unusedVariables false
set_option linter.unusedSimpArgs false

set_option maxHeartbeats 16000000 in
theorem c_wrValidWish (A : Option Addr) (c : Nat) (xs : List (Svc × SvA)) (r : Bool) (hr : r = true ↔ WishOk (svs xs)) (w : World) (h : WiAt w A c xs) :
    Calls Tryz.prog 37 #[.agg #[.slice A xs.length c]] w fun e w' => e = .returned (.bool r) ∧ Below w.heap.size w w' := by
  obtain ⟨W, hW⟩ : ∃ W, W = w.alloc (.cells #[.slice A xs.length c] 32) := ⟨_, rfl⟩
  have B0 : Below w.heap.size w W := by subst hW; exact (Below.refl _ _).alloc (Nat.le_refl _) _
  have HB := Lib.hid B0
  have hle := B0.size
  have HX : W.heap[w.heap.size]? = some (.cells #[.slice A xs.length c] 32 (0, 0)) := by subst hW; exact box_new _ _ _
  have HF := Lib.hid (fun (X : World) (hX : Below W.heap.size W X) => (cell_of (box_on HX hX (Nat.le_refl _)) rfl : X.cell? ⟨w.heap.size, 0, none⟩ = some (.slice A xs.length c)))
  have x0 := HF.out W (Below.refl _ _)
  have H := Lib.hid (h.on B0 (Nat.le_refl _))
  have hc1 := h.row.1
  have hc2 := h.row.2.1
  unfold maxLen at hc2
  have hsl := svs_len xs
  have HR := Lib.hid hr
  clear hr h HX B0
  generalize hA : w.heap.size = B at *
  rw [hW] at x0
  by_cases h8 : xs.length ≤ 8
  · have hd8 : decide ((8 : Int) < (xs.length : Int)) = false := decide_eq_false (by omega)
    go_enter Tryz.func37, Tryz.ntmps37
    go_wp2_with (fail)
    rw [← hW]
    clear hW x0
    go_loopw [3, 4] (fun sm i wr => ∃ k : Nat, k ≤ xs.length ∧ sm = .int .i64 (sumR ((svs xs).take k)) ∧ i = .int .i64 (k : Int) ∧ Hid (∀ (i : Nat) s, i < k → (svs xs)[i]? = some s → svcB s i xs.length = true) ∧ Hid (Below W.heap.size W wr)) (fun _ i _ => xs.length - (intOf i).toNat)
    case atStart => exact ⟨0, Nat.zero_le _, rfl, rfl, Lib.hid (fun i s hi => absurd hi (by omega)), Lib.hid (Below.refl _ _)⟩
    case round =>
      obtain ⟨k, hk, rfl, rfl, hok, hK⟩ := hrel
      have hbd := sumR_bound (ss := svs xs) (k := k) (by omega) fun i s hi hs => keepB_reps (by have := hok.out i s hi hs; unfold svcB at this; rw [Bool.and_eq_true] at this; exact this.1)
      obtain ⟨sm, hsm⟩ : ∃ sm, sumR ((svs xs).take k) = sm := ⟨_, rfl⟩
      have HSM := Lib.hid hsm
      rw [hsm] at hbd ⊢
      clear hsm
      have x0 := HF.out wr hK.out
      by_cases hlt : k < xs.length
      · obtain ⟨x, hx⟩ : ∃ x, xs[k]? = some x := ⟨_, List.getElem?_eq_getElem hlt⟩
        have HXX := Lib.hid hx
        have HSV := Lib.hid (svs_at hx)
        have hki : ((k : Nat) : Int).toNat = k := by omega
        have hlt' : (k : Int) < ((xs.length : Nat) : Int) := by omega
        obtain ⟨q1, hq1⟩ : ∃ q, svcB x.1 (k : Int) (xs.length : Int) = q := ⟨_, rfl⟩
        have Q1 := Lib.hid hq1
        clear hq1 hx
        go_wp2_with (fail)
        go_at_call 53
        refine (c_service A c xs k x HXX.out q1 Q1.out wr (H.out.on hK.out (Nat.le_refl _))).mono ?_
        rintro e w1 ⟨rfl, b1⟩
        have K1 := Lib.hid (below_join hK.out b1 hK.out.size)
        clear b1 x0
        cases q1
        · obtain rfl : false = r := by
            rcases r with _ | _
            · rfl
            · exact absurd (HR.out.1 rfl) (wish_no HSV.out Q1.out)
          go_wp2_with (fail)
          go_ret
          exact ⟨rfl, below_join HB.out K1.out hle⟩
        · have x0 := HF.out w1 K1.out
          have HK := H.out.on K1.out (Nat.le_refl _)
          obtain ⟨pb, po, rfl, -, -⟩ := HK.row.at_ HXX.out
          obtain ⟨-, y1, -⟩ := sv_at HK.row HXX.out
          have hrp := keepB_reps (by have := Q1.out; unfold svcB at this; rw [Bool.and_eq_true] at this; exact this.1)
          have HN := Lib.hid (show sumR ((svs xs).take (k + 1)) = sm + x.1.reps by rw [sumR_take HSV.out, HSM.out])
          have HO := Lib.hid (show ∀ (i : Nat) s, i < k + 1 → (svs xs)[i]? = some s → svcB s i xs.length = true from fun i s hi hs => by
            rcases Nat.lt_or_ge i k with h | h
            · exact hok.out i s h hs
            · obtain rfl : i = k := by omega
              rw [HSV.out] at hs
              injection hs with hs
              subst hs
              exact Q1.out)
          clear HK
          go_wp2_with (fail)
          go_roundw
          case rel => exact ⟨k + 1, by omega, by rw [HN.out], by go_num, HO, K1⟩
          case measure => simp only [intOf]; omega
      · obtain rfl : k = xs.length := by omega
        have hd : decide (sm ≤ 24) = r := by
          have e : sumR (svs xs) = sm := by rw [← HSM.out, ← hsl, List.take_length]
          rw [Bool.eq_iff_iff, decide_eq_true_eq, HR.out, ← e]
          exact ⟨fun h => ⟨by omega, fun i s hs => by rw [hsl]; exact hok.out i s (by have := (List.getElem?_eq_some_iff.1 hs).1; omega) hs, h⟩, fun h => h.2.2⟩
        go_wp2_with (fail)
        go_ret
        exact ⟨rfl, below_join HB.out hK.out hle⟩
  · have hd8 : decide ((8 : Int) < (xs.length : Int)) = true := decide_eq_true (by omega)
    obtain rfl : false = r := by
      rcases r with _ | _
      · rfl
      · exact absurd (HR.out.1 rfl).1 (by omega)
    go_enter Tryz.func37, Tryz.ntmps37
    go_wp2_with (fail)
    go_ret
    rw [← hW]
    exact ⟨rfl, HB.out⟩
theorem no_of {P : Prop} {r : Bool} (hr : r = true ↔ P) (h : ¬ P) : r = false := by
  rcases r with _ | _
  · rfl
  · exact absurd (hr.1 rfl) h
set_option maxHeartbeats 32000000 in
theorem c_wrValid (p : SP) (s : SiteD) (A : Option Addr) (c : Nat) (xs : List (Svc × SvA)) (q : WP) (d : WorldD) (r : Bool) (hr : r = true ↔ WorldOk s (svs xs) d) (w : World) (hs : SiAt w p s) (hx : WiAt w A c xs) (hd : WoAt w q d) :
    Calls Tryz.prog 20 #[siV p s, .agg #[.slice A xs.length c], .agg (woA q d)] w fun e w' => e = .returned (.bool r) ∧ Below w.heap.size w w' := by
  unfold siV woA
  obtain ⟨W1, h1⟩ : ∃ W, W = w.alloc (.cells #[.slice p.a1 s.feeds.length p.c1, .slice p.a2 s.brks.length p.c2, .slice p.a3 s.loops.length p.c3, .slice p.a4 s.racks.length p.c4, .int .i64 s.sw, .slice p.a5 s.links.length p.c5, .slice p.a6 s.hosts.length p.c6] 29) := ⟨_, rfl⟩
  obtain ⟨W2, h2⟩ : ∃ W, W = W1.alloc (.cells #[.slice A xs.length c] 32) := ⟨_, rfl⟩
  obtain ⟨W, h3⟩ : ∃ W, W = W2.alloc (.cells (woA q d) 36) := ⟨_, rfl⟩
  obtain ⟨B0, X1, X2, X3⟩ := three_boxes h1 h2 h3
  have HB := Lib.hid B0
  have HS := Lib.hid (hs.on B0 (Nat.le_refl _))
  have HX := Lib.hid (hx.on B0 (Nat.le_refl _))
  have HD := Lib.hid (hd.on B0 (Nat.le_refl _))
  have HF := Lib.hid (fun (X : World) (hX : Below W.heap.size W X) => (⟨cell_of (box_on X1 hX (Nat.le_refl _)) rfl, cell_of (box_on X1 hX (Nat.le_refl _)) rfl, cell_of (box_on X1 hX (Nat.le_refl _)) rfl, cell_of (box_on X1 hX (Nat.le_refl _)) rfl, cell_of (box_on X1 hX (Nat.le_refl _)) rfl, cell_of (box_on X1 hX (Nat.le_refl _)) rfl, cell_of (box_on X1 hX (Nat.le_refl _)) rfl, cell_of (box_on X2 hX (Nat.le_refl _)) rfl, cell_of (box_on X3 hX (Nat.le_refl _)) rfl, cell_of (box_on X3 hX (Nat.le_refl _)) rfl⟩ : X.cell? ⟨w.heap.size, 0, none⟩ = some (.slice p.a1 s.feeds.length p.c1) ∧ X.cell? ⟨w.heap.size, 1, none⟩ = some (.slice p.a2 s.brks.length p.c2) ∧ X.cell? ⟨w.heap.size, 2, none⟩ = some (.slice p.a3 s.loops.length p.c3) ∧ X.cell? ⟨w.heap.size, 3, none⟩ = some (.slice p.a4 s.racks.length p.c4) ∧ X.cell? ⟨w.heap.size, 4, none⟩ = some (.int .i64 s.sw) ∧ X.cell? ⟨w.heap.size, 5, none⟩ = some (.slice p.a5 s.links.length p.c5) ∧ X.cell? ⟨w.heap.size, 6, none⟩ = some (.slice p.a6 s.hosts.length p.c6) ∧ X.cell? ⟨w.heap.size + 1, 0, none⟩ = some (.slice A xs.length c) ∧ X.cell? ⟨w.heap.size + 1 + 1, 0, none⟩ = some (.slice q.a1 d.hosts.length q.c1) ∧ X.cell? ⟨w.heap.size + 1 + 1, 1, none⟩ = some (.slice q.a2 d.reps.length q.c2)))
  have n1 := hd.hosts.1; have n2 := hd.hosts.2.1; have n3 := hd.reps.1; have n4 := hd.reps.2.1; have n5 := hs.hosts.1; have n6 := hs.hosts.2.1; have n7 := hx.row.1; have n8 := hx.row.2.1
  unfold maxLen at n2 n4 n6 n8
  have HR := Lib.hid hr
  have KW := Lib.hid (Below.refl W.heap.size W)
  have hle : w.heap.size ≤ W.heap.size := B0.size
  have HSL := Lib.hid (svs_len xs)
  clear B0 hr hs hx hd X1 X2 X3
  obtain ⟨f0, f1, f2, f3, f4, f5, f6, g0, g1, g2⟩ := HF.out W KW.out
  unfold woA at h3
  rw [h3, h2, h1] at f0 f1 f2 f3 f4 f5 f6 g0 g1 g2
  generalize hA : w.heap.size = B at *
  go_enter Tryz.func20, Tryz.ntmps20
  go_wp2_with (fail)
  rw [← h1, ← h2, ← h3] at f0 f1 f2 f3 f4 f5 f6 g0 g1 g2 ⊢
  clear h1 h2 h3
  obtain ⟨q0, h0⟩ : ∃ b, siteOk s = b := ⟨_, rfl⟩
  have Q0 := Lib.hid h0
  clear h0
  go_at_call 25
  refine (c_srValid p s q0 Q0.out W HS.out).mono ?_
  rintro e w1 ⟨rfl, b1⟩
  have K1 := Lib.hid b1
  clear b1
  clear f0 f1 f2 f3 f4 f5 f6 g0 g1 g2
  obtain ⟨f0, f1, f2, f3, f4, f5, f6, g0, g1, g2⟩ := HF.out w1 K1.out
  cases q0
  · obtain rfl : r = false := no_of HR.out (fun h => by have := h.1; rw [Q0.out] at this; cases this)
    go_wp2_with (fail)
    go_ret
    exact ⟨rfl, below_join HB.out K1.out hle⟩
  go_wp2_with (fail)
  obtain ⟨q1, h1⟩ : ∃ b : Bool, b = true ↔ WishOk (svs xs) := by
    by_cases h : WishOk (svs xs)
    · exact ⟨true, by simp [h]⟩
    · exact ⟨false, by simp [h]⟩
  have Q1 := Lib.hid h1
  clear h1
  go_at_call 37
  refine (c_wrValidWish A c xs q1 Q1.out w1 (HX.out.on K1.out (Nat.le_refl _))).mono ?_
  rintro e w2 ⟨rfl, b2⟩
  have K2 := Lib.hid (below_join K1.out b2 K1.out.size)
  clear b2
  clear f0 f1 f2 f3 f4 f5 f6 g0 g1 g2
  obtain ⟨f0, f1, f2, f3, f4, f5, f6, g0, g1, g2⟩ := HF.out w2 K2.out
  cases q1
  · obtain rfl : r = false := no_of HR.out (fun h => by have := Q1.out.2 h.2.1; cases this)
    go_wp2_with (fail)
    go_ret
    exact ⟨rfl, below_join HB.out K2.out hle⟩
  rcases h2 : ((d.hosts.length : Int) != (s.hosts.length : Int)) with _ | _
  rotate_left
  · have Q2 := Lib.hid h2
    obtain rfl : r = false := no_of HR.out (fun h => by have e := h.2.2.1; have := Q2.out; rw [e] at this; simp at this)
    go_wp2_with (fail)
    go_ret
    exact ⟨rfl, below_join HB.out K2.out hle⟩
  have Q2 := Lib.hid (show d.hosts.length = s.hosts.length by rw [bne_eq_false_iff_eq] at h2; omega)
  rcases h4 : decide ((24 : Int) < (d.reps.length : Int)) with _ | _
  rotate_left
  · have Q4 := Lib.hid h4
    obtain rfl : r = false := no_of HR.out (fun h => by have e := h.2.2.2.2.1; have := of_decide_eq_true Q4.out; omega)
    go_wp2_with (fail)
    go_ret
    exact ⟨rfl, below_join HB.out K2.out hle⟩
  have Q4 := Lib.hid (show d.reps.length ≤ 24 by have := of_decide_eq_false h4; omega)
  go_wp2_with (fail)
  clear h2 h4
  obtain ⟨q6, h6⟩ : ∃ b, ascB d.reps = b := ⟨_, rfl⟩
  have Q6 := Lib.hid h6
  clear h6
  go_at_call 38
  refine (c_Ascending q.a2 q.c2 d.reps q6 Q6.out w2 (HD.out.on K2.out (Nat.le_refl _)).reps).mono ?_
  rintro e w3 ⟨rfl, b3⟩
  have K3 := Lib.hid (below_join K2.out b3 K2.out.size)
  clear b3
  clear f0 f1 f2 f3 f4 f5 f6 g0 g1 g2
  obtain ⟨f0, f1, f2, f3, f4, f5, f6, g0, g1, g2⟩ := HF.out w3 K3.out
  cases q6
  · obtain rfl : r = false := no_of HR.out (fun h => by have e := h.2.2.2.2.2.2; rw [Q6.out] at e; cases e)
    go_wp2_with (fail)
    go_ret
    exact ⟨rfl, below_join HB.out K3.out hle⟩
  have HOW := Lib.hid (Q1.out.1 (by trivial))
  go_wp2_with (fail)
  clear f0 f1 f2 f3 f4 f5 f6 g0 g1 g2
  go_loopw [7] (fun i wr => ∃ k : Nat, k ≤ d.hosts.length ∧ i = .int .i64 (k : Int) ∧ Hid (∀ (j : Nat) x, j < k → d.hosts[j]? = some x → hstOk x = true) ∧ Hid (Below W.heap.size W wr)) (fun i _ => d.hosts.length - (intOf i).toNat)
  case atStart => exact ⟨0, Nat.zero_le _, rfl, Lib.hid (fun j x hj => absurd hj (by omega)), K3⟩
  case round =>
    obtain ⟨k, hk, rfl, hok, hK⟩ := hrel
    have hki : ((k : Nat) : Int).toNat = k := by omega
    obtain ⟨-, -, -, -, -, -, f6, g0, g1, g2⟩ := HF.out wr hK.out
    by_cases hlt : k < d.hosts.length
    · obtain ⟨⟨ph, fw⟩, hx⟩ : ∃ x, d.hosts[k]? = some x := ⟨_, List.getElem?_eq_getElem hlt⟩
      have HK := (HD.out.on hK.out (Nat.le_refl _)).hosts
      obtain ⟨b, o, ea, -, -⟩ := HK.at_ hx
      rw [ea] at HK g1
      obtain ⟨y0, y1⟩ := hst_at HK hx
      simp only at y0 y1
      have hkl : (k : Int) < (d.hosts.length : Int) := by omega
      have HXX := Lib.hid hx
      have HNO := Lib.hid (fun (hn : hstOk ⟨ph, fw⟩ = false) => (no_of HR.out (fun h => by have h1 := h.2.2.2.1 _ (List.mem_of_getElem? HXX.out); rw [hn] at h1; cases h1) : r = false))
      clear hx HK ea
      rcases c1 : decide ((4 : Int) < (ph : Int)) with _ | _
      rotate_left
      · obtain rfl : r = false := HNO.out (by unfold hstOk; rw [decide_eq_false (show ¬ ph ≤ 4 by have := of_decide_eq_true c1; omega)]; rfl)
        go_wp2_with (fail)
        go_ret
        exact ⟨rfl, below_join HB.out hK.out hle⟩
      rcases c2 : decide (fw < 0) with _ | _
      rotate_left
      · obtain rfl : r = false := HNO.out (by unfold hstOk inB; rw [decide_eq_false (show ¬ (0 ≤ fw) by have := of_decide_eq_true c2; omega)]; simp)
        go_wp2_with (fail)
        go_ret
        exact ⟨rfl, below_join HB.out hK.out hle⟩
      rcases c3 : decide ((1000000 : Int) < fw) with _ | _
      rotate_left
      · obtain rfl : r = false := HNO.out (by unfold hstOk inB; rw [decide_eq_false (show ¬ (fw ≤ 1000000) by have := of_decide_eq_true c3; omega)]; simp)
        go_wp2_with (fail)
        go_ret
        exact ⟨rfl, below_join HB.out hK.out hle⟩
      have HO := Lib.hid (show ∀ (j : Nat) x, j < k + 1 → d.hosts[j]? = some x → hstOk x = true from fun j z hj hz => by
        rcases Nat.lt_or_ge j k with h | h
        · exact hok.out j z h hz
        · obtain rfl : j = k := by omega
          rw [HXX.out] at hz
          injection hz with hz
          subst hz
          have e1 := of_decide_eq_false c1
          have e2 := of_decide_eq_false c2
          have e3 := of_decide_eq_false c3
          unfold hstOk
          rw [Bool.and_eq_true, inB_iff, decide_eq_true_eq]
          simp only
          omega)
      go_wp2_with (fail)
      go_roundw
      case rel => exact ⟨k + 1, by omega, by go_num, HO, hK⟩
      case measure => simp only [intOf]; omega
    · obtain rfl : k = d.hosts.length := by omega
      have HHO := Lib.hid (show ∀ h ∈ d.hosts, hstOk h = true from fun h hh => by
        obtain ⟨i, hi⟩ := List.getElem?_of_mem hh
        exact hok.out i h (List.getElem?_eq_some_iff.1 hi).1 hi)
      go_wp2_with (fail)
      clear f6 g0 g1 g2
      go_loopw [8] (fun i wr => ∃ k : Nat, k ≤ d.reps.length ∧ i = .int .i64 (k : Int) ∧ Hid (∀ (j : Nat) x, j < k → d.reps[j]? = some x → repOk xs.length s.hosts.length x = true) ∧ Hid (Below W.heap.size W wr)) (fun i _ => d.reps.length - (intOf i).toNat)
      case atStart => exact ⟨0, Nat.zero_le _, rfl, Lib.hid (fun j x hj => absurd hj (by omega)), hK⟩
      case round =>
        obtain ⟨k, hk, rfl, hok, hK⟩ := hrel
        have hki : ((k : Nat) : Int).toNat = k := by omega
        obtain ⟨-, -, -, -, -, -, f6, g0, g1, g2⟩ := HF.out wr hK.out
        by_cases hlt : k < d.reps.length
        · obtain ⟨⟨sv, ho⟩, hx⟩ : ∃ x, d.reps[k]? = some x := ⟨_, List.getElem?_eq_getElem hlt⟩
          have HK := (HD.out.on hK.out (Nat.le_refl _)).reps
          obtain ⟨b, o, ea, -, -⟩ := HK.at_ hx
          rw [ea] at HK g2
          obtain ⟨y0, y1⟩ := rep_at HK hx
          simp only at y0 y1
          have hkl : (k : Int) < (d.reps.length : Int) := by omega
          have HXX := Lib.hid hx
          have HNO := Lib.hid (fun (hn : ¬ repOk xs.length s.hosts.length ⟨sv, ho⟩ = true) => (no_of HR.out (fun h => by have h1 := h.2.2.2.2.2.1 _ (List.mem_of_getElem? HXX.out); rw [HSL.out] at h1; exact hn h1) : r = false))
          obtain ⟨V, hV⟩ : ∃ V, V = wr.alloc (.cells #[.int .i64 sv, .int .i64 ho] 85) := ⟨_, rfl⟩
          have bV : Below wr.heap.size wr V := by subst hV; exact (Below.refl _ _).alloc (Nat.le_refl _) _
          have HKV := Lib.hid (below_join hK.out bV hK.out.size)
          have q0 : V.cell? ⟨wr.heap.size, 0, none⟩ = some (.int .i64 sv) := by subst hV; exact cell_of (box_new _ _ _) rfl
          have q1 : V.cell? ⟨wr.heap.size, 1, none⟩ = some (.int .i64 ho) := by subst hV; exact cell_of (box_new _ _ _) rfl
          obtain ⟨-, -, -, -, -, -, u6, v0, -, -⟩ := HF.out V HKV.out
          rw [hV] at q0 q1 u6 v0
          clear hx HK ea bV
          rcases c1 : decide (sv < 0) with _ | _
          rotate_left
          · obtain rfl : r = false := HNO.out (fun h => by unfold repOk at h; rw [Bool.and_eq_true, ixB_iff, ixB_iff] at h; have := of_decide_eq_true c1; simp only at h; omega)
            go_wp2_with (fail)
            rw [← hV]
            go_ret
            exact ⟨rfl, below_join HB.out HKV.out hle⟩
          rcases c2 : decide ((xs.length : Int) ≤ sv) with _ | _
          rotate_left
          · obtain rfl : r = false := HNO.out (fun h => by unfold repOk at h; rw [Bool.and_eq_true, ixB_iff, ixB_iff] at h; have := of_decide_eq_true c2; simp only at h; omega)
            go_wp2_with (fail)
            rw [← hV]
            go_ret
            exact ⟨rfl, below_join HB.out HKV.out hle⟩
          rcases c3 : decide (ho < 0) with _ | _
          rotate_left
          · obtain rfl : r = false := HNO.out (fun h => by unfold repOk at h; rw [Bool.and_eq_true, ixB_iff, ixB_iff] at h; have := of_decide_eq_true c3; simp only at h; omega)
            go_wp2_with (fail)
            rw [← hV]
            go_ret
            exact ⟨rfl, below_join HB.out HKV.out hle⟩
          rcases c4 : decide ((s.hosts.length : Int) ≤ ho) with _ | _
          rotate_left
          · obtain rfl : r = false := HNO.out (fun h => by unfold repOk at h; rw [Bool.and_eq_true, ixB_iff, ixB_iff] at h; have := of_decide_eq_true c4; simp only at h; omega)
            go_wp2_with (fail)
            rw [← hV]
            go_ret
            exact ⟨rfl, below_join HB.out HKV.out hle⟩
          have HO := Lib.hid (show ∀ (j : Nat) x, j < k + 1 → d.reps[j]? = some x → repOk xs.length s.hosts.length x = true from fun j z hj hz => by
            rcases Nat.lt_or_ge j k with h | h
            · exact hok.out j z h hz
            · obtain rfl : j = k := by omega
              rw [HXX.out] at hz
              injection hz with hz
              subst hz
              have e1 := of_decide_eq_false c1
              have e2 := of_decide_eq_false c2
              have e3 := of_decide_eq_false c3
              have e4 := of_decide_eq_false c4
              unfold repOk
              rw [Bool.and_eq_true, ixB_iff, ixB_iff]
              simp only
              omega)
          go_wp2_with (fail)
          rw [← hV]
          clear hV
          go_roundw
          case rel => exact ⟨k + 1, by omega, by go_num, HO, HKV⟩
          case measure => simp only [intOf]; omega
        · obtain rfl : k = d.reps.length := by omega
          obtain rfl : true = r := by
            refine (HR.out.2 ⟨Q0.out, HOW.out, Q2.out, HHO.out, Q4.out, fun x hx => ?_, Q6.out⟩).symm
            obtain ⟨i, hi⟩ := List.getElem?_of_mem hx
            rw [HSL.out]
            exact hok.out i x (List.getElem?_eq_some_iff.1 hi).1 hi
          go_wp2_with (fail)
          go_ret
          exact ⟨rfl, below_join HB.out hK.out hle⟩
end Go.Proofs.YtpokpgnclohiiaaGreat

namespace Go.Proofs.YtpokpgnclohiiaaGreat
set_option linter.unusedVariables false
set_option linter.unusedSimpArgs false

theorem sumN_le {f g : Nat → Int} : ∀ {n : Nat}, (∀ i, i < n → f i ≤ g i) → sumN f n ≤ sumN g n := by
  intro n
  induction n with
  | zero => intro _; exact Int.le_refl _
  | succ n ih =>
    intro h
    have h1 := ih fun i hi => h i (by omega)
    have h2 := h n (by omega)
    rw [sumN, sumN]; omega
theorem sumN_mul (c : Int) (f : Nat → Int) (n : Nat) : sumN (fun i => c * f i) n = c * sumN f n := by
  induction n with
  | zero => simp [sumN]
  | succ n ih => rw [sumN, sumN, ih, Int.mul_add]
theorem sumN_at {f : Nat → Int} {a n : Nat} (ha : a < n) (hf : ∀ i, i < n → i ≠ a → f i = 0) : sumN f n = f a := by
  have h1 : sumN f n = sumN (fun i => if a = i then f a else 0) n := sumN_ext fun i hi => by
    by_cases e : a = i
    · subst e; rw [if_pos rfl]
    · rw [if_neg e]; exact hf i hi (fun h => e h.symm)
  rw [h1, sumN_one, if_pos ha]
/-- The watts of a host. -/
def hsAt (s : SiteD) (h : Nat) : Hs := (s.hosts[h]?).getD ⟨0, 0, 0, 0⟩
def phAt (d : WorldD) (h : Nat) : Nat := ((d.hosts[h]?).map (·.phase)).getD 0
def watN (s : SiteD) (ss : List Svc) (d : WorldD) (h : Nat) : Int := if phAt d h = 4 then 0 else (hsAt s h).idle + (hsAt s h).per * usedD ss d.reps (h : Int)
/-- The sum over the hosts that belong to it. -/
def loadN (s : SiteD) (ss : List Svc) (d : WorldD) (b : Nat → Bool) : Int := sumN (fun h => if b h = true then watN s ss d h else 0) s.hosts.length
def isHost (k : Int) (h : Nat) : Bool := (h : Int) == k
theorem hsAt_eq {s : SiteD} {h : Nat} {x : Hs} (hx : s.hosts[h]? = some x) : hsAt s h = x := by unfold hsAt; rw [hx]; rfl
theorem phAt_eq {d : WorldD} {h : Nat} {x : Hst} (hx : d.hosts[h]? = some x) : phAt d h = x.phase := by unfold phAt; rw [hx]; rfl
section
variable {s : SiteD} {ss : List Svc} {d : WorldD}
theorem host_ok (ok : WorldOk s ss d) {h : Nat} (hh : h < s.hosts.length) : ∃ x y, s.hosts[h]? = some x ∧ d.hosts[h]? = some y ∧ (0 ≤ x.rack ∧ x.rack < s.racks.length) ∧ (0 ≤ x.idle ∧ x.idle ≤ 10000) ∧ (0 ≤ x.per ∧ x.per ≤ 1000) := by
  have h1 := siteOk_iff.1 ok.1
  have hl := ok.2.2.1
  have hm := h1.hosts _ (List.getElem_mem hh)
  exact ⟨_, _, List.getElem?_eq_getElem hh, List.getElem?_eq_getElem (by omega), hm.1, hm.2.2.1, hm.2.2.2⟩
theorem used_bd (ok : WorldOk s ss d) (h : Int) : 0 ≤ usedD ss d.reps h ∧ usedD ss d.reps h ≤ 24000 := (sums_ok ok).2.2.1 h
theorem used_sum (ok : WorldOk s ss d) : sumN (fun i => usedD ss d.reps i) s.hosts.length ≤ 24000 := by
  obtain ⟨h1, h2, -, h4⟩ := sums_ok ok
  rw [← h2]
  have h5 : sumN (fun i => (((whereD d.reps i).length : Nat) : Int) * coresAt ss i) ss.length ≤ sumN (fun i => 1000 * (((whereD d.reps i).length : Nat) : Int)) ss.length := sumN_le fun i hi => by
    have := h4 i hi
    rw [Int.mul_comm 1000]
    exact Int.mul_le_mul_of_nonneg_left this.2 (by omega)
  rw [sumN_mul, h1] at h5
  have := ok.2.2.2.2.1
  omega
/-- How great the watts of a host can be. -/
def capN (ss : List Svc) (d : WorldD) (h : Nat) : Int := 10000 + 1000 * usedD ss d.reps (h : Int)
theorem wat_bd (ok : WorldOk s ss d) {h : Nat} (hh : h < s.hosts.length) : 0 ≤ watN s ss d h ∧ watN s ss d h ≤ capN ss d h ∧ watN s ss d h ≤ 24010000 := by
  obtain ⟨x, y, hx, hy, -, h2, h3⟩ := host_ok ok hh
  have hu := used_bd ok (h : Int)
  unfold watN capN
  rw [hsAt_eq hx]
  have p1 : 0 ≤ x.per * usedD ss d.reps (h : Int) := Int.mul_nonneg h3.1 hu.1
  have p2 : x.per * usedD ss d.reps (h : Int) ≤ 1000 * usedD ss d.reps (h : Int) := Int.mul_le_mul_of_nonneg_right h3.2 hu.1
  split <;> omega
theorem cap_sum (ok : WorldOk s ss d) : sumN (capN ss d) s.hosts.length ≤ 24160000 := by
  have h0 : sumN (capN ss d) s.hosts.length = sumN (fun _ => 10000) s.hosts.length + 1000 * sumN (fun h => usedD ss d.reps (h : Int)) s.hosts.length := by
    rw [← sumN_mul, ← sumN_add]; rfl
  have h1 := used_sum ok
  have h2 := (siteOk_iff.1 ok.1).nhosts
  have h3 := sumN_bound (f := fun _ => 10000) (m := 10000) (n := s.hosts.length) (fun _ _ => ⟨by omega, by omega⟩)
  omega
/-- A load is at least 0 and less than the greatest capacity of an arc. -/
theorem load_bd (ok : WorldOk s ss d) (b : Nat → Bool) : 0 ≤ loadN s ss d b ∧ loadN s ss d b ≤ 24160000 := by
  unfold loadN
  have h1 := sumN_bound (f := fun h => if b h = true then watN s ss d h else 0) (m := 24010000) (n := s.hosts.length) (fun i hi => by have := wat_bd ok hi; split <;> omega)
  have h2 := sumN_le (f := fun h => if b h = true then watN s ss d h else 0) (g := capN ss d) (n := s.hosts.length) (fun i hi => by have := wat_bd ok hi; have := used_bd ok (i : Int); unfold capN at *; split <;> omega)
  have h3 := cap_sum ok
  exact ⟨h1.1, by omega⟩
/-- The sums so far. -/
theorem part_bd (ok : WorldOk s ss d) (b : Nat → Bool) {k : Nat} (hk : k ≤ s.hosts.length) : 0 ≤ sumN (fun h => if b h = true then watN s ss d h else 0) k ∧ sumN (fun h => if b h = true then watN s ss d h else 0) k ≤ 400000000 := by
  have h1 := sumN_bound (f := fun h => if b h = true then watN s ss d h else 0) (m := 24010000) (n := k) (fun i hi => by have := wat_bd ok (h := i) (by omega); split <;> omega)
  have h2 := (siteOk_iff.1 ok.1).nhosts
  exact ⟨h1.1, by omega⟩
theorem load_host (k : Int) : loadN s ss d (isHost k) = if 0 ≤ k ∧ k < s.hosts.length then watN s ss d k.toNat else 0 := by
  unfold loadN
  split
  · rename_i h
    rw [sumN_at (a := k.toNat) (by omega) (fun i hi hne => by rw [if_neg]; unfold isHost; simp; omega), if_pos]
    unfold isHost; simp; omega
  · rename_i h
    rw [sumN_ext (g := fun _ => 0) (fun i hi => by rw [if_neg]; unfold isHost; simp; omega), sumN_zero]
theorem rack_in (ok : WorldOk s ss d) {h : Nat} (hh : h < s.hosts.length) : 0 ≤ rackAt s h ∧ rackAt s h < s.racks.length := by
  obtain ⟨x, y, hx, -, h1, -⟩ := host_ok ok hh
  unfold rackAt; rw [hx]; exact h1
theorem rk_in (ok : WorldOk s ss d) {h : Nat} (hh : h < s.hosts.length) : s.racks[(rackAt s h).toNat]? = some (rkAt s h) := by
  have := rack_in ok hh
  unfold rkAt
  rw [List.getElem?_eq_getElem (show (rackAt s h).toNat < s.racks.length by omega)]; rfl
end
end Go.Proofs.YtpokpgnclohiiaaGreat

namespace Go.Proofs.YtpokpgnclohiiaaGreat
open Go.RowKit
set_option maxRecDepth 100000
set_option linter.unusedVariables false
set_option linter.unusedSimpArgs false

structure Sn where
  p : SP
  s : SiteD
  A : Option Addr
  c : Nat
  xs : List (Svc × SvA)
  q : WP
  d : WorldD
def Sn.ss (z : Sn) : List Svc := svs z.xs
structure SnAt (w : World) (z : Sn) : Prop where
  si : SiAt w z.p z.s
  wi : WiAt w z.A z.c z.xs
  wo : WoAt w z.q z.d
theorem SnAt.on {w w' : World} {z : Sn} {B : Nat} (h : SnAt w z) (hb : Below B w w') (hB : w.heap.size ≤ B) : SnAt w' z := ⟨h.si.on hb hB, h.wi.on hb hB, h.wo.on hb hB⟩
theorem SnAt.drew {w : World} {z : Sn} (h : SnAt w z) : SnAt w.drew z := h.on (Below.refl _ _).drew (Nat.le_refl _)
def Sn.Ok (z : Sn) : Prop := WorldOk z.s z.ss z.d
theorem SnAt.bounds {w : World} {z : Sn} (h : SnAt w z) : z.s.hosts.length ≤ 9223372036854775807 ∧ z.s.racks.length ≤ 9223372036854775807 ∧ z.s.brks.length ≤ 9223372036854775807 ∧ z.s.feeds.length ≤ 9223372036854775807 ∧ z.d.hosts.length ≤ 9223372036854775807 ∧ z.d.reps.length ≤ 9223372036854775807 ∧ z.xs.length ≤ 9223372036854775807 ∧ z.s.loops.length ≤ 9223372036854775807 := by
  have a1 := h.si.hosts.1; have b1 := h.si.hosts.2.1; have a2 := h.si.racks.1; have b2 := h.si.racks.2.1; have a3 := h.si.brks.1; have b3 := h.si.brks.2.1; have a4 := h.si.feeds.1; have b4 := h.si.feeds.2.1
  have a5 := h.wo.hosts.1; have b5 := h.wo.hosts.2.1; have a6 := h.wo.reps.1; have b6 := h.wo.reps.2.1; have a7 := h.wi.row.1; have b7 := h.wi.row.2.1; have a8 := h.si.loops.1; have b8 := h.si.loops.2.1
  unfold maxLen at *
  omega
def Bx (w : World) (b : Nat) (cs : Array Value) (T : TypeId) : Prop := w.heap[b]? = some (.cells cs T (0, 0))
theorem Bx.on {w w' : World} {b : Nat} {cs : Array Value} {T : TypeId} {B : Nat} (h : Bx w b cs T) (hb : Below B w w') (hB : w.heap.size ≤ B) : Bx w' b cs T := box_on h hb hB
theorem bx_new (w : World) (cs : Array Value) (T : TypeId) : Bx (w.alloc (.cells cs T)) w.heap.size cs T := box_new _ _ _
/-- The boxes of a scene's parameters. -/
structure SnBx (X : World) (b : Nat) (z : Sn) : Prop where
  b1 : X.heap[b]? = some (.cells #[.slice z.p.a1 z.s.feeds.length z.p.c1, .slice z.p.a2 z.s.brks.length z.p.c2, .slice z.p.a3 z.s.loops.length z.p.c3, .slice z.p.a4 z.s.racks.length z.p.c4, .int .i64 z.s.sw, .slice z.p.a5 z.s.links.length z.p.c5, .slice z.p.a6 z.s.hosts.length z.p.c6] 29 (0, 0))
  b2 : X.heap[b + 1]? = some (.cells #[.slice z.A z.xs.length z.c] 32 (0, 0))
  b3 : X.heap[b + 1 + 1]? = some (.cells #[.slice z.q.a1 z.d.hosts.length z.q.c1, .slice z.q.a2 z.d.reps.length z.q.c2] 36 (0, 0))
section
variable {w w' X : World} {z : Sn} {b B : Nat}
theorem SnBx.on (h : SnBx w b z) (hb : Below B w w') (hB : w.heap.size ≤ B) : SnBx w' b z := ⟨box_on h.b1 hb hB, box_on h.b2 hb hB, box_on h.b3 hb hB⟩
theorem SnBx.alloc (h : SnBx w b z) (o : Obj) : SnBx (w.alloc o) b z := ⟨old_heap _ h.b1, old_heap _ h.b2, old_heap _ h.b3⟩
theorem SnBx.cells (h : SnBx X b z) : X.cell? ⟨b, 0, none⟩ = some (.slice z.p.a1 z.s.feeds.length z.p.c1) ∧ X.cell? ⟨b, 1, none⟩ = some (.slice z.p.a2 z.s.brks.length z.p.c2) ∧ X.cell? ⟨b, 2, none⟩ = some (.slice z.p.a3 z.s.loops.length z.p.c3) ∧ X.cell? ⟨b, 3, none⟩ = some (.slice z.p.a4 z.s.racks.length z.p.c4) ∧ X.cell? ⟨b, 4, none⟩ = some (.int .i64 z.s.sw) ∧ X.cell? ⟨b, 5, none⟩ = some (.slice z.p.a5 z.s.links.length z.p.c5) ∧ X.cell? ⟨b, 6, none⟩ = some (.slice z.p.a6 z.s.hosts.length z.p.c6) ∧ X.cell? ⟨b + 1, 0, none⟩ = some (.slice z.A z.xs.length z.c) ∧ X.cell? ⟨b + 1 + 1, 0, none⟩ = some (.slice z.q.a1 z.d.hosts.length z.q.c1) ∧ X.cell? ⟨b + 1 + 1, 1, none⟩ = some (.slice z.q.a2 z.d.reps.length z.q.c2) :=
  ⟨cell_of h.b1 rfl, cell_of h.b1 rfl, cell_of h.b1 rfl, cell_of h.b1 rfl, cell_of h.b1 rfl, cell_of h.b1 rfl, cell_of h.b1 rfl, cell_of h.b2 rfl, cell_of h.b3 rfl, cell_of h.b3 rfl⟩
end
section
variable {w W1 W2 W : World} {z : Sn}
theorem sn_boxes (h1 : W1 = w.alloc (.cells #[.slice z.p.a1 z.s.feeds.length z.p.c1, .slice z.p.a2 z.s.brks.length z.p.c2, .slice z.p.a3 z.s.loops.length z.p.c3, .slice z.p.a4 z.s.racks.length z.p.c4, .int .i64 z.s.sw, .slice z.p.a5 z.s.links.length z.p.c5, .slice z.p.a6 z.s.hosts.length z.p.c6] 29))
    (h2 : W2 = W1.alloc (.cells #[.slice z.A z.xs.length z.c] 32)) (h3 : W = W2.alloc (.cells #[.slice z.q.a1 z.d.hosts.length z.q.c1, .slice z.q.a2 z.d.reps.length z.q.c2] 36)) : Below w.heap.size w W ∧ SnBx W w.heap.size z := by
  obtain ⟨B0, b1, b2, b3⟩ := three_boxes h1 h2 h3
  exact ⟨B0, b1, b2, b3⟩
theorem sn_size {c1 c2 c3 : Array Value} {T1 T2 T3 : TypeId} (h1 : W1 = w.alloc (.cells c1 T1)) (h2 : W2 = W1.alloc (.cells c2 T2)) (h3 : W = W2.alloc (.cells c3 T3)) : W.heap.size = w.heap.size + 1 + 1 + 1 := by
  rw [h3, World.size_alloc, h2, World.size_alloc, h1, World.size_alloc]
end
theorem bool_of (P : Prop) : ∃ b : Bool, b = true ↔ P := by
  by_cases h : P
  · exact ⟨true, by simp [h]⟩
  · exact ⟨false, by simp [h]⟩
section
variable (z : Sn) (r : Bool) (hr : r = true ↔ z.Ok) (w : World) (h : SnAt w z)
include hr h
theorem c_vTo : Calls Tryz.prog 52 #[.agg #[.slice z.p.a1 z.s.feeds.length z.p.c1, .slice z.p.a2 z.s.brks.length z.p.c2, .slice z.p.a3 z.s.loops.length z.p.c3, .slice z.p.a4 z.s.racks.length z.p.c4, .int .i64 z.s.sw, .slice z.p.a5 z.s.links.length z.p.c5, .slice z.p.a6 z.s.hosts.length z.p.c6], .agg #[.slice z.A z.xs.length z.c], .agg #[.slice z.q.a1 z.d.hosts.length z.q.c1, .slice z.q.a2 z.d.reps.length z.q.c2]] w fun e w' => e = .returned (.bool r) ∧ Below w.heap.size w w' := c_woValid z.p z.s z.A z.c z.xs z.q z.d r hr w h.si h.wi h.wo
theorem c_wvTo : Calls Tryz.prog 20 #[.agg #[.slice z.p.a1 z.s.feeds.length z.p.c1, .slice z.p.a2 z.s.brks.length z.p.c2, .slice z.p.a3 z.s.loops.length z.p.c3, .slice z.p.a4 z.s.racks.length z.p.c4, .int .i64 z.s.sw, .slice z.p.a5 z.s.links.length z.p.c5, .slice z.p.a6 z.s.hosts.length z.p.c6], .agg #[.slice z.A z.xs.length z.c], .agg #[.slice z.q.a1 z.d.hosts.length z.q.c1, .slice z.q.a2 z.d.reps.length z.q.c2]] w fun e w' => e = .returned (.bool r) ∧ Below w.heap.size w w' := c_wrValid z.p z.s z.A z.c z.xs z.q z.d r hr w h.si h.wi h.wo
end
theorem c_usedTo (z : Sn) (host u : Int) (hu : usedD z.ss z.d.reps host = u) (w : World) (h : SnAt w z) :
    Calls Tryz.prog 62 #[.agg #[.slice z.A z.xs.length z.c], .agg #[.slice z.q.a1 z.d.hosts.length z.q.c1, .slice z.q.a2 z.d.reps.length z.q.c2], .int .i64 host] w fun e w' => e = .returned (.int .i64 u) ∧ Below w.heap.size w w' := by subst hu; exact c_woUsed z.A z.c z.xs z.q z.d host w h.wi h.wo
theorem c_wrUsedTo (z : Sn) (host u : Int) (hu : usedD z.ss z.d.reps host = u) (w : World) (h : SnAt w z) :
    Calls Tryz.prog 46 #[.agg #[.slice z.A z.xs.length z.c], .agg #[.slice z.q.a1 z.d.hosts.length z.q.c1, .slice z.q.a2 z.d.reps.length z.q.c2], .int .i64 host] w fun e w' => e = .returned (.int .i64 u) ∧ Below w.heap.size w w' := by subst hu; exact c_wrUsed z.A z.c z.xs z.q z.d host w h.wi h.wo
end Go.Proofs.YtpokpgnclohiiaaGreat

namespace Go.Proofs.YtpokpgnclohiiaaGreat
open Go.RowKit
set_option maxRecDepth 100000
set_option linter.unusedVariables false
set_option linter.unusedSimpArgs false

theorem hs_at {z : Sn} {w : World} (h : SnAt w z) {i : Nat} {x : Hs} (hx : z.s.hosts[i]? = some x) : ∃ b o, z.p.a6 = some ⟨b, o, none⟩ ∧ b < w.heap.size ∧ w.cell? ⟨b, o + i * 4, none⟩ = some (.int .i64 x.rack) ∧ w.cell? ⟨b, o + i * 4 + 1, none⟩ = some (.int .i64 x.cores) ∧ w.cell? ⟨b, o + i * 4 + 2, none⟩ = some (.int .i64 x.idle) ∧ w.cell? ⟨b, o + i * 4 + 3, none⟩ = some (.int .i64 x.per) := by
  obtain ⟨b, o, e, hb, hc⟩ := h.si.hosts.at_ hx
  exact ⟨b, o, e, hb, by simpa [hsF] using hc 0 (by omega), hc 1 (by omega), hc 2 (by omega), hc 3 (by omega)⟩
theorem ho_at {z : Sn} {w : World} (h : SnAt w z) {i : Nat} {x : Hst} (hx : z.d.hosts[i]? = some x) : ∃ b o, z.q.a1 = some ⟨b, o, none⟩ ∧ b < w.heap.size ∧ w.cell? ⟨b, o + i * 2, none⟩ = some (.int .u8 (x.phase : Int)) := by
  obtain ⟨b, o, e, hb, hc⟩ := h.wo.hosts.at_ hx
  exact ⟨b, o, e, hb, by simpa [hstV] using hc 0 (by omega)⟩
set_option maxHeartbeats 4000000 in
theorem c_isHost (g : Nat) (k : Int) (i : Nat) (w : World) (hg : w.cell? ⟨g, 0, none⟩ = some (.int .i64 k)) (r : Bool) (hr : isHost k i = r) :
    Calls Tryz.prog 44 #[.int .i64 (i : Int), .pointer (some ⟨g, 0, none⟩)] w fun e w' => e = .returned (.bool r) ∧ Below w.heap.size w w' := by
  unfold isHost at hr
  go_enter Tryz.func44, Tryz.ntmps44
  go_wp2_with (fail)
  go_ret
  exact ⟨rfl, Below.refl _ _⟩
end Go.Proofs.YtpokpgnclohiiaaGreat

namespace Go.Proofs.YtpokpgnclohiiaaGreat
open Go.RowKit
set_option maxRecDepth 100000
set_option linter.unusedVariables false
set_option linter.unusedSimpArgs false

/-- A load: 0 if the world is not valid. -/
def pwV (z : Sn) (r : Bool) (b : Nat → Bool) : Int := if r = true then loadN z.s z.ss z.d b else 0
/-- The sum so far. -/
def soFar (z : Sn) (b : Nat → Bool) (k : Nat) : Int := sumN (fun h => if b h = true then watN z.s z.ss z.d h else 0) k
theorem soFar_bd {z : Sn} (ok : z.Ok) (b : Nat → Bool) {k : Nat} (hk : k ≤ z.s.hosts.length) : 0 ≤ soFar z b k ∧ soFar z b k ≤ 400000000 := part_bd ok b hk
theorem soFar_no {z : Sn} {b : Nat → Bool} {k : Nat} (h : b k = false) : soFar z b (k + 1) = soFar z b k := by
  unfold soFar; rw [sumN, h]; simp
theorem soFar_off {z : Sn} {b : Nat → Bool} {k : Nat} {y : Hst} (hy : z.d.hosts[k]? = some y) (h : y.phase = 4) : soFar z b (k + 1) = soFar z b k := by
  unfold soFar; rw [sumN]
  have : watN z.s z.ss z.d k = 0 := by unfold watN; rw [phAt_eq hy, if_pos h]
  rw [this]; simp
theorem soFar_yes {z : Sn} {b : Nat → Bool} {k : Nat} {x : Hs} {y : Hst} (hx : z.s.hosts[k]? = some x) (hy : z.d.hosts[k]? = some y) (h : b k = true) (h4 : y.phase ≠ 4) : soFar z b (k + 1) = soFar z b k + (x.idle + x.per * usedD z.ss z.d.reps (k : Int)) := by
  unfold soFar; rw [sumN, if_pos h]
  congr 1
  unfold watN; rw [phAt_eq hy, if_neg h4, hsAt_eq hx]
set_option maxHeartbeats 16000000 in
theorem c_loadHost (z : Sn) (r0 : Bool) (hr0 : r0 = true ↔ z.Ok) (g : Nat) (k : Int) (w : World) (hz : SnAt w z) (hg : w.cell? ⟨g, 0, none⟩ = some (.int .i64 k)) (hgb : g < w.heap.size) (v : Int) (hv : pwV z r0 (isHost k) = v) :
    Calls Tryz.prog 43 #[.agg #[.slice z.p.a1 z.s.feeds.length z.p.c1, .slice z.p.a2 z.s.brks.length z.p.c2, .slice z.p.a3 z.s.loops.length z.p.c3, .slice z.p.a4 z.s.racks.length z.p.c4, .int .i64 z.s.sw, .slice z.p.a5 z.s.links.length z.p.c5, .slice z.p.a6 z.s.hosts.length z.p.c6], .agg #[.slice z.A z.xs.length z.c], .agg #[.slice z.q.a1 z.d.hosts.length z.q.c1, .slice z.q.a2 z.d.reps.length z.q.c2], .func (.func 44) #[] #[.pointer (some ⟨g, 0, none⟩)]] w fun e w' => e = .returned (.int .i64 v) ∧ Below w.heap.size w w' := by
  have HCL := Lib.hid (fun (X : World) (hX : Below w.heap.size w X) (ok : z.Ok) (i : Nat) (hi : i < z.s.hosts.length) (r : Bool) (hr : (isHost k) i = r) => (c_isHost g k i X ((hX.cell (p := ⟨g, 0, none⟩) hgb).trans hg) r hr : Calls Tryz.prog 44 #[.int .i64 (i : Int), .pointer (some ⟨g, 0, none⟩)] X fun e w' => e = .returned (.bool r) ∧ Below X.heap.size X w'))
  have HV := Lib.hid hv
  have HR0 := Lib.hid hr0
  obtain ⟨pd, hpd⟩ : ∃ f, f = isHost k := ⟨_, rfl⟩
  rw [← hpd] at HCL HV
  clear hr0 hv hg hgb hpd
  obtain ⟨W1, h1⟩ : ∃ W, W = w.alloc (.cells #[.slice z.p.a1 z.s.feeds.length z.p.c1, .slice z.p.a2 z.s.brks.length z.p.c2, .slice z.p.a3 z.s.loops.length z.p.c3, .slice z.p.a4 z.s.racks.length z.p.c4, .int .i64 z.s.sw, .slice z.p.a5 z.s.links.length z.p.c5, .slice z.p.a6 z.s.hosts.length z.p.c6] 29) := ⟨_, rfl⟩
  obtain ⟨W2, h2⟩ : ∃ W, W = W1.alloc (.cells #[.slice z.A z.xs.length z.c] 32) := ⟨_, rfl⟩
  obtain ⟨W, h3⟩ : ∃ W, W = W2.alloc (.cells #[.slice z.q.a1 z.d.hosts.length z.q.c1, .slice z.q.a2 z.d.reps.length z.q.c2] 36) := ⟨_, rfl⟩
  obtain ⟨B0, X1⟩ := sn_boxes h1 h2 h3
  have z3 : W.heap.size = w.heap.size + 1 + 1 + 1 := sn_size h1 h2 h3
  have HB := Lib.hid B0
  have Z0 := hz.on B0 (Nat.le_refl _)
  have HZ := Lib.hid (fun (X : World) (hX : Below W.heap.size W X) => Z0.on hX (Nat.le_refl _))
  have HF := Lib.hid (fun (X : World) (hX : Below W.heap.size W X) => ((X1.on hX (Nat.le_refl _)).cells : X.cell? ⟨w.heap.size, 0, none⟩ = some (.slice z.p.a1 z.s.feeds.length z.p.c1) ∧ X.cell? ⟨w.heap.size, 1, none⟩ = some (.slice z.p.a2 z.s.brks.length z.p.c2) ∧ X.cell? ⟨w.heap.size, 2, none⟩ = some (.slice z.p.a3 z.s.loops.length z.p.c3) ∧ X.cell? ⟨w.heap.size, 3, none⟩ = some (.slice z.p.a4 z.s.racks.length z.p.c4) ∧ X.cell? ⟨w.heap.size, 4, none⟩ = some (.int .i64 z.s.sw) ∧ X.cell? ⟨w.heap.size, 5, none⟩ = some (.slice z.p.a5 z.s.links.length z.p.c5) ∧ X.cell? ⟨w.heap.size, 6, none⟩ = some (.slice z.p.a6 z.s.hosts.length z.p.c6) ∧ X.cell? ⟨w.heap.size + 1, 0, none⟩ = some (.slice z.A z.xs.length z.c) ∧ X.cell? ⟨w.heap.size + 1 + 1, 0, none⟩ = some (.slice z.q.a1 z.d.hosts.length z.q.c1) ∧ X.cell? ⟨w.heap.size + 1 + 1, 1, none⟩ = some (.slice z.q.a2 z.d.reps.length z.q.c2)))
  have HX := Lib.hid (fun (X : World) (hX : Below W.heap.size W X) => X1.on hX (Nat.le_refl _))
  have HKW := Lib.hid (Below.refl W.heap.size W)
  have hle := HB.out.size
  obtain ⟨n1, n2, n3, n4, n5, n6, n7, n8⟩ := hz.bounds
  have HVV := Lib.hid (fun (X : World) (hX : SnAt X z) => c_vTo z r0 HR0.out X hX)
  clear hz B0 X1 z3 Z0
  generalize hA6 : z.p.a6 = A6 at *
  have HA6 := Lib.hid hA6
  clear hA6
  obtain ⟨f0, f1, f2, f3, f4, f5, f6, g0, g1, g2⟩ := HF.out W HKW.out
  rw [h3, h2, h1] at f0 f1 f2 f3 f4 f5 f6 g0 g1 g2
  generalize hBB : w.heap.size = B at *
  go_enter Tryz.func43, Tryz.ntmps43
  go_wp2_with (fail)
  rw [← h1, ← h2, ← h3]
  clear h1 h2 h3 f0 f1 f2 f3 f4 f5 f6 g0 g1 g2
  go_at_call 52
  refine (HVV.out W (HZ.out W HKW.out)).mono ?_
  rintro e v1 ⟨rfl, bb⟩
  have HKv1 := Lib.hid (below_join HKW.out bb HKW.out.size)
  clear bb
  cases r0
  · have HVE := Lib.hid (show (0 : Int) = v from HV.out)
    go_wp2_with (fail)
    go_ret
    exact ⟨(show Ending.returned (.int .i64 0) = .returned (.int .i64 v) by rw [HVE.out]), below_join HB.out HKv1.out hle⟩
  have ok := HR0.out.1 rfl
  have HOK := Lib.hid ok
  have HVE := Lib.hid (show soFar z pd z.s.hosts.length = v from HV.out)
  have HDL := Lib.hid (show z.d.hosts.length = z.s.hosts.length from ok.2.2.1)
  have hd16 := (siteOk_iff.1 ok.1).nhosts.2
  clear ok
  obtain ⟨f0, f1, f2, f3, f4, f5, f6, g0, g1, g2⟩ := HF.out v1 HKv1.out
  go_wp2_with (fail)
  clear f0 f1 f2 f3 f4 f5 f6 g0 g1 g2
  go_loopw [9, 20] (fun sm i wr => ∃ k : Nat, k ≤ z.s.hosts.length ∧ sm = .int .i64 (soFar z pd k) ∧ i = .int .i64 (k : Int) ∧ Hid (Below W.heap.size W wr)) (fun _ i _ => z.s.hosts.length - (intOf i).toNat)
  case atStart => exact ⟨0, Nat.zero_le _, rfl, rfl, HKv1⟩
  case round =>
    obtain ⟨k, hk, rfl, rfl, hK⟩ := hrel
    have hki : ((k : Nat) : Int).toNat = k := by omega
    obtain ⟨S, hS⟩ : ∃ S, soFar z pd k = S := ⟨_, rfl⟩
    have HS := Lib.hid hS
    have bS := soFar_bd HOK.out pd hk
    rw [hS] at bS
    rw [hS]
    clear hS
    by_cases hlt : k < z.s.hosts.length
    · obtain ⟨x, y, hx, hy, -, bi, bp⟩ := host_ok HOK.out hlt
      have HXX := Lib.hid hx
      have HYY := Lib.hid hy
      obtain ⟨pb, po, e6, hpb, x0, x1, x2, x3⟩ := hs_at (HZ.out wr hK.out) hx
      rw [HA6.out] at e6
      subst e6
      obtain ⟨f0, f1, f2, f3, f4, f5, f6, g0, g1, g2⟩ := HF.out wr hK.out
      have hki2 : (k : Int) < (z.s.hosts.length : Int) := by omega
      have hki3 : (k : Int) < (z.d.hosts.length : Int) := by have := HDL.out; omega
      obtain ⟨V, hV⟩ : ∃ X, X = wr.alloc (.cells #[.int .i64 x.rack, .int .i64 x.cores, .int .i64 x.idle, .int .i64 x.per] 71) := ⟨_, rfl⟩
      have bV : Below wr.heap.size wr V := by rw [hV]; exact (Below.refl _ _).alloc (Nat.le_refl _) _
      have BV : V.heap[wr.heap.size]? = some (.cells #[.int .i64 x.rack, .int .i64 x.cores, .int .i64 x.idle, .int .i64 x.per] 71 (0, 0)) := by rw [hV]; exact box_new _ _ _
      have HKV := Lib.hid (below_join hK.out bV hK.out.size)
      have HBV := Lib.hid (fun (X : World) (hX : Below V.heap.size V X) => (⟨cell_of (box_on BV hX (Nat.le_refl _)) rfl, cell_of (box_on BV hX (Nat.le_refl _)) rfl, cell_of (box_on BV hX (Nat.le_refl _)) rfl, cell_of (box_on BV hX (Nat.le_refl _)) rfl⟩ : X.cell? ⟨wr.heap.size, 0, none⟩ = some (.int .i64 x.rack) ∧ X.cell? ⟨wr.heap.size, 1, none⟩ = some (.int .i64 x.cores) ∧ X.cell? ⟨wr.heap.size, 2, none⟩ = some (.int .i64 x.idle) ∧ X.cell? ⟨wr.heap.size, 3, none⟩ = some (.int .i64 x.per)))
      have HKVV := Lib.hid (Below.refl V.heap.size V)
      clear hx hy bV BV
      rcases hp : pd k with _ | _
      · have HP := Lib.hid hp
        have HSN := Lib.hid (soFar_no hp (z := z))
        clear hp
        go_wp2_with (fail)
        rw [← hV]
        clear hV x0 x1 x2 x3 f0 f1 f2 f3 f4 f5 f6 g0 g1 g2
        go_at_call 44
        refine (HCL.out V (below_join HB.out HKV.out hle) HOK.out k hlt false HP.out).mono ?_
        rintro e v2 ⟨rfl, bb⟩
        have HK2 := Lib.hid (below_join HKV.out bb HKV.out.size)
        clear bb
        go_wp2_with (fail)
        go_roundw
        case rel => exact ⟨k + 1, by omega, by rw [HSN.out, HS.out], by go_num, HK2⟩
        case measure => simp only [intOf]; omega
      · have HP := Lib.hid hp
        clear hp
        rcases h4 : ((y.phase : Int) == 4) with _ | _
        · obtain ⟨u, hu⟩ : ∃ u, usedD z.ss z.d.reps (k : Int) = u := ⟨_, rfl⟩
          have HU := Lib.hid hu
          have bu := used_bd HOK.out (k : Int)
          rw [show usedD (Sn.ss z) z.d.reps (k : Int) = u from hu] at bu
          obtain ⟨pr, hpr⟩ : ∃ t, x.per * u = t := ⟨_, rfl⟩
          have HPR := Lib.hid hpr
          have bpr : 0 ≤ pr ∧ pr ≤ 24000000 := by
            rw [← hpr]
            have p1 := Int.mul_nonneg bp.1 bu.1
            have p2 : x.per * u ≤ 1000 * u := Int.mul_le_mul_of_nonneg_right bp.2 bu.1
            omega
          have HSY := Lib.hid (show soFar z pd (k + 1) = S + (x.idle + pr) by
            rw [soFar_yes HXX.out HYY.out HP.out (by intro h; rw [h] at h4; simp at h4), HS.out, HU.out, HPR.out])
          have hne : ((y.phase : Int) != 4) = true := by unfold bne; rw [h4]; rfl
          clear hu hpr
          go_wp2_with (fail)
          rw [← hV]
          clear hV x0 x1 x2 x3 f0 f1 f2 f3 f4 f5 f6 g0 g1 g2
          go_at_call 44
          refine (HCL.out V (below_join HB.out HKV.out hle) HOK.out k hlt true HP.out).mono ?_
          rintro e v2 ⟨rfl, bb⟩
          have HKK2 := Lib.hid (below_join HKVV.out bb (Nat.le_refl _))
          have HK2 := Lib.hid (below_join HKV.out bb HKV.out.size)
          obtain ⟨f0, f1, f2, f3, f4, f5, f6, g0, g1, g2⟩ := HF.out v2 HK2.out
          obtain ⟨qb, qo, e1, hqb, y0⟩ := ho_at (HZ.out v2 HK2.out) HYY.out
          rw [e1] at g1
          clear bb e1
          go_wp2_with (fail)
          obtain ⟨j0, j1, j2, j3⟩ := HBV.out v2 HKK2.out
          obtain ⟨f0, f1, f2, f3, f4, f5, f6, g0, g1, g2⟩ := HF.out v2 HK2.out
          go_region_held3 (fun X => (X.cell? ⟨B, 0, none⟩ = some (.slice z.p.a1 z.s.feeds.length z.p.c1) ∧ X.cell? ⟨B, 1, none⟩ = some (.slice z.p.a2 z.s.brks.length z.p.c2) ∧ X.cell? ⟨B, 2, none⟩ = some (.slice z.p.a3 z.s.loops.length z.p.c3) ∧ X.cell? ⟨B, 3, none⟩ = some (.slice z.p.a4 z.s.racks.length z.p.c4) ∧ X.cell? ⟨B, 4, none⟩ = some (.int .i64 z.s.sw) ∧ X.cell? ⟨B, 5, none⟩ = some (.slice z.p.a5 z.s.links.length z.p.c5) ∧ X.cell? ⟨B, 6, none⟩ = some (.slice (some ⟨pb, po, none⟩) z.s.hosts.length z.p.c6) ∧ X.cell? ⟨B + 1, 0, none⟩ = some (.slice z.A z.xs.length z.c) ∧ X.cell? ⟨B + 1 + 1, 0, none⟩ = some (.slice z.q.a1 z.d.hosts.length z.q.c1) ∧ X.cell? ⟨B + 1 + 1, 1, none⟩ = some (.slice z.q.a2 z.d.reps.length z.q.c2)) ∧ X.cell? ⟨wr.heap.size, 2, none⟩ = some (.int .i64 x.idle) ∧ X.cell? ⟨wr.heap.size, 3, none⟩ = some (.int .i64 x.per))
            (first | exact ⟨HF.out v3 HK3.out, (HBV.out v3 HKK3.out).2.2⟩ | exact ⟨HF.out v2 HK2.out, (HBV.out v2 HKK2.out).2.2⟩ | fail)
            (first
              | (go_at_call 62; (with_reducible refine (c_usedTo z (k : Int) u HU.out v2.drew (HZ.out v2.drew HK2.out.drew)).mono ?_); rintro e v3 ⟨rfl, bb0⟩; have bb := below_join (Below.refl v2.heap.size v2).drew bb0 (Nat.le_refl _); have HK3 := Lib.hid (below_join HK2.out bb HK2.out.size); have HKK3 := Lib.hid (below_join HKK2.out bb HKK2.out.size); clear bb bb0)
              | fail)
          go_wp2_with (fail)
          go_roundw
          case rel => exact ⟨k + 1, by omega, by rw [HSY.out, HPR.out, wrap_in (x := pr) (by omega) (by omega), wrap_in (x := x.idle + pr) (by omega) (by omega), wrap_in (by omega) (by omega)], by go_num, HK3⟩
          case measure => simp only [intOf]; omega
        · have HSN := Lib.hid (soFar_off (z := z) (b := pd) HYY.out (by have := eq_of_beq h4; omega))
          have hne : ((y.phase : Int) != 4) = false := by unfold bne; rw [h4]; rfl
          go_wp2_with (fail)
          rw [← hV]
          clear hV x0 x1 x2 x3 f0 f1 f2 f3 f4 f5 f6 g0 g1 g2
          go_at_call 44
          refine (HCL.out V (below_join HB.out HKV.out hle) HOK.out k hlt true HP.out).mono ?_
          rintro e v2 ⟨rfl, bb⟩
          have HK2 := Lib.hid (below_join HKV.out bb HKV.out.size)
          obtain ⟨f0, f1, f2, f3, f4, f5, f6, g0, g1, g2⟩ := HF.out v2 HK2.out
          obtain ⟨qb, qo, e1, hqb, y0⟩ := ho_at (HZ.out v2 HK2.out) HYY.out
          rw [e1] at g1
          clear bb e1
          go_wp2_with (fail)
          go_roundw
          case rel => exact ⟨k + 1, by omega, by rw [HSN.out, HS.out], by go_num, HK2⟩
          case measure => simp only [intOf]; omega
    · obtain rfl : k = z.s.hosts.length := by omega
      have HVS := Lib.hid (show S = v by rw [← HVE.out, HS.out])
      go_wp2_with (fail)
      go_ret
      exact ⟨(show Ending.returned (.int .i64 S) = .returned (.int .i64 v) by rw [HVS.out]), below_join HB.out hK.out hle⟩
end Go.Proofs.YtpokpgnclohiiaaGreat

namespace Go.Proofs.YtpokpgnclohiiaaGreat
open Go.RowKit
set_option maxRecDepth 100000
set_option linter.unusedVariables false
set_option linter.unusedSimpArgs false

set_option maxHeartbeats 4000000 in
theorem c_pwWatts (z : Sn) (r0 : Bool) (hr0 : r0 = true ↔ z.Ok) (k : Int) (w : World) (hz : SnAt w z) (v : Int) (hv : pwV z r0 (isHost k) = v) :
    Calls Tryz.prog 27 #[.agg #[.slice z.p.a1 z.s.feeds.length z.p.c1, .slice z.p.a2 z.s.brks.length z.p.c2, .slice z.p.a3 z.s.loops.length z.p.c3, .slice z.p.a4 z.s.racks.length z.p.c4, .int .i64 z.s.sw, .slice z.p.a5 z.s.links.length z.p.c5, .slice z.p.a6 z.s.hosts.length z.p.c6], .agg #[.slice z.A z.xs.length z.c], .agg #[.slice z.q.a1 z.d.hosts.length z.q.c1, .slice z.q.a2 z.d.reps.length z.q.c2], .int .i64 k] w fun e w' => e = .returned (.int .i64 v) ∧ Below w.heap.size w w' := by
  obtain ⟨W1, h1⟩ : ∃ W, W = w.alloc (.cells #[.slice z.p.a1 z.s.feeds.length z.p.c1, .slice z.p.a2 z.s.brks.length z.p.c2, .slice z.p.a3 z.s.loops.length z.p.c3, .slice z.p.a4 z.s.racks.length z.p.c4, .int .i64 z.s.sw, .slice z.p.a5 z.s.links.length z.p.c5, .slice z.p.a6 z.s.hosts.length z.p.c6] 29) := ⟨_, rfl⟩
  obtain ⟨W2, h2⟩ : ∃ W, W = W1.alloc (.cells #[.slice z.A z.xs.length z.c] 32) := ⟨_, rfl⟩
  obtain ⟨W3, h3⟩ : ∃ W, W = W2.alloc (.cells #[.slice z.q.a1 z.d.hosts.length z.q.c1, .slice z.q.a2 z.d.reps.length z.q.c2] 36) := ⟨_, rfl⟩
  obtain ⟨B0, X1⟩ := sn_boxes h1 h2 h3
  have z3 : W3.heap.size = w.heap.size + 1 + 1 + 1 := sn_size h1 h2 h3
  obtain ⟨W, h4⟩ : ∃ W, W = W3.alloc (.cells #[.int .i64 k] 3) := ⟨_, rfl⟩
  have B1 : Below w.heap.size w W := by rw [h4]; exact B0.alloc B0.size _
  have M0 : W.heap[w.heap.size + 1 + 1 + 1]? = some (.cells #[.int .i64 k] 3 (0, 0)) := by rw [h4, ← z3]; exact box_new _ _ _
  have z4 : W.heap.size = w.heap.size + 1 + 1 + 1 + 1 := by rw [h4, World.size_alloc, z3]
  have X2 : SnBx W w.heap.size z := by rw [h4]; exact X1.alloc _
  have HB := Lib.hid B1
  have Z0 := hz.on B1 (Nat.le_refl _)
  have HZ := Lib.hid (fun (X : World) (hX : Below W.heap.size W X) => Z0.on hX (Nat.le_refl _))
  have HF := Lib.hid (fun (X : World) (hX : Below W.heap.size W X) => ((X2.on hX (Nat.le_refl _)).cells : X.cell? ⟨w.heap.size, 0, none⟩ = some (.slice z.p.a1 z.s.feeds.length z.p.c1) ∧ X.cell? ⟨w.heap.size, 1, none⟩ = some (.slice z.p.a2 z.s.brks.length z.p.c2) ∧ X.cell? ⟨w.heap.size, 2, none⟩ = some (.slice z.p.a3 z.s.loops.length z.p.c3) ∧ X.cell? ⟨w.heap.size, 3, none⟩ = some (.slice z.p.a4 z.s.racks.length z.p.c4) ∧ X.cell? ⟨w.heap.size, 4, none⟩ = some (.int .i64 z.s.sw) ∧ X.cell? ⟨w.heap.size, 5, none⟩ = some (.slice z.p.a5 z.s.links.length z.p.c5) ∧ X.cell? ⟨w.heap.size, 6, none⟩ = some (.slice z.p.a6 z.s.hosts.length z.p.c6) ∧ X.cell? ⟨w.heap.size + 1, 0, none⟩ = some (.slice z.A z.xs.length z.c) ∧ X.cell? ⟨w.heap.size + 1 + 1, 0, none⟩ = some (.slice z.q.a1 z.d.hosts.length z.q.c1) ∧ X.cell? ⟨w.heap.size + 1 + 1, 1, none⟩ = some (.slice z.q.a2 z.d.reps.length z.q.c2)))
  have HX := Lib.hid (fun (X : World) (hX : Below W.heap.size W X) => X2.on hX (Nat.le_refl _))
  have HM0 := Lib.hid (fun (X : World) (hX : Below W.heap.size W X) => (box_on M0 hX (Nat.le_refl _) : X.heap[w.heap.size + 1 + 1 + 1]? = some (.cells #[.int .i64 k] 3 (0, 0))))
  have HKW := Lib.hid (Below.refl W.heap.size W)
  have hle := HB.out.size
  obtain ⟨n1, n2, n3, n4, n5, n6, n7, n8⟩ := hz.bounds
  have HCL := Lib.hid (fun (X : World) (hX : Below W.heap.size W X) => c_loadHost z r0 hr0 (w.heap.size + 1 + 1 + 1) k X (HZ.out X hX) (cell_of (HM0.out X hX) rfl) (at_lt (HM0.out X hX)) v hv)
  clear hr0 hv
  clear hz B0 X1 z3 Z0 B1 M0 z4 X2
  obtain ⟨f0, f1, f2, f3, f4, f5, f6, g0, g1, g2⟩ := HF.out W HKW.out
  have m00 := cell_of (HM0.out W HKW.out) (o := 0) rfl
  rw [h4, h3, h2, h1] at f0 f1 f2 f3 f4 f5 f6 g0 g1 g2 m00
  generalize hBB : w.heap.size = B at *
  go_enter Tryz.func27, Tryz.ntmps27
  go_wp2_with (fail)
  rw [← h1, ← h2, ← h3, ← h4]
  clear h1 h2 h3 h4 f0 f1 f2 f3 f4 f5 f6 g0 g1 g2 m00
  go_at_call 43
  refine (HCL.out W HKW.out).mono ?_
  rintro e v1 ⟨rfl, bb⟩
  have HKv1 := Lib.hid (below_join HKW.out bb HKW.out.size)
  clear bb
  go_wp2_with (fail)
  go_ret
  exact ⟨rfl, below_join HB.out HKv1.out hle⟩
end Go.Proofs.YtpokpgnclohiiaaGreat

namespace Go.Proofs.YtpokpgnclohiiaaGreat
open Go.RowKit
set_option maxRecDepth 100000
set_option linter.unusedVariables false
set_option linter.unusedSimpArgs false

set_option maxHeartbeats 16000000 in
theorem d_Watts (z : Sn) (r0 : Bool) (hr0 : r0 = true ↔ z.Ok) (k : Int) (w : World) (hz : SnAt w z) (v : Int) (hv : pwV z r0 (isHost k) = v) :
    Calls Tryz.prog 29 #[.agg #[.slice z.p.a1 z.s.feeds.length z.p.c1, .slice z.p.a2 z.s.brks.length z.p.c2, .slice z.p.a3 z.s.loops.length z.p.c3, .slice z.p.a4 z.s.racks.length z.p.c4, .int .i64 z.s.sw, .slice z.p.a5 z.s.links.length z.p.c5, .slice z.p.a6 z.s.hosts.length z.p.c6], .agg #[.slice z.A z.xs.length z.c], .agg #[.slice z.q.a1 z.d.hosts.length z.q.c1, .slice z.q.a2 z.d.reps.length z.q.c2], .int .i64 k] w fun e w' => e = .returned (.int .i64 v) ∧ Below w.heap.size w w' := by
  obtain ⟨W1, h1⟩ : ∃ W, W = w.alloc (.cells #[.slice z.p.a1 z.s.feeds.length z.p.c1, .slice z.p.a2 z.s.brks.length z.p.c2, .slice z.p.a3 z.s.loops.length z.p.c3, .slice z.p.a4 z.s.racks.length z.p.c4, .int .i64 z.s.sw, .slice z.p.a5 z.s.links.length z.p.c5, .slice z.p.a6 z.s.hosts.length z.p.c6] 29) := ⟨_, rfl⟩
  obtain ⟨W2, h2⟩ : ∃ W, W = W1.alloc (.cells #[.slice z.A z.xs.length z.c] 32) := ⟨_, rfl⟩
  obtain ⟨W, h3⟩ : ∃ W, W = W2.alloc (.cells #[.slice z.q.a1 z.d.hosts.length z.q.c1, .slice z.q.a2 z.d.reps.length z.q.c2] 36) := ⟨_, rfl⟩
  obtain ⟨B0, X1⟩ := sn_boxes h1 h2 h3
  have z3 : W.heap.size = w.heap.size + 1 + 1 + 1 := sn_size h1 h2 h3
  have HB := Lib.hid B0
  have Z0 := hz.on B0 (Nat.le_refl _)
  have HZ := Lib.hid (fun (X : World) (hX : Below W.heap.size W X) => Z0.on hX (Nat.le_refl _))
  have HF := Lib.hid (fun (X : World) (hX : Below W.heap.size W X) => ((X1.on hX (Nat.le_refl _)).cells : X.cell? ⟨w.heap.size, 0, none⟩ = some (.slice z.p.a1 z.s.feeds.length z.p.c1) ∧ X.cell? ⟨w.heap.size, 1, none⟩ = some (.slice z.p.a2 z.s.brks.length z.p.c2) ∧ X.cell? ⟨w.heap.size, 2, none⟩ = some (.slice z.p.a3 z.s.loops.length z.p.c3) ∧ X.cell? ⟨w.heap.size, 3, none⟩ = some (.slice z.p.a4 z.s.racks.length z.p.c4) ∧ X.cell? ⟨w.heap.size, 4, none⟩ = some (.int .i64 z.s.sw) ∧ X.cell? ⟨w.heap.size, 5, none⟩ = some (.slice z.p.a5 z.s.links.length z.p.c5) ∧ X.cell? ⟨w.heap.size, 6, none⟩ = some (.slice z.p.a6 z.s.hosts.length z.p.c6) ∧ X.cell? ⟨w.heap.size + 1, 0, none⟩ = some (.slice z.A z.xs.length z.c) ∧ X.cell? ⟨w.heap.size + 1 + 1, 0, none⟩ = some (.slice z.q.a1 z.d.hosts.length z.q.c1) ∧ X.cell? ⟨w.heap.size + 1 + 1, 1, none⟩ = some (.slice z.q.a2 z.d.reps.length z.q.c2)))
  have HX := Lib.hid (fun (X : World) (hX : Below W.heap.size W X) => X1.on hX (Nat.le_refl _))
  have HKW := Lib.hid (Below.refl W.heap.size W)
  have hle := HB.out.size
  obtain ⟨n1, n2, n3, n4, n5, n6, n7, n8⟩ := hz.bounds
  have HVV := Lib.hid (fun (X : World) (hX : SnAt X z) => c_wvTo z r0 hr0 X hX)
  have HV := Lib.hid hv
  have HR0 := Lib.hid hr0
  clear hr0 hv
  clear hz B0 X1 z3 Z0
  obtain ⟨f0, f1, f2, f3, f4, f5, f6, g0, g1, g2⟩ := HF.out W HKW.out
  rw [h3, h2, h1] at f0 f1 f2 f3 f4 f5 f6 g0 g1 g2
  generalize hBB : w.heap.size = B at *
  go_enter Tryz.func29, Tryz.ntmps29
  go_wp2_with (fail)
  rw [← h1, ← h2, ← h3]
  clear h1 h2 h3 f0 f1 f2 f3 f4 f5 f6 g0 g1 g2
  go_at_call 20
  refine (HVV.out W (HZ.out W HKW.out)).mono ?_
  rintro e v1 ⟨rfl, bb⟩
  have HKv1 := Lib.hid (below_join HKW.out bb HKW.out.size)
  clear bb
  cases r0
  · have HVE := Lib.hid (show (0 : Int) = v from HV.out)
    go_wp2_with (fail)
    go_ret
    exact ⟨(show Ending.returned (.int .i64 0) = .returned (.int .i64 v) by rw [HVE.out]), below_join HB.out HKv1.out hle⟩
  have HOK := Lib.hid (HR0.out.1 rfl)
  have HLV := Lib.hid (show (if 0 ≤ k ∧ k < z.s.hosts.length then watN z.s z.ss z.d k.toNat else 0) = v by rw [← load_host]; exact HV.out)
  obtain ⟨f0, f1, f2, f3, f4, f5, f6, g0, g1, g2⟩ := HF.out v1 HKv1.out
  rcases hk0 : decide (k < 0) with _ | _
  rotate_left
  · have HVE := Lib.hid (show (0 : Int) = v by rw [← HLV.out, if_neg]; have := of_decide_eq_true hk0; omega)
    go_wp2_with (fail)
    go_ret
    exact ⟨(show Ending.returned (.int .i64 0) = .returned (.int .i64 v) by rw [HVE.out]), below_join HB.out HKv1.out hle⟩
  have hk0' := of_decide_eq_false hk0
  rcases hk1 : decide ((z.s.hosts.length : Int) ≤ k) with _ | _
  rotate_left
  · have HVE := Lib.hid (show (0 : Int) = v by rw [← HLV.out, if_neg]; have := of_decide_eq_true hk1; omega)
    have hk1' := of_decide_eq_true hk1
    go_wp2_with (fail)
    go_ret
    exact ⟨(show Ending.returned (.int .i64 0) = .returned (.int .i64 v) by rw [HVE.out]), below_join HB.out HKv1.out hle⟩
  have hk1' := of_decide_eq_false hk1
  obtain ⟨m, rfl⟩ : ∃ m : Nat, k = m := ⟨k.toNat, by omega⟩
  have hlt : m < z.s.hosts.length := by omega
  have HLW := Lib.hid (show watN z.s z.ss z.d m = v by rw [← HLV.out, if_pos (by omega), Int.toNat_natCast])
  obtain ⟨x, y, hx, hy, -, bi, bp⟩ := host_ok HOK.out hlt
  have hdl : m < z.d.hosts.length := by have := HOK.out.2.2.1; omega
  have hki2 : (m : Int) < (z.s.hosts.length : Int) := by omega
  have hki3 : (m : Int) < (z.d.hosts.length : Int) := by omega
  have HXX := Lib.hid hx
  have HYY := Lib.hid hy
  have Z1 := HZ.out v1 HKv1.out
  obtain ⟨pb, po, e6, hpb, -, -, x2, x3⟩ := hs_at Z1 hx
  obtain ⟨qb, qo, e1, hqb, y0⟩ := ho_at Z1 hy
  clear Z1 hx hy hk0 hk1
  rw [e6] at f6
  rw [e1] at g1
  rcases h4 : ((y.phase : Int) == 4) with _ | _
  · obtain ⟨u, hu⟩ : ∃ u, usedD z.ss z.d.reps (m : Int) = u := ⟨_, rfl⟩
    have HU := Lib.hid hu
    have bu := used_bd HOK.out (m : Int)
    rw [show usedD (Sn.ss z) z.d.reps (m : Int) = u from hu] at bu
    obtain ⟨pr, hpr⟩ : ∃ t, x.per * u = t := ⟨_, rfl⟩
    have HPR := Lib.hid hpr
    have bpr : 0 ≤ pr ∧ pr ≤ 24000000 := by
      rw [← hpr]
      have p1 := Int.mul_nonneg bp.1 bu.1
      have p2 : x.per * u ≤ 1000 * u := Int.mul_le_mul_of_nonneg_right bp.2 bu.1
      omega
    have HVE := Lib.hid (show IntKind.i64.wrap (x.idle + IntKind.i64.wrap (x.per * u)) = v by
      rw [← HLW.out, HPR.out, wrap_in (x := pr) (by omega) (by omega), wrap_in (by omega) (by omega)]
      unfold watN
      rw [phAt_eq HYY.out, if_neg (by intro h; rw [h] at h4; simp at h4), hsAt_eq HXX.out, show usedD (Sn.ss z) z.d.reps (m : Int) = u from HU.out, HPR.out])
    have HF2 := Lib.hid (fun (X : World) (hX : Below W.heap.size W X) (h2 : X.cell? ⟨pb, po + m * 4 + 2, none⟩ = some (.int .i64 x.idle)) (h3 : X.cell? ⟨pb, po + m * 4 + 3, none⟩ = some (.int .i64 x.per)) => (⟨by rw [← e6]; exact HF.out X hX, h2, h3⟩ : (X.cell? ⟨B, 0, none⟩ = some (.slice z.p.a1 z.s.feeds.length z.p.c1) ∧ X.cell? ⟨B, 1, none⟩ = some (.slice z.p.a2 z.s.brks.length z.p.c2) ∧ X.cell? ⟨B, 2, none⟩ = some (.slice z.p.a3 z.s.loops.length z.p.c3) ∧ X.cell? ⟨B, 3, none⟩ = some (.slice z.p.a4 z.s.racks.length z.p.c4) ∧ X.cell? ⟨B, 4, none⟩ = some (.int .i64 z.s.sw) ∧ X.cell? ⟨B, 5, none⟩ = some (.slice z.p.a5 z.s.links.length z.p.c5) ∧ X.cell? ⟨B, 6, none⟩ = some (.slice (some ⟨pb, po, none⟩) z.s.hosts.length z.p.c6) ∧ X.cell? ⟨B + 1, 0, none⟩ = some (.slice z.A z.xs.length z.c) ∧ X.cell? ⟨B + 1 + 1, 0, none⟩ = some (.slice z.q.a1 z.d.hosts.length z.q.c1) ∧ X.cell? ⟨B + 1 + 1, 1, none⟩ = some (.slice z.q.a2 z.d.reps.length z.q.c2)) ∧ X.cell? ⟨pb, po + m * 4 + 2, none⟩ = some (.int .i64 x.idle) ∧ X.cell? ⟨pb, po + m * 4 + 3, none⟩ = some (.int .i64 x.per)))
    have HX2 := Lib.hid x2
    have HX3 := Lib.hid x3
    clear hu hpr e1 e6
    go_wp2_with (fail)
    go_region_held3 (fun X => (X.cell? ⟨B, 0, none⟩ = some (.slice z.p.a1 z.s.feeds.length z.p.c1) ∧ X.cell? ⟨B, 1, none⟩ = some (.slice z.p.a2 z.s.brks.length z.p.c2) ∧ X.cell? ⟨B, 2, none⟩ = some (.slice z.p.a3 z.s.loops.length z.p.c3) ∧ X.cell? ⟨B, 3, none⟩ = some (.slice z.p.a4 z.s.racks.length z.p.c4) ∧ X.cell? ⟨B, 4, none⟩ = some (.int .i64 z.s.sw) ∧ X.cell? ⟨B, 5, none⟩ = some (.slice z.p.a5 z.s.links.length z.p.c5) ∧ X.cell? ⟨B, 6, none⟩ = some (.slice (some ⟨pb, po, none⟩) z.s.hosts.length z.p.c6) ∧ X.cell? ⟨B + 1, 0, none⟩ = some (.slice z.A z.xs.length z.c) ∧ X.cell? ⟨B + 1 + 1, 0, none⟩ = some (.slice z.q.a1 z.d.hosts.length z.q.c1) ∧ X.cell? ⟨B + 1 + 1, 1, none⟩ = some (.slice z.q.a2 z.d.reps.length z.q.c2)) ∧ X.cell? ⟨pb, po + m * 4 + 2, none⟩ = some (.int .i64 x.idle) ∧ X.cell? ⟨pb, po + m * 4 + 3, none⟩ = some (.int .i64 x.per))
      (first | exact HF2.out v3 HK3.out Y2.out Y3.out | exact HF2.out v1 HKv1.out HX2.out HX3.out | fail)
      (first
        | (go_at_call 46; (with_reducible refine (c_wrUsedTo z (m : Int) u HU.out v1.drew (HZ.out v1.drew HKv1.out.drew)).mono ?_); rintro e v3 ⟨rfl, bb0⟩; have bb := below_join (Below.refl v1.heap.size v1).drew bb0 (Nat.le_refl _); have HK3 := Lib.hid (below_join HKv1.out bb HKv1.out.size); have Y2 := Lib.hid ((bb.cell (p := ⟨pb, po + m * 4 + 2, none⟩) hpb).trans HX2.out); have Y3 := Lib.hid ((bb.cell (p := ⟨pb, po + m * 4 + 3, none⟩) hpb).trans HX3.out); clear bb bb0)
        | fail)
    go_wp2_with (fail)
    go_ret
    exact ⟨(show Ending.returned (.int .i64 (IntKind.i64.wrap (x.idle + IntKind.i64.wrap (x.per * u)))) = .returned (.int .i64 v) by rw [HVE.out]), below_join HB.out HK3.out hle⟩
  · have HVE := Lib.hid (show (0 : Int) = v by
      rw [← HLW.out]; unfold watN
      rw [phAt_eq HYY.out, if_pos (by have := eq_of_beq h4; omega)])
    go_wp2_with (fail)
    go_ret
    exact ⟨(show Ending.returned (.int .i64 0) = .returned (.int .i64 v) by rw [HVE.out]), below_join HB.out HKv1.out hle⟩
end Go.Proofs.YtpokpgnclohiiaaGreat

namespace Go.Proofs.YtpokpgnclohiiaaGreat
open Go.ChangeShapes Go.WideShapes Go.Deep Go.RowKit
set_option maxRecDepth 100000
set_option linter.unusedSimpArgs false
set_option linter.unusedVariables false

theorem cell_lt3 {w : World} {b o : Nat} {v : Value} (h : w.cell? ⟨b, o, none⟩ = some v) : b < w.heap.size := by
  unfold World.cell? at h
  cases hb : w.heap[b]? with
  | none => simp [hb] at h
  | some ob => exact (Array.getElem?_eq_some_iff.1 hb).1
theorem u8_wf {n : Int} (h : (Lit.int .u8 n).wf = true) : ∃ m : Nat, n = (m : Int) ∧ m < 256 := by
  have h2 : (decide ((0 : Int) ≤ n) && decide (n ≤ 255)) = true := h
  simp only [Bool.and_eq_true, decide_eq_true_eq] at h2
  exact ⟨n.toNat, by omega, by omega⟩
theorem plain_add (b o j : Nat) : (⟨b, o, none⟩ : Addr).add j = ⟨b, o + j, none⟩ := by unfold Addr.add; split <;> simp_all
theorem add_spot {w : World} {a : Addr} {v : Value} (h : w.cell? (a.add 0) = some v) : ∃ b o, a = ⟨b, o, none⟩ ∧ b < w.heap.size := by
  obtain ⟨b, off, spot⟩ := a
  have hsp : spot = none := by simpa [Addr.add] using World.cell?_spot h
  subst hsp
  rw [plain_add] at h
  exact ⟨b, off, rfl, cell_lt3 h⟩
theorem cells_it : Tryz.prog.cellsOf 3 = 1 := by kernel_rfl
theorem cells_site : Tryz.prog.cellsOf 29 = 7 := by kernel_rfl
section
variable {H : Type} {enc : TypeId × Value → H} {W : World} {base : Nat} {spare : Nat → Bool} {held : Bool} {r : Go.Reach} {b0 : Nat} {v : Value} {d : DataW H} {p : List MemPlace}
theorem open_one64 {fuel : Nat} {x : DataW H × List MemPlace} {u : Value} (hf : DataW.trod enc Tryz.prog W base spare held fuel 3 [u] = some x) : ∃ n : Int, u = .int .i64 n := by
  obtain ⟨n, g, -, -⟩ := DataW.trod_int Tryz.underlying3 hf
  simp at g
  exact ⟨n, g⟩
theorem open_int_ (h : DataW.Trod enc Tryz.prog W base spare held 3 v d p) (hv : Value.okWide Tryz.prog W r b0 3 v) : ∃ n : Int, v = .int .i64 n := by
  obtain ⟨m, rfl⟩ := okWide_int Tryz.underlying3 hv
  exact ⟨m, rfl⟩
theorem cells_Feed : Tryz.prog.cellsOf 87 = 1 := by kernel_rfl
theorem cells_sFeed : Tryz.prog.cellsOf 22 = 1 := by kernel_rfl
theorem open_sFeed {fuel : Nat} {x : DataW H × List MemPlace} (hf : DataW.trod enc Tryz.prog W base spare held fuel 22 [v] = some x) : ∃ (A : Option Addr) (c : Nat) (l : List Int), v = .slice A l.length c ∧ Rw 1 inF W A c l := by
  rcases open_slice Tryz.underlying22 hf with ⟨h0, _⟩ | ⟨a, len, cap, m, n, D, Pl, hcs, hb, hl, hm, hmm, hx, hi⟩
  · simp at h0
    subst h0
    exact ⟨none, 0, [], rfl, Rw.nil _ _⟩
  · simp at hcs
    subst hcs
    have hel : ∀ i, i < len → ∃ y : Int, ∀ q, q < 1 → W.cell? (a.add (i * 1 + q)) = some (.int .i64 (inF y q)) := by
      intro i him
      obtain ⟨cs', hc, ht'⟩ := hi i (by rw [hmm]; split <;> omega)
      rw [cells_Feed] at hc
      obtain ⟨_, hcl, hat⟩ := World.cells?_some hc
      obtain ⟨xs, k, -, -, -, hxl, hg⟩ := DataW.trod_struct Tryz.underlying87 ht'
      have hxl' : xs.length = 1 := hxl
      have g0 : DataW.trod enc Tryz.prog W base spare held k 3 ((cs'.drop 0).take (Tryz.prog.cellsOf 3)) = xs[0]? := hg 0 _ rfl
      rw [List.getElem?_eq_getElem (by omega)] at g0
      rw [cells_it] at g0
      match cs', hcl with
      | [c0], _ =>
        obtain ⟨p0, rfl⟩ := open_one64 (u := c0) g0
        have e0 := hat 0 (by omega)
        rw [Go.Deep.add_add] at e0
        refine ⟨p0, fun q hq => ?_⟩
        obtain rfl : q = 0 := by omega
        simpa [inF] using e0
    have inh : Inhabited Int := ⟨0⟩
    obtain ⟨G, hG⟩ := choose_lt hel
    refine ⟨some a, cap, (List.range len).map G, by simp, by simpa using hl, hm, fun h0 => ?_⟩
    have h0' : 0 < len := by simpa using h0
    obtain ⟨b, off, rfl, hlt⟩ := add_spot (by simpa using hG 0 h0' 0 (by omega))
    refine ⟨b, off, rfl, hlt, fun j q hj i hi2 => ?_⟩
    have hjl : j < len := by have := (List.getElem?_eq_some_iff.1 hj).1; simpa using this
    rw [List.getElem?_map, List.getElem?_range hjl] at hj
    injection hj with hj
    subst hj
    have e := hG j hjl i hi2
    rw [plain_add] at e
    rw [Nat.add_assoc]
    exact e
theorem cells_Breaker : Tryz.prog.cellsOf 89 = 4 := by kernel_rfl
theorem cells_sBreaker : Tryz.prog.cellsOf 23 = 1 := by kernel_rfl
theorem open_sBreaker {fuel : Nat} {x : DataW H × List MemPlace} (hf : DataW.trod enc Tryz.prog W base spare held fuel 23 [v] = some x) : ∃ (A : Option Addr) (c : Nat) (l : List Brk), v = .slice A l.length c ∧ Rw 4 brkF W A c l := by
  rcases open_slice Tryz.underlying23 hf with ⟨h0, _⟩ | ⟨a, len, cap, m, n, D, Pl, hcs, hb, hl, hm, hmm, hx, hi⟩
  · simp at h0
    subst h0
    exact ⟨none, 0, [], rfl, Rw.nil _ _⟩
  · simp at hcs
    subst hcs
    have hel : ∀ i, i < len → ∃ y : Brk, ∀ q, q < 4 → W.cell? (a.add (i * 4 + q)) = some (.int .i64 (brkF y q)) := by
      intro i him
      obtain ⟨cs', hc, ht'⟩ := hi i (by rw [hmm]; split <;> omega)
      rw [cells_Breaker] at hc
      obtain ⟨_, hcl, hat⟩ := World.cells?_some hc
      obtain ⟨xs, k, -, -, -, hxl, hg⟩ := DataW.trod_struct Tryz.underlying89 ht'
      have hxl' : xs.length = 4 := hxl
      have g0 : DataW.trod enc Tryz.prog W base spare held k 3 ((cs'.drop 0).take (Tryz.prog.cellsOf 3)) = xs[0]? := hg 0 _ rfl
      have g1 : DataW.trod enc Tryz.prog W base spare held k 3 ((cs'.drop 1).take (Tryz.prog.cellsOf 3)) = xs[1]? := hg 1 _ rfl
      have g2 : DataW.trod enc Tryz.prog W base spare held k 3 ((cs'.drop 2).take (Tryz.prog.cellsOf 3)) = xs[2]? := hg 2 _ rfl
      have g3 : DataW.trod enc Tryz.prog W base spare held k 3 ((cs'.drop 3).take (Tryz.prog.cellsOf 3)) = xs[3]? := hg 3 _ rfl
      rw [List.getElem?_eq_getElem (by omega)] at g0 g1 g2 g3
      rw [cells_it] at g0 g1 g2 g3
      match cs', hcl with
      | [c0, c1, c2, c3], _ =>
        obtain ⟨p0, rfl⟩ := open_one64 (u := c0) g0
        obtain ⟨p1, rfl⟩ := open_one64 (u := c1) g1
        obtain ⟨p2, rfl⟩ := open_one64 (u := c2) g2
        obtain ⟨p3, rfl⟩ := open_one64 (u := c3) g3
        have e0 := hat 0 (by omega)
        have e1 := hat 1 (by omega)
        have e2 := hat 2 (by omega)
        have e3 := hat 3 (by omega)
        rw [Go.Deep.add_add] at e0 e1 e2 e3
        refine ⟨⟨p0, p1, p2, p3⟩, fun q hq => ?_⟩
        rcases (by omega : q = 0 ∨ q = 1 ∨ q = 2 ∨ q = 3) with rfl | rfl | rfl | rfl
        · simpa [brkF] using e0
        · simpa [brkF] using e1
        · simpa [brkF] using e2
        · simpa [brkF] using e3
    have inh : Inhabited Brk := ⟨⟨0, 0, 0, 0⟩⟩
    obtain ⟨G, hG⟩ := choose_lt hel
    refine ⟨some a, cap, (List.range len).map G, by simp, by simpa using hl, hm, fun h0 => ?_⟩
    have h0' : 0 < len := by simpa using h0
    obtain ⟨b, off, rfl, hlt⟩ := add_spot (by simpa using hG 0 h0' 0 (by omega))
    refine ⟨b, off, rfl, hlt, fun j q hj i hi2 => ?_⟩
    have hjl : j < len := by have := (List.getElem?_eq_some_iff.1 hj).1; simpa using this
    rw [List.getElem?_map, List.getElem?_range hjl] at hj
    injection hj with hj
    subst hj
    have e := hG j hjl i hi2
    rw [plain_add] at e
    rw [Nat.add_assoc]
    exact e
theorem cells_Loop : Tryz.prog.cellsOf 58 = 2 := by kernel_rfl
theorem cells_sLoop : Tryz.prog.cellsOf 24 = 1 := by kernel_rfl
theorem open_sLoop {fuel : Nat} {x : DataW H × List MemPlace} (hf : DataW.trod enc Tryz.prog W base spare held fuel 24 [v] = some x) : ∃ (A : Option Addr) (c : Nat) (l : List Lp), v = .slice A l.length c ∧ Rw 2 lpF W A c l := by
  rcases open_slice Tryz.underlying24 hf with ⟨h0, _⟩ | ⟨a, len, cap, m, n, D, Pl, hcs, hb, hl, hm, hmm, hx, hi⟩
  · simp at h0
    subst h0
    exact ⟨none, 0, [], rfl, Rw.nil _ _⟩
  · simp at hcs
    subst hcs
    have hel : ∀ i, i < len → ∃ y : Lp, ∀ q, q < 2 → W.cell? (a.add (i * 2 + q)) = some (.int .i64 (lpF y q)) := by
      intro i him
      obtain ⟨cs', hc, ht'⟩ := hi i (by rw [hmm]; split <;> omega)
      rw [cells_Loop] at hc
      obtain ⟨_, hcl, hat⟩ := World.cells?_some hc
      obtain ⟨xs, k, -, -, -, hxl, hg⟩ := DataW.trod_struct Tryz.underlying58 ht'
      have hxl' : xs.length = 2 := hxl
      have g0 : DataW.trod enc Tryz.prog W base spare held k 3 ((cs'.drop 0).take (Tryz.prog.cellsOf 3)) = xs[0]? := hg 0 _ rfl
      have g1 : DataW.trod enc Tryz.prog W base spare held k 3 ((cs'.drop 1).take (Tryz.prog.cellsOf 3)) = xs[1]? := hg 1 _ rfl
      rw [List.getElem?_eq_getElem (by omega)] at g0 g1
      rw [cells_it] at g0 g1
      match cs', hcl with
      | [c0, c1], _ =>
        obtain ⟨p0, rfl⟩ := open_one64 (u := c0) g0
        obtain ⟨p1, rfl⟩ := open_one64 (u := c1) g1
        have e0 := hat 0 (by omega)
        have e1 := hat 1 (by omega)
        rw [Go.Deep.add_add] at e0 e1
        refine ⟨⟨p0, p1⟩, fun q hq => ?_⟩
        rcases (by omega : q = 0 ∨ q = 1) with rfl | rfl
        · simpa [lpF] using e0
        · simpa [lpF] using e1
    have inh : Inhabited Lp := ⟨⟨0, 0⟩⟩
    obtain ⟨G, hG⟩ := choose_lt hel
    refine ⟨some a, cap, (List.range len).map G, by simp, by simpa using hl, hm, fun h0 => ?_⟩
    have h0' : 0 < len := by simpa using h0
    obtain ⟨b, off, rfl, hlt⟩ := add_spot (by simpa using hG 0 h0' 0 (by omega))
    refine ⟨b, off, rfl, hlt, fun j q hj i hi2 => ?_⟩
    have hjl : j < len := by have := (List.getElem?_eq_some_iff.1 hj).1; simpa using this
    rw [List.getElem?_map, List.getElem?_range hjl] at hj
    injection hj with hj
    subst hj
    have e := hG j hjl i hi2
    rw [plain_add] at e
    rw [Nat.add_assoc]
    exact e
theorem cells_Rack : Tryz.prog.cellsOf 69 = 4 := by kernel_rfl
theorem cells_sRack : Tryz.prog.cellsOf 25 = 1 := by kernel_rfl
theorem open_sRack {fuel : Nat} {x : DataW H × List MemPlace} (hf : DataW.trod enc Tryz.prog W base spare held fuel 25 [v] = some x) : ∃ (A : Option Addr) (c : Nat) (l : List Rk), v = .slice A l.length c ∧ Rw 4 rkF W A c l := by
  rcases open_slice Tryz.underlying25 hf with ⟨h0, _⟩ | ⟨a, len, cap, m, n, D, Pl, hcs, hb, hl, hm, hmm, hx, hi⟩
  · simp at h0
    subst h0
    exact ⟨none, 0, [], rfl, Rw.nil _ _⟩
  · simp at hcs
    subst hcs
    have hel : ∀ i, i < len → ∃ y : Rk, ∀ q, q < 4 → W.cell? (a.add (i * 4 + q)) = some (.int .i64 (rkF y q)) := by
      intro i him
      obtain ⟨cs', hc, ht'⟩ := hi i (by rw [hmm]; split <;> omega)
      rw [cells_Rack] at hc
      obtain ⟨_, hcl, hat⟩ := World.cells?_some hc
      obtain ⟨xs, k, -, -, -, hxl, hg⟩ := DataW.trod_struct Tryz.underlying69 ht'
      have hxl' : xs.length = 4 := hxl
      have g0 : DataW.trod enc Tryz.prog W base spare held k 3 ((cs'.drop 0).take (Tryz.prog.cellsOf 3)) = xs[0]? := hg 0 _ rfl
      have g1 : DataW.trod enc Tryz.prog W base spare held k 3 ((cs'.drop 1).take (Tryz.prog.cellsOf 3)) = xs[1]? := hg 1 _ rfl
      have g2 : DataW.trod enc Tryz.prog W base spare held k 3 ((cs'.drop 2).take (Tryz.prog.cellsOf 3)) = xs[2]? := hg 2 _ rfl
      have g3 : DataW.trod enc Tryz.prog W base spare held k 3 ((cs'.drop 3).take (Tryz.prog.cellsOf 3)) = xs[3]? := hg 3 _ rfl
      rw [List.getElem?_eq_getElem (by omega)] at g0 g1 g2 g3
      rw [cells_it] at g0 g1 g2 g3
      match cs', hcl with
      | [c0, c1, c2, c3], _ =>
        obtain ⟨p0, rfl⟩ := open_one64 (u := c0) g0
        obtain ⟨p1, rfl⟩ := open_one64 (u := c1) g1
        obtain ⟨p2, rfl⟩ := open_one64 (u := c2) g2
        obtain ⟨p3, rfl⟩ := open_one64 (u := c3) g3
        have e0 := hat 0 (by omega)
        have e1 := hat 1 (by omega)
        have e2 := hat 2 (by omega)
        have e3 := hat 3 (by omega)
        rw [Go.Deep.add_add] at e0 e1 e2 e3
        refine ⟨⟨p0, p1, p2, p3⟩, fun q hq => ?_⟩
        rcases (by omega : q = 0 ∨ q = 1 ∨ q = 2 ∨ q = 3) with rfl | rfl | rfl | rfl
        · simpa [rkF] using e0
        · simpa [rkF] using e1
        · simpa [rkF] using e2
        · simpa [rkF] using e3
    have inh : Inhabited Rk := ⟨⟨0, 0, 0, 0⟩⟩
    obtain ⟨G, hG⟩ := choose_lt hel
    refine ⟨some a, cap, (List.range len).map G, by simp, by simpa using hl, hm, fun h0 => ?_⟩
    have h0' : 0 < len := by simpa using h0
    obtain ⟨b, off, rfl, hlt⟩ := add_spot (by simpa using hG 0 h0' 0 (by omega))
    refine ⟨b, off, rfl, hlt, fun j q hj i hi2 => ?_⟩
    have hjl : j < len := by have := (List.getElem?_eq_some_iff.1 hj).1; simpa using this
    rw [List.getElem?_map, List.getElem?_range hjl] at hj
    injection hj with hj
    subst hj
    have e := hG j hjl i hi2
    rw [plain_add] at e
    rw [Nat.add_assoc]
    exact e
theorem cells_Link : Tryz.prog.cellsOf 111 = 3 := by kernel_rfl
theorem cells_sLink : Tryz.prog.cellsOf 26 = 1 := by kernel_rfl
theorem open_sLink {fuel : Nat} {x : DataW H × List MemPlace} (hf : DataW.trod enc Tryz.prog W base spare held fuel 26 [v] = some x) : ∃ (A : Option Addr) (c : Nat) (l : List Lk), v = .slice A l.length c ∧ Rw 3 lkF W A c l := by
  rcases open_slice Tryz.underlying26 hf with ⟨h0, _⟩ | ⟨a, len, cap, m, n, D, Pl, hcs, hb, hl, hm, hmm, hx, hi⟩
  · simp at h0
    subst h0
    exact ⟨none, 0, [], rfl, Rw.nil _ _⟩
  · simp at hcs
    subst hcs
    have hel : ∀ i, i < len → ∃ y : Lk, ∀ q, q < 3 → W.cell? (a.add (i * 3 + q)) = some (.int .i64 (lkF y q)) := by
      intro i him
      obtain ⟨cs', hc, ht'⟩ := hi i (by rw [hmm]; split <;> omega)
      rw [cells_Link] at hc
      obtain ⟨_, hcl, hat⟩ := World.cells?_some hc
      obtain ⟨xs, k, -, -, -, hxl, hg⟩ := DataW.trod_struct Tryz.underlying111 ht'
      have hxl' : xs.length = 3 := hxl
      have g0 : DataW.trod enc Tryz.prog W base spare held k 3 ((cs'.drop 0).take (Tryz.prog.cellsOf 3)) = xs[0]? := hg 0 _ rfl
      have g1 : DataW.trod enc Tryz.prog W base spare held k 3 ((cs'.drop 1).take (Tryz.prog.cellsOf 3)) = xs[1]? := hg 1 _ rfl
      have g2 : DataW.trod enc Tryz.prog W base spare held k 3 ((cs'.drop 2).take (Tryz.prog.cellsOf 3)) = xs[2]? := hg 2 _ rfl
      rw [List.getElem?_eq_getElem (by omega)] at g0 g1 g2
      rw [cells_it] at g0 g1 g2
      match cs', hcl with
      | [c0, c1, c2], _ =>
        obtain ⟨p0, rfl⟩ := open_one64 (u := c0) g0
        obtain ⟨p1, rfl⟩ := open_one64 (u := c1) g1
        obtain ⟨p2, rfl⟩ := open_one64 (u := c2) g2
        have e0 := hat 0 (by omega)
        have e1 := hat 1 (by omega)
        have e2 := hat 2 (by omega)
        rw [Go.Deep.add_add] at e0 e1 e2
        refine ⟨⟨p0, p1, p2⟩, fun q hq => ?_⟩
        rcases (by omega : q = 0 ∨ q = 1 ∨ q = 2) with rfl | rfl | rfl
        · simpa [lkF] using e0
        · simpa [lkF] using e1
        · simpa [lkF] using e2
    have inh : Inhabited Lk := ⟨⟨0, 0, 0⟩⟩
    obtain ⟨G, hG⟩ := choose_lt hel
    refine ⟨some a, cap, (List.range len).map G, by simp, by simpa using hl, hm, fun h0 => ?_⟩
    have h0' : 0 < len := by simpa using h0
    obtain ⟨b, off, rfl, hlt⟩ := add_spot (by simpa using hG 0 h0' 0 (by omega))
    refine ⟨b, off, rfl, hlt, fun j q hj i hi2 => ?_⟩
    have hjl : j < len := by have := (List.getElem?_eq_some_iff.1 hj).1; simpa using this
    rw [List.getElem?_map, List.getElem?_range hjl] at hj
    injection hj with hj
    subst hj
    have e := hG j hjl i hi2
    rw [plain_add] at e
    rw [Nat.add_assoc]
    exact e
theorem cells_Host : Tryz.prog.cellsOf 71 = 4 := by kernel_rfl
theorem cells_sHost : Tryz.prog.cellsOf 27 = 1 := by kernel_rfl
theorem open_sHost {fuel : Nat} {x : DataW H × List MemPlace} (hf : DataW.trod enc Tryz.prog W base spare held fuel 27 [v] = some x) : ∃ (A : Option Addr) (c : Nat) (l : List Hs), v = .slice A l.length c ∧ Rw 4 hsF W A c l := by
  rcases open_slice Tryz.underlying27 hf with ⟨h0, _⟩ | ⟨a, len, cap, m, n, D, Pl, hcs, hb, hl, hm, hmm, hx, hi⟩
  · simp at h0
    subst h0
    exact ⟨none, 0, [], rfl, Rw.nil _ _⟩
  · simp at hcs
    subst hcs
    have hel : ∀ i, i < len → ∃ y : Hs, ∀ q, q < 4 → W.cell? (a.add (i * 4 + q)) = some (.int .i64 (hsF y q)) := by
      intro i him
      obtain ⟨cs', hc, ht'⟩ := hi i (by rw [hmm]; split <;> omega)
      rw [cells_Host] at hc
      obtain ⟨_, hcl, hat⟩ := World.cells?_some hc
      obtain ⟨xs, k, -, -, -, hxl, hg⟩ := DataW.trod_struct Tryz.underlying71 ht'
      have hxl' : xs.length = 4 := hxl
      have g0 : DataW.trod enc Tryz.prog W base spare held k 3 ((cs'.drop 0).take (Tryz.prog.cellsOf 3)) = xs[0]? := hg 0 _ rfl
      have g1 : DataW.trod enc Tryz.prog W base spare held k 3 ((cs'.drop 1).take (Tryz.prog.cellsOf 3)) = xs[1]? := hg 1 _ rfl
      have g2 : DataW.trod enc Tryz.prog W base spare held k 3 ((cs'.drop 2).take (Tryz.prog.cellsOf 3)) = xs[2]? := hg 2 _ rfl
      have g3 : DataW.trod enc Tryz.prog W base spare held k 3 ((cs'.drop 3).take (Tryz.prog.cellsOf 3)) = xs[3]? := hg 3 _ rfl
      rw [List.getElem?_eq_getElem (by omega)] at g0 g1 g2 g3
      rw [cells_it] at g0 g1 g2 g3
      match cs', hcl with
      | [c0, c1, c2, c3], _ =>
        obtain ⟨p0, rfl⟩ := open_one64 (u := c0) g0
        obtain ⟨p1, rfl⟩ := open_one64 (u := c1) g1
        obtain ⟨p2, rfl⟩ := open_one64 (u := c2) g2
        obtain ⟨p3, rfl⟩ := open_one64 (u := c3) g3
        have e0 := hat 0 (by omega)
        have e1 := hat 1 (by omega)
        have e2 := hat 2 (by omega)
        have e3 := hat 3 (by omega)
        rw [Go.Deep.add_add] at e0 e1 e2 e3
        refine ⟨⟨p0, p1, p2, p3⟩, fun q hq => ?_⟩
        rcases (by omega : q = 0 ∨ q = 1 ∨ q = 2 ∨ q = 3) with rfl | rfl | rfl | rfl
        · simpa [hsF] using e0
        · simpa [hsF] using e1
        · simpa [hsF] using e2
        · simpa [hsF] using e3
    have inh : Inhabited Hs := ⟨⟨0, 0, 0, 0⟩⟩
    obtain ⟨G, hG⟩ := choose_lt hel
    refine ⟨some a, cap, (List.range len).map G, by simp, by simpa using hl, hm, fun h0 => ?_⟩
    have h0' : 0 < len := by simpa using h0
    obtain ⟨b, off, rfl, hlt⟩ := add_spot (by simpa using hG 0 h0' 0 (by omega))
    refine ⟨b, off, rfl, hlt, fun j q hj i hi2 => ?_⟩
    have hjl : j < len := by have := (List.getElem?_eq_some_iff.1 hj).1; simpa using this
    rw [List.getElem?_map, List.getElem?_range hjl] at hj
    injection hj with hj
    subst hj
    have e := hG j hjl i hi2
    rw [plain_add] at e
    rw [Nat.add_assoc]
    exact e
theorem open_site (h : DataW.Trod enc Tryz.prog W base spare held 29 v d p) (hv : Value.okWide Tryz.prog W r b0 29 v) : ∃ (q : SP) (s : SiteD), v = siV q s ∧ SiAt W q s := by
  obtain ⟨⟨l⟩, rfl, hsz⟩ := okWide_struct Tryz.underlying29 hv
  obtain ⟨fuel, hf⟩ := h
  obtain ⟨xs, k, -, -, -, hl, hg⟩ := DataW.trod_struct Tryz.underlying29 hf
  have hlen : l.length = 7 := hsz.trans cells_site
  have hxl : xs.length = 7 := hl
  have g0 : DataW.trod enc Tryz.prog W base spare held k 22 ((l.drop 0).take (Tryz.prog.cellsOf 22)) = xs[0]? := hg 0 _ rfl
  have g1 : DataW.trod enc Tryz.prog W base spare held k 23 ((l.drop 1).take (Tryz.prog.cellsOf 23)) = xs[1]? := hg 1 _ rfl
  have g2 : DataW.trod enc Tryz.prog W base spare held k 24 ((l.drop 2).take (Tryz.prog.cellsOf 24)) = xs[2]? := hg 2 _ rfl
  have g3 : DataW.trod enc Tryz.prog W base spare held k 25 ((l.drop 3).take (Tryz.prog.cellsOf 25)) = xs[3]? := hg 3 _ rfl
  have g4 : DataW.trod enc Tryz.prog W base spare held k 3 ((l.drop 4).take (Tryz.prog.cellsOf 3)) = xs[4]? := hg 4 _ rfl
  have g5 : DataW.trod enc Tryz.prog W base spare held k 26 ((l.drop 5).take (Tryz.prog.cellsOf 26)) = xs[5]? := hg 5 _ rfl
  have g6 : DataW.trod enc Tryz.prog W base spare held k 27 ((l.drop 6).take (Tryz.prog.cellsOf 27)) = xs[6]? := hg 6 _ rfl
  rw [List.getElem?_eq_getElem (by omega)] at g0 g1 g2 g3 g4 g5 g6
  rw [cells_sFeed] at g0
  rw [cells_sBreaker] at g1
  rw [cells_sLoop] at g2
  rw [cells_sRack] at g3
  rw [cells_it] at g4
  rw [cells_sLink] at g5
  rw [cells_sHost] at g6
  match l, hlen with
  | [c0, c1, c2, c3, c4, c5, c6], _ =>
    obtain ⟨A1, k1, l1, rfl, h1⟩ := open_sFeed (v := c0) g0
    obtain ⟨A2, k2, l2, rfl, h2⟩ := open_sBreaker (v := c1) g1
    obtain ⟨A3, k3, l3, rfl, h3⟩ := open_sLoop (v := c2) g2
    obtain ⟨A4, k4, l4, rfl, h4⟩ := open_sRack (v := c3) g3
    obtain ⟨n, rfl⟩ := open_one64 (u := c4) g4
    obtain ⟨A5, k5, l5, rfl, h5⟩ := open_sLink (v := c5) g5
    obtain ⟨A6, k6, l6, rfl, h6⟩ := open_sHost (v := c6) g6
    exact ⟨⟨A1, k1, A2, k2, A3, k3, A4, k4, A5, k5, A6, k6⟩, ⟨l1, l2, l3, l4, n, l5, l6⟩, rfl, h1, h2, h3, h4, h5, h6⟩
end
end Go.Proofs.YtpokpgnclohiiaaGreat

namespace Go.Proofs.YtpokpgnclohiiaaGreat
open Go.ChangeShapes Go.WideShapes Go.Deep Go.RowKit
set_option maxRecDepth 100000
set_option linter.unusedSimpArgs false
set_option linter.unusedVariables false

theorem cells_ph : Tryz.prog.cellsOf 81 = 1 := by kernel_rfl
theorem cells_dm : Tryz.prog.cellsOf 64 = 1 := by kernel_rfl
theorem cells_world : Tryz.prog.cellsOf 36 = 2 := by kernel_rfl
theorem cells_wish : Tryz.prog.cellsOf 32 = 1 := by kernel_rfl
theorem cells_sint : Tryz.prog.cellsOf 49 = 1 := by kernel_rfl
section
variable {H : Type} {enc : TypeId × Value → H} {W : World} {base : Nat} {spare : Nat → Bool} {held : Bool} {r : Go.Reach} {b0 : Nat} {v : Value} {d : DataW H} {p : List MemPlace}
theorem open_oneP {fuel : Nat} {x : DataW H × List MemPlace} {u : Value} (hf : DataW.trod enc Tryz.prog W base spare held fuel 81 [u] = some x) : ∃ n : Nat, u = .int .u8 (n : Int) ∧ n < 256 := by
  obtain ⟨n, g, -, hw⟩ := DataW.trod_int Tryz.underlying81 hf
  simp at g
  obtain ⟨m, rfl, hm⟩ := u8_wf hw
  exact ⟨m, g, hm⟩
theorem open_oneD {fuel : Nat} {x : DataW H × List MemPlace} {u : Value} (hf : DataW.trod enc Tryz.prog W base spare held fuel 64 [u] = some x) : ∃ n : Nat, u = .int .u8 (n : Int) ∧ n < 256 := by
  obtain ⟨n, g, -, hw⟩ := DataW.trod_int Tryz.underlying64 hf
  simp at g
  obtain ⟨m, rfl, hm⟩ := u8_wf hw
  exact ⟨m, g, hm⟩
/-- Numbers. -/
theorem open_sInt {fuel : Nat} {x : DataW H × List MemPlace} (hf : DataW.trod enc Tryz.prog W base spare held fuel 49 [v] = some x) : ∃ (A : Option Addr) (c : Nat) (l : List Int), v = .slice A l.length c ∧ Rv 1 inV W A c l := by
  rcases open_slice Tryz.underlying49 hf with ⟨h0, _⟩ | ⟨a, len, cap, m, n, D, Pl, hcs, hb, hl, hm, hmm, hx, hi⟩
  · simp at h0
    subst h0
    exact ⟨none, 0, [], rfl, Rv.nil _⟩
  · simp at hcs
    subst hcs
    have hel : ∀ i, i < len → ∃ y : Int, W.cell? (a.add (i * 1)) = some (.int .i64 y) := by
      intro i him
      obtain ⟨cs', hc, ht'⟩ := hi i (by rw [hmm]; split <;> omega)
      rw [cells_it] at hc
      obtain ⟨_, hcl, hat⟩ := World.cells?_some hc
      match cs', hcl with
      | [c0], _ =>
        obtain ⟨p0, rfl⟩ := open_one64 (u := c0) ht'
        have e0 := hat 0 (by omega)
        rw [Go.Deep.add_add] at e0
        exact ⟨p0, by simpa using e0⟩
    obtain ⟨G, hG⟩ := choose_lt hel
    refine ⟨some a, cap, (List.range len).map G, by simp, by simpa using hl, hm, (by intro h; cases h), fun h0 => ?_⟩
    have h0' : 0 < len := by simpa using h0
    obtain ⟨b, off, rfl, hlt⟩ := add_spot (by simpa using hG 0 h0')
    refine ⟨b, off, rfl, hlt, fun j q hj i hi2 => ?_⟩
    have hjl : j < len := by have := (List.getElem?_eq_some_iff.1 hj).1; simpa using this
    rw [List.getElem?_map, List.getElem?_range hjl] at hj
    injection hj with hj
    subst hj
    obtain rfl : i = 0 := by omega
    have e := hG j hjl
    rw [plain_add] at e
    exact e
theorem cells_Near : Tryz.prog.cellsOf 120 = 2 := by kernel_rfl
theorem cells_sNear : Tryz.prog.cellsOf 90 = 1 := by kernel_rfl
theorem open_sNear {fuel : Nat} {x : DataW H × List MemPlace} (hf : DataW.trod enc Tryz.prog W base spare held fuel 90 [v] = some x) : ∃ (A : Option Addr) (c : Nat) (l : List Nr), v = .slice A l.length c ∧ Rv 2 nrV W A c l := by
  rcases open_slice Tryz.underlying90 hf with ⟨h0, _⟩ | ⟨a, len, cap, m, n, D, Pl, hcs, hb, hl, hm, hmm, hx, hi⟩
  · simp at h0
    subst h0
    exact ⟨none, 0, [], rfl, Rv.nil _⟩
  · simp at hcs
    subst hcs
    have hel : ∀ i, i < len → ∃ y : Nr, (∀ q, q < 2 → W.cell? (a.add (i * 2 + q)) = some (nrV y q)) := by
      intro i him
      obtain ⟨cs', hc, ht'⟩ := hi i (by rw [hmm]; split <;> omega)
      rw [cells_Near] at hc
      obtain ⟨_, hcl, hat⟩ := World.cells?_some hc
      obtain ⟨xs, k, -, -, -, hxl, hg⟩ := DataW.trod_struct Tryz.underlying120 ht'
      have hxl' : xs.length = 2 := hxl
      have g0 : DataW.trod enc Tryz.prog W base spare held k 3 ((cs'.drop 0).take (Tryz.prog.cellsOf 3)) = xs[0]? := hg 0 _ rfl
      have g1 : DataW.trod enc Tryz.prog W base spare held k 3 ((cs'.drop 1).take (Tryz.prog.cellsOf 3)) = xs[1]? := hg 1 _ rfl
      rw [List.getElem?_eq_getElem (by omega)] at g0 g1
      rw [cells_it] at g0
      rw [cells_it] at g1
      match cs', hcl with
      | [c0, c1], _ =>
        obtain ⟨p0, rfl⟩ := open_one64 (u := c0) g0
        obtain ⟨p1, rfl⟩ := open_one64 (u := c1) g1
        have e0 := hat 0 (by omega)
        have e1 := hat 1 (by omega)
        rw [Go.Deep.add_add] at e0 e1
        refine ⟨⟨p0, p1⟩, fun q hq => ?_⟩
        rcases (by omega : q = 0 ∨ q = 1) with rfl | rfl
        · simpa [nrV] using e0
        · simpa [nrV] using e1
    have inh : Inhabited Nr := ⟨⟨0, 0⟩⟩
    obtain ⟨G, hG⟩ := choose_lt hel
    refine ⟨some a, cap, (List.range len).map G, by simp, ⟨by simpa using hl, hm, (by intro h; cases h), fun h0 => ?_⟩⟩
    have h0' : 0 < len := by simpa using h0
    obtain ⟨b, off, rfl, hlt⟩ := add_spot (by simpa using hG 0 h0' 0 (by omega))
    refine ⟨b, off, rfl, hlt, fun j q hj i hi2 => ?_⟩
    have hjl : j < len := by have := (List.getElem?_eq_some_iff.1 hj).1; simpa using this
    rw [List.getElem?_map, List.getElem?_range hjl] at hj
    injection hj with hj
    subst hj
    have e := hG j hjl i hi2
    rw [plain_add] at e
    rw [Nat.add_assoc]
    exact e
theorem cells_Replica : Tryz.prog.cellsOf 85 = 2 := by kernel_rfl
theorem cells_sReplica : Tryz.prog.cellsOf 34 = 1 := by kernel_rfl
theorem open_sReplica {fuel : Nat} {x : DataW H × List MemPlace} (hf : DataW.trod enc Tryz.prog W base spare held fuel 34 [v] = some x) : ∃ (A : Option Addr) (c : Nat) (l : List Rep), v = .slice A l.length c ∧ Rv 2 repV W A c l := by
  rcases open_slice Tryz.underlying34 hf with ⟨h0, _⟩ | ⟨a, len, cap, m, n, D, Pl, hcs, hb, hl, hm, hmm, hx, hi⟩
  · simp at h0
    subst h0
    exact ⟨none, 0, [], rfl, Rv.nil _⟩
  · simp at hcs
    subst hcs
    have hel : ∀ i, i < len → ∃ y : Rep, (∀ q, q < 2 → W.cell? (a.add (i * 2 + q)) = some (repV y q)) := by
      intro i him
      obtain ⟨cs', hc, ht'⟩ := hi i (by rw [hmm]; split <;> omega)
      rw [cells_Replica] at hc
      obtain ⟨_, hcl, hat⟩ := World.cells?_some hc
      obtain ⟨xs, k, -, -, -, hxl, hg⟩ := DataW.trod_struct Tryz.underlying85 ht'
      have hxl' : xs.length = 2 := hxl
      have g0 : DataW.trod enc Tryz.prog W base spare held k 3 ((cs'.drop 0).take (Tryz.prog.cellsOf 3)) = xs[0]? := hg 0 _ rfl
      have g1 : DataW.trod enc Tryz.prog W base spare held k 3 ((cs'.drop 1).take (Tryz.prog.cellsOf 3)) = xs[1]? := hg 1 _ rfl
      rw [List.getElem?_eq_getElem (by omega)] at g0 g1
      rw [cells_it] at g0
      rw [cells_it] at g1
      match cs', hcl with
      | [c0, c1], _ =>
        obtain ⟨p0, rfl⟩ := open_one64 (u := c0) g0
        obtain ⟨p1, rfl⟩ := open_one64 (u := c1) g1
        have e0 := hat 0 (by omega)
        have e1 := hat 1 (by omega)
        rw [Go.Deep.add_add] at e0 e1
        refine ⟨⟨p0, p1⟩, fun q hq => ?_⟩
        rcases (by omega : q = 0 ∨ q = 1) with rfl | rfl
        · simpa [repV] using e0
        · simpa [repV] using e1
    have inh : Inhabited Rep := ⟨⟨0, 0⟩⟩
    obtain ⟨G, hG⟩ := choose_lt hel
    refine ⟨some a, cap, (List.range len).map G, by simp, ⟨by simpa using hl, hm, (by intro h; cases h), fun h0 => ?_⟩⟩
    have h0' : 0 < len := by simpa using h0
    obtain ⟨b, off, rfl, hlt⟩ := add_spot (by simpa using hG 0 h0' 0 (by omega))
    refine ⟨b, off, rfl, hlt, fun j q hj i hi2 => ?_⟩
    have hjl : j < len := by have := (List.getElem?_eq_some_iff.1 hj).1; simpa using this
    rw [List.getElem?_map, List.getElem?_range hjl] at hj
    injection hj with hj
    subst hj
    have e := hG j hjl i hi2
    rw [plain_add] at e
    rw [Nat.add_assoc]
    exact e
theorem cells_HostState : Tryz.prog.cellsOf 83 = 2 := by kernel_rfl
theorem cells_sHostState : Tryz.prog.cellsOf 33 = 1 := by kernel_rfl
theorem open_sHostState {fuel : Nat} {x : DataW H × List MemPlace} (hf : DataW.trod enc Tryz.prog W base spare held fuel 33 [v] = some x) : ∃ (A : Option Addr) (c : Nat) (l : List Hst), v = .slice A l.length c ∧ Rv 2 hstV W A c l ∧ ∀ h ∈ l, h.phase < 256 := by
  rcases open_slice Tryz.underlying33 hf with ⟨h0, _⟩ | ⟨a, len, cap, m, n, D, Pl, hcs, hb, hl, hm, hmm, hx, hi⟩
  · simp at h0
    subst h0
    exact ⟨none, 0, [], rfl, Rv.nil _, by simp⟩
  · simp at hcs
    subst hcs
    have hel : ∀ i, i < len → ∃ y : Hst, (∀ q, q < 2 → W.cell? (a.add (i * 2 + q)) = some (hstV y q)) ∧ y.phase < 256 := by
      intro i him
      obtain ⟨cs', hc, ht'⟩ := hi i (by rw [hmm]; split <;> omega)
      rw [cells_HostState] at hc
      obtain ⟨_, hcl, hat⟩ := World.cells?_some hc
      obtain ⟨xs, k, -, -, -, hxl, hg⟩ := DataW.trod_struct Tryz.underlying83 ht'
      have hxl' : xs.length = 2 := hxl
      have g0 : DataW.trod enc Tryz.prog W base spare held k 81 ((cs'.drop 0).take (Tryz.prog.cellsOf 81)) = xs[0]? := hg 0 _ rfl
      have g1 : DataW.trod enc Tryz.prog W base spare held k 3 ((cs'.drop 1).take (Tryz.prog.cellsOf 3)) = xs[1]? := hg 1 _ rfl
      rw [List.getElem?_eq_getElem (by omega)] at g0 g1
      rw [cells_ph] at g0
      rw [cells_it] at g1
      match cs', hcl with
      | [c0, c1], _ =>
        obtain ⟨p0, rfl, hp⟩ := open_oneP (u := c0) g0
        obtain ⟨p1, rfl⟩ := open_one64 (u := c1) g1
        have e0 := hat 0 (by omega)
        have e1 := hat 1 (by omega)
        rw [Go.Deep.add_add] at e0 e1
        refine ⟨⟨p0, p1⟩, ⟨fun q hq => ?_, hp⟩⟩
        rcases (by omega : q = 0 ∨ q = 1) with rfl | rfl
        · simpa [hstV] using e0
        · simpa [hstV] using e1
    have inh : Inhabited Hst := ⟨⟨0, 0⟩⟩
    obtain ⟨G, hG⟩ := choose_lt hel
    refine ⟨some a, cap, (List.range len).map G, by simp, ⟨⟨by simpa using hl, hm, (by intro h; cases h), fun h0 => ?_⟩, fun h hh => ?_⟩⟩
    · have h0' : 0 < len := by simpa using h0
      obtain ⟨b, off, rfl, hlt⟩ := add_spot (by simpa using (hG 0 h0').1 0 (by omega))
      refine ⟨b, off, rfl, hlt, fun j q hj i hi2 => ?_⟩
      have hjl : j < len := by have := (List.getElem?_eq_some_iff.1 hj).1; simpa using this
      rw [List.getElem?_map, List.getElem?_range hjl] at hj
      injection hj with hj
      subst hj
      have e := (hG j hjl).1 i hi2
      rw [plain_add] at e
      rw [Nat.add_assoc]
      exact e
    · obtain ⟨i, hi2, rfl⟩ := List.mem_map.1 hh
      exact (hG i (List.mem_range.1 hi2)).2
theorem cells_Service : Tryz.prog.cellsOf 92 = 8 := by kernel_rfl
theorem cells_sService : Tryz.prog.cellsOf 30 = 1 := by kernel_rfl
theorem open_sService {fuel : Nat} {x : DataW H × List MemPlace} (hf : DataW.trod enc Tryz.prog W base spare held fuel 30 [v] = some x) : ∃ (A : Option Addr) (c : Nat) (l : List (Svc × SvA)), v = .slice A l.length c ∧ WiAt W A c l := by
  rcases open_slice Tryz.underlying30 hf with ⟨h0, _⟩ | ⟨a, len, cap, m, n, D, Pl, hcs, hb, hl, hm, hmm, hx, hi⟩
  · simp at h0
    subst h0
    exact ⟨none, 0, [], rfl, ⟨Rv.nil _, fun x hx => by cases hx⟩⟩
  · simp at hcs
    subst hcs
    have hel : ∀ i, i < len → ∃ y : Svc × SvA, (∀ q, q < 8 → W.cell? (a.add (i * 8 + q)) = some (svV y q)) ∧ SvAt W y := by
      intro i him
      obtain ⟨cs', hc, ht'⟩ := hi i (by rw [hmm]; split <;> omega)
      rw [cells_Service] at hc
      obtain ⟨_, hcl, hat⟩ := World.cells?_some hc
      obtain ⟨xs, k, -, -, -, hxl, hg⟩ := DataW.trod_struct Tryz.underlying92 ht'
      have hxl' : xs.length = 8 := hxl
      have g0 : DataW.trod enc Tryz.prog W base spare held k 3 ((cs'.drop 0).take (Tryz.prog.cellsOf 3)) = xs[0]? := hg 0 _ rfl
      have g1 : DataW.trod enc Tryz.prog W base spare held k 3 ((cs'.drop 1).take (Tryz.prog.cellsOf 3)) = xs[1]? := hg 1 _ rfl
      have g2 : DataW.trod enc Tryz.prog W base spare held k 3 ((cs'.drop 2).take (Tryz.prog.cellsOf 3)) = xs[2]? := hg 2 _ rfl
      have g3 : DataW.trod enc Tryz.prog W base spare held k 64 ((cs'.drop 3).take (Tryz.prog.cellsOf 64)) = xs[3]? := hg 3 _ rfl
      have g4 : DataW.trod enc Tryz.prog W base spare held k 3 ((cs'.drop 4).take (Tryz.prog.cellsOf 3)) = xs[4]? := hg 4 _ rfl
      have g5 : DataW.trod enc Tryz.prog W base spare held k 49 ((cs'.drop 5).take (Tryz.prog.cellsOf 49)) = xs[5]? := hg 5 _ rfl
      have g6 : DataW.trod enc Tryz.prog W base spare held k 90 ((cs'.drop 6).take (Tryz.prog.cellsOf 90)) = xs[6]? := hg 6 _ rfl
      have g7 : DataW.trod enc Tryz.prog W base spare held k 3 ((cs'.drop 7).take (Tryz.prog.cellsOf 3)) = xs[7]? := hg 7 _ rfl
      rw [List.getElem?_eq_getElem (by omega)] at g0 g1 g2 g3 g4 g5 g6 g7
      rw [cells_it] at g0
      rw [cells_it] at g1
      rw [cells_it] at g2
      rw [cells_dm] at g3
      rw [cells_it] at g4
      rw [cells_sint] at g5
      rw [cells_sNear] at g6
      rw [cells_it] at g7
      match cs', hcl with
      | [c0, c1, c2, c3, c4, c5, c6, c7], _ =>
        obtain ⟨p0, rfl⟩ := open_one64 (u := c0) g0
        obtain ⟨p1, rfl⟩ := open_one64 (u := c1) g1
        obtain ⟨p2, rfl⟩ := open_one64 (u := c2) g2
        obtain ⟨p3, rfl, hp⟩ := open_oneD (u := c3) g3
        obtain ⟨p4, rfl⟩ := open_one64 (u := c4) g4
        obtain ⟨A5, k5, p5, rfl, h5⟩ := open_sInt (v := c5) g5
        obtain ⟨A6, k6, p6, rfl, h6⟩ := open_sNear (v := c6) g6
        obtain ⟨p7, rfl⟩ := open_one64 (u := c7) g7
        have e0 := hat 0 (by omega)
        have e1 := hat 1 (by omega)
        have e2 := hat 2 (by omega)
        have e3 := hat 3 (by omega)
        have e4 := hat 4 (by omega)
        have e5 := hat 5 (by omega)
        have e6 := hat 6 (by omega)
        have e7 := hat 7 (by omega)
        rw [Go.Deep.add_add] at e0 e1 e2 e3 e4 e5 e6 e7
        refine ⟨(⟨p0, p1, p2, p3, p4, p5, p6, p7⟩, ⟨A5, k5, A6, k6⟩), fun q hq => ?_, ⟨h5, h6, hp⟩⟩
        rcases (by omega : q = 0 ∨ q = 1 ∨ q = 2 ∨ q = 3 ∨ q = 4 ∨ q = 5 ∨ q = 6 ∨ q = 7) with rfl | rfl | rfl | rfl | rfl | rfl | rfl | rfl
        · simpa [svV] using e0
        · simpa [svV] using e1
        · simpa [svV] using e2
        · simpa [svV] using e3
        · simpa [svV] using e4
        · simpa [svV] using e5
        · simpa [svV] using e6
        · simpa [svV] using e7
    have inh : Inhabited (Svc × SvA) := ⟨(⟨0, 0, 0, 0, 0, [], [], 0⟩, ⟨none, 0, none, 0⟩)⟩
    obtain ⟨G, hG⟩ := choose_lt hel
    refine ⟨some a, cap, (List.range len).map G, by simp, ⟨⟨by simpa using hl, hm, (by intro h; cases h), fun h0 => ?_⟩, fun h hh => ?_⟩⟩
    · have h0' : 0 < len := by simpa using h0
      obtain ⟨b, off, rfl, hlt⟩ := add_spot (by simpa using (hG 0 h0').1 0 (by omega))
      refine ⟨b, off, rfl, hlt, fun j q hj i hi2 => ?_⟩
      have hjl : j < len := by have := (List.getElem?_eq_some_iff.1 hj).1; simpa using this
      rw [List.getElem?_map, List.getElem?_range hjl] at hj
      injection hj with hj
      subst hj
      have e := (hG j hjl).1 i hi2
      rw [plain_add] at e
      rw [Nat.add_assoc]
      exact e
    · obtain ⟨i, hi2, rfl⟩ := List.mem_map.1 hh
      exact (hG i (List.mem_range.1 hi2)).2
theorem open_wish (h : DataW.Trod enc Tryz.prog W base spare held 32 v d p) (hv : Value.okWide Tryz.prog W r b0 32 v) : ∃ (A : Option Addr) (c : Nat) (l : List (Svc × SvA)), v = .agg #[.slice A l.length c] ∧ WiAt W A c l := by
  obtain ⟨⟨l⟩, rfl, hsz⟩ := okWide_struct Tryz.underlying32 hv
  obtain ⟨fuel, hf⟩ := h
  obtain ⟨xs, k, -, -, -, hl, hg⟩ := DataW.trod_struct Tryz.underlying32 hf
  have hlen : l.length = 1 := hsz.trans cells_wish
  have hxl : xs.length = 1 := hl
  have g0 : DataW.trod enc Tryz.prog W base spare held k 30 ((l.drop 0).take (Tryz.prog.cellsOf 30)) = xs[0]? := hg 0 _ rfl
  rw [List.getElem?_eq_getElem (by omega), cells_sService] at g0
  match l, hlen with
  | [c0], _ =>
    obtain ⟨A1, k1, l1, rfl, h1⟩ := open_sService (v := c0) g0
    exact ⟨A1, k1, l1, rfl, h1⟩
theorem open_world (h : DataW.Trod enc Tryz.prog W base spare held 36 v d p) (hv : Value.okWide Tryz.prog W r b0 36 v) : ∃ (q : WP) (s : WorldD), v = .agg #[.slice q.a1 s.hosts.length q.c1, .slice q.a2 s.reps.length q.c2] ∧ WoAt W q s := by
  obtain ⟨⟨l⟩, rfl, hsz⟩ := okWide_struct Tryz.underlying36 hv
  obtain ⟨fuel, hf⟩ := h
  obtain ⟨xs, k, -, -, -, hl, hg⟩ := DataW.trod_struct Tryz.underlying36 hf
  have hlen : l.length = 2 := hsz.trans cells_world
  have hxl : xs.length = 2 := hl
  have g0 : DataW.trod enc Tryz.prog W base spare held k 33 ((l.drop 0).take (Tryz.prog.cellsOf 33)) = xs[0]? := hg 0 _ rfl
  have g1 : DataW.trod enc Tryz.prog W base spare held k 34 ((l.drop 1).take (Tryz.prog.cellsOf 34)) = xs[1]? := hg 1 _ rfl
  rw [List.getElem?_eq_getElem (by omega)] at g0 g1
  rw [cells_sHostState] at g0
  rw [cells_sReplica] at g1
  match l, hlen with
  | [c0, c1], _ =>
    obtain ⟨A1, k1, l1, rfl, h1, hp⟩ := open_sHostState (v := c0) g0
    obtain ⟨A2, k2, l2, rfl, h2⟩ := open_sReplica (v := c1) g1
    exact ⟨⟨A1, k1, A2, k2⟩, ⟨l1, l2⟩, rfl, ⟨h1, h2, hp⟩⟩
end
end Go.Proofs.YtpokpgnclohiiaaGreat

namespace Go.Proofs.YtpokpgnclohiiaaGreat
open Go.RowKit
set_option maxRecDepth 100000
set_option linter.unusedVariables false
set_option linter.unusedSimpArgs false

set_option maxHeartbeats 8000000 in
theorem c_Ints (A A2 : Option Addr) (c c2 : Nat) (l m : List Int) (w : World) (h : Rw 1 inF w A c l) (h2 : Rw 1 inF w A2 c2 m) (r : Bool) (hr : decide (l = m) = r) :
    Calls Tryz.prog 15 #[.slice A l.length c, .slice A2 m.length c2] w fun e w' => e = .returned (.bool r) ∧ Below w.heap.size w w' := by
  have H := Lib.hid h
  have H2 := Lib.hid h2
  have HR := Lib.hid hr
  have k1 := h.1; have k2 := h.2.1; have k3 := h2.1; have k4 := h2.2.1
  unfold maxLen at k2 k4
  clear h h2 hr
  by_cases hl : l.length = m.length
  · have hne : ((l.length : Int) != (m.length : Int)) = false := by rw [hl]; simp
    have HL := Lib.hid hl
    clear hl
    go_enter Tryz.func15, Tryz.ntmps15
    go_wp2_with (fail)
    go_loopw [5] (fun i wr => ∃ k : Nat, k ≤ l.length ∧ i = .int .i64 (k : Int) ∧ Hid (Below w.heap.size w wr) ∧ Hid (l.take k = m.take k)) (fun i _ => l.length - (intOf i).toNat)
    case atStart => exact ⟨0, Nat.zero_le _, rfl, Lib.hid (Below.refl _ _), Lib.hid rfl⟩
    case round =>
      obtain ⟨k, hk, rfl, hB, hsame⟩ := hrel
      have hki : ((k : Nat) : Int).toNat = k := by omega
      by_cases hlt : k < l.length
      · obtain ⟨x, hx⟩ : ∃ x, l[k]? = some x := ⟨_, List.getElem?_eq_getElem hlt⟩
        obtain ⟨y, hy⟩ : ∃ y, m[k]? = some y := ⟨_, List.getElem?_eq_getElem (by rw [← HL.out]; exact hlt)⟩
        have HK := H.out.on hB.out (Nat.le_refl _)
        have HK2 := H2.out.on hB.out (Nat.le_refl _)
        obtain ⟨b, o, rfl, -, -⟩ := HK.at_ hx
        obtain ⟨b2, o2, rfl, -, -⟩ := HK2.at_ hy
        have x0 := inRw HK hx
        have y0 := inRw HK2 hy
        have hkl : (k : Int) < (l.length : Int) := by omega
        have hkm : (k : Int) < (m.length : Int) := by have := HL.out; omega
        have HXX := Lib.hid hx
        have HYY := Lib.hid hy
        clear HK HK2 hx hy
        rcases hne2 : (x != y) with _ | _
        · have HS := Lib.hid (show l.take (k + 1) = m.take (k + 1) by
            rw [List.take_add_one, List.take_add_one, hsame.out, HXX.out, HYY.out]
            rw [bne_eq_false_iff_eq] at hne2
            rw [hne2])
          go_wp2_with (fail)
          go_quiet (fail)
          go_wp2_with (fail)
          go_roundw
          case rel => exact ⟨k + 1, by omega, by go_num, Lib.hid (below_drewN hB.out), HS⟩
          case measure => simp only [intOf]; omega
        · obtain rfl : false = r := by
            rw [← HR.out]
            refine (decide_eq_false fun e => ?_).symm
            rw [bne_iff_ne] at hne2
            refine hne2 ?_
            have h1 := HXX.out
            rw [e, HYY.out] at h1
            injection h1 with h1
            exact h1.symm
          go_wp2_with (fail)
          go_quiet (fail)
          go_wp2_with (fail)
          go_ret
          exact ⟨rfl, below_drewN hB.out⟩
      · obtain rfl : k = l.length := by omega
        obtain rfl : true = r := by
          rw [← HR.out]
          refine (decide_eq_true ?_).symm
          have h := hsame.out
          rw [List.take_length, HL.out, List.take_length] at h
          exact h
        go_wp2_with (fail)
        go_ret
        exact ⟨rfl, hB.out⟩
  · have hne : ((l.length : Int) != (m.length : Int)) = true := by rw [bne_iff_ne]; omega
    obtain rfl : false = r := by rw [← HR.out]; exact (decide_eq_false fun e => hl (by rw [e])).symm
    clear hl
    go_enter Tryz.func15, Tryz.ntmps15
    go_wp2_with (fail)
    go_ret
    exact ⟨rfl, Below.refl _ _⟩
end Go.Proofs.YtpokpgnclohiiaaGreat
