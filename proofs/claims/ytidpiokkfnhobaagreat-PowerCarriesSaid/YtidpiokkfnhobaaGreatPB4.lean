/-
  DERIVED. Several texts in one.
-/
import Derived.Test.YtidpiokkfnhobaaGreatPB3
import Derived.Test.YtidpiokkfnhobaaGreatPB2
import Derived.Test.YtidpiokkfnhobaaGreatRows
import Derived.Handed
import Derived.OpenShut
import Derived.Deep.Fields
import Derived.Deep.Slices
import Derived.ChangeSame
import Derived.ChangeSlices
set_option linter.unusedVariables false
set_option linter.unusedSimpArgs false

namespace Go.Proofs.YtidpiokkfnhobaaGreat
open Go.RowKit
set_option maxRecDepth 100000
set_option linter.unusedVariables false
set_option linter.unusedSimpArgs false

set_option maxHeartbeats 16000000 in
theorem c_wrValidWish (A : Option Addr) (c : Nat) (xs : List (Svc × SvA)) (r : Bool) (hr : r = true ↔ WishOk (svs xs)) (w : World) (h : WiAt w A c xs) :
    Calls Tryz.prog 43 #[.agg #[.slice A xs.length c]] w fun e w' => e = .returned (.bool r) ∧ Below w.heap.size w w' := by
  obtain ⟨W, hW⟩ : ∃ W, W = w.alloc (.cells #[.slice A xs.length c] 32) := ⟨_, rfl⟩
  have B0 : Below w.heap.size w W := by subst hW; exact (Below.refl _ _).alloc (Nat.le_refl _) _
  have HB := Lib.hid B0
  have hle := B0.size
  have HX : W.heap[w.heap.size]? = some (.cells #[.slice A xs.length c] 32 (0, 0)) := by subst hW; exact box_new _ _ _
  have HF := Lib.hid (fun (X : World) (hX : Below W.heap.size W X) => (cell_of (box_on HX hX (Nat.le_refl _)) rfl : X.cell? ⟨w.heap.size, 0, none⟩ = some (.slice A xs.length c)))
  have x0 := HF.out W (Below.refl _ _)
  have H := Lib.hid (h.on B0 (Nat.le_refl _))
  have hc1 := h.row.1
  have hc2 := h.row.2.1
  unfold maxLen at hc2
  have hsl := svs_len xs
  have HR := Lib.hid hr
  clear hr h HX B0
  generalize hA : w.heap.size = B at *
  rw [hW] at x0
  by_cases h8 : xs.length ≤ 8
  · have hd8 : decide ((8 : Int) < (xs.length : Int)) = false := decide_eq_false (by omega)
    go_enter Tryz.func43, Tryz.ntmps43
    go_wp2_with (fail)
    rw [← hW]
    clear hW x0
    go_loopw [3, 4] (fun sm i wr => ∃ k : Nat, k ≤ xs.length ∧ sm = .int .i64 (sumR ((svs xs).take k)) ∧ i = .int .i64 (k : Int) ∧ Hid (∀ (i : Nat) s, i < k → (svs xs)[i]? = some s → svcB s i xs.length = true) ∧ Hid (Below W.heap.size W wr)) (fun _ i _ => xs.length - (intOf i).toNat)
    case atStart => exact ⟨0, Nat.zero_le _, rfl, rfl, Lib.hid (fun i s hi => absurd hi (by omega)), Lib.hid (Below.refl _ _)⟩
    case round =>
      obtain ⟨k, hk, rfl, rfl, hok, hK⟩ := hrel
      have hbd := sumR_bound (ss := svs xs) (k := k) (by omega) fun i s hi hs => keepB_reps (by have := hok.out i s hi hs; unfold svcB at this; rw [Bool.and_eq_true] at this; exact this.1)
      obtain ⟨sm, hsm⟩ : ∃ sm, sumR ((svs xs).take k) = sm := ⟨_, rfl⟩
      have HSM := Lib.hid hsm
      rw [hsm] at hbd ⊢
      clear hsm
      have x0 := HF.out wr hK.out
      by_cases hlt : k < xs.length
      · obtain ⟨x, hx⟩ : ∃ x, xs[k]? = some x := ⟨_, List.getElem?_eq_getElem hlt⟩
        have HXX := Lib.hid hx
        have HSV := Lib.hid (svs_at hx)
        have hki : ((k : Nat) : Int).toNat = k := by omega
        have hlt' : (k : Int) < ((xs.length : Nat) : Int) := by omega
        obtain ⟨q1, hq1⟩ : ∃ q, svcB x.1 (k : Int) (xs.length : Int) = q := ⟨_, rfl⟩
        have Q1 := Lib.hid hq1
        clear hq1 hx
        go_wp2_with (fail)
        go_at_call 68
        refine (c_service A c xs k x HXX.out q1 Q1.out wr (H.out.on hK.out (Nat.le_refl _))).mono ?_
        rintro e w1 ⟨rfl, b1⟩
        have K1 := Lib.hid (below_join hK.out b1 hK.out.size)
        clear b1 x0
        cases q1
        · obtain rfl : false = r := by
            rcases r with _ | _
            · rfl
            · exact absurd (HR.out.1 rfl) (wish_no HSV.out Q1.out)
          go_wp2_with (fail)
          go_ret
          exact ⟨rfl, below_join HB.out K1.out hle⟩
        · have x0 := HF.out w1 K1.out
          have HK := H.out.on K1.out (Nat.le_refl _)
          obtain ⟨pb, po, rfl, -, -⟩ := HK.row.at_ HXX.out
          obtain ⟨-, y1, -⟩ := sv_at HK.row HXX.out
          have hrp := keepB_reps (by have := Q1.out; unfold svcB at this; rw [Bool.and_eq_true] at this; exact this.1)
          have HN := Lib.hid (show sumR ((svs xs).take (k + 1)) = sm + x.1.reps by rw [sumR_take HSV.out, HSM.out])
          have HO := Lib.hid (show ∀ (i : Nat) s, i < k + 1 → (svs xs)[i]? = some s → svcB s i xs.length = true from fun i s hi hs => by
            rcases Nat.lt_or_ge i k with h | h
            · exact hok.out i s h hs
            · obtain rfl : i = k := by omega
              rw [HSV.out] at hs
              injection hs with hs
              subst hs
              exact Q1.out)
          clear HK
          go_wp2_with (fail)
          go_roundw
          case rel => exact ⟨k + 1, by omega, by rw [HN.out], by go_num, HO, K1⟩
          case measure => simp only [intOf]; omega
      · obtain rfl : k = xs.length := by omega
        have hd : decide (sm ≤ 24) = r := by
          have e : sumR (svs xs) = sm := by rw [← HSM.out, ← hsl, List.take_length]
          rw [Bool.eq_iff_iff, decide_eq_true_eq, HR.out, ← e]
          exact ⟨fun h => ⟨by omega, fun i s hs => by rw [hsl]; exact hok.out i s (by have := (List.getElem?_eq_some_iff.1 hs).1; omega) hs, h⟩, fun h => h.2.2⟩
        go_wp2_with (fail)
        go_ret
        exact ⟨rfl, below_join HB.out hK.out hle⟩
  · have hd8 : decide ((8 : Int) < (xs.length : Int)) = true := decide_eq_true (by omega)
    obtain rfl : false = r := by
      rcases r with _ | _
      · rfl
      · exact absurd (HR.out.1 rfl).1 (by omega)
    go_enter Tryz.func43, Tryz.ntmps43
    go_wp2_with (fail)
    go_ret
    rw [← hW]
    exact ⟨rfl, HB.out⟩
theorem no_of {P : Prop} {r : Bool} (hr : r = true ↔ P) (h : ¬ P) : r = false := by
  rcases r with _ | _
  · rfl
  · exact absurd (hr.1 rfl) h
set_option maxHeartbeats 32000000 in
theorem c_wrValid (p : SP) (s : SiteD) (A : Option Addr) (c : Nat) (xs : List (Svc × SvA)) (q : WP) (d : WorldD) (r : Bool) (hr : r = true ↔ WorldOk s (svs xs) d) (w : World) (hs : SiAt w p s) (hx : WiAt w A c xs) (hd : WoAt w q d) :
    Calls Tryz.prog 25 #[siV p s, .agg #[.slice A xs.length c], .agg (woA q d)] w fun e w' => e = .returned (.bool r) ∧ Below w.heap.size w w' := by
  unfold siV woA
  obtain ⟨W1, h1⟩ : ∃ W, W = w.alloc (.cells #[.slice p.a1 s.feeds.length p.c1, .slice p.a2 s.brks.length p.c2, .slice p.a3 s.loops.length p.c3, .slice p.a4 s.racks.length p.c4, .int .i64 s.sw, .slice p.a5 s.links.length p.c5, .slice p.a6 s.hosts.length p.c6] 29) := ⟨_, rfl⟩
  obtain ⟨W2, h2⟩ : ∃ W, W = W1.alloc (.cells #[.slice A xs.length c] 32) := ⟨_, rfl⟩
  obtain ⟨W, h3⟩ : ∃ W, W = W2.alloc (.cells (woA q d) 36) := ⟨_, rfl⟩
  obtain ⟨B0, X1, X2, X3⟩ := three_boxes h1 h2 h3
  have HB := Lib.hid B0
  have HS := Lib.hid (hs.on B0 (Nat.le_refl _))
  have HX := Lib.hid (hx.on B0 (Nat.le_refl _))
  have HD := Lib.hid (hd.on B0 (Nat.le_refl _))
  have HF := Lib.hid (fun (X : World) (hX : Below W.heap.size W X) => (⟨cell_of (box_on X1 hX (Nat.le_refl _)) rfl, cell_of (box_on X1 hX (Nat.le_refl _)) rfl, cell_of (box_on X1 hX (Nat.le_refl _)) rfl, cell_of (box_on X1 hX (Nat.le_refl _)) rfl, cell_of (box_on X1 hX (Nat.le_refl _)) rfl, cell_of (box_on X1 hX (Nat.le_refl _)) rfl, cell_of (box_on X1 hX (Nat.le_refl _)) rfl, cell_of (box_on X2 hX (Nat.le_refl _)) rfl, cell_of (box_on X3 hX (Nat.le_refl _)) rfl, cell_of (box_on X3 hX (Nat.le_refl _)) rfl⟩ : X.cell? ⟨w.heap.size, 0, none⟩ = some (.slice p.a1 s.feeds.length p.c1) ∧ X.cell? ⟨w.heap.size, 1, none⟩ = some (.slice p.a2 s.brks.length p.c2) ∧ X.cell? ⟨w.heap.size, 2, none⟩ = some (.slice p.a3 s.loops.length p.c3) ∧ X.cell? ⟨w.heap.size, 3, none⟩ = some (.slice p.a4 s.racks.length p.c4) ∧ X.cell? ⟨w.heap.size, 4, none⟩ = some (.int .i64 s.sw) ∧ X.cell? ⟨w.heap.size, 5, none⟩ = some (.slice p.a5 s.links.length p.c5) ∧ X.cell? ⟨w.heap.size, 6, none⟩ = some (.slice p.a6 s.hosts.length p.c6) ∧ X.cell? ⟨w.heap.size + 1, 0, none⟩ = some (.slice A xs.length c) ∧ X.cell? ⟨w.heap.size + 1 + 1, 0, none⟩ = some (.slice q.a1 d.hosts.length q.c1) ∧ X.cell? ⟨w.heap.size + 1 + 1, 1, none⟩ = some (.slice q.a2 d.reps.length q.c2)))
  have n1 := hd.hosts.1; have n2 := hd.hosts.2.1; have n3 := hd.reps.1; have n4 := hd.reps.2.1; have n5 := hs.hosts.1; have n6 := hs.hosts.2.1; have n7 := hx.row.1; have n8 := hx.row.2.1
  unfold maxLen at n2 n4 n6 n8
  have HR := Lib.hid hr
  have KW := Lib.hid (Below.refl W.heap.size W)
  have hle : w.heap.size ≤ W.heap.size := B0.size
  have HSL := Lib.hid (svs_len xs)
  clear B0 hr hs hx hd X1 X2 X3
  obtain ⟨f0, f1, f2, f3, f4, f5, f6, g0, g1, g2⟩ := HF.out W KW.out
  unfold woA at h3
  rw [h3, h2, h1] at f0 f1 f2 f3 f4 f5 f6 g0 g1 g2
  generalize hA : w.heap.size = B at *
  go_enter Tryz.func25, Tryz.ntmps25
  go_wp2_with (fail)
  rw [← h1, ← h2, ← h3] at f0 f1 f2 f3 f4 f5 f6 g0 g1 g2 ⊢
  clear h1 h2 h3
  obtain ⟨q0, h0⟩ : ∃ b, siteOk s = b := ⟨_, rfl⟩
  have Q0 := Lib.hid h0
  clear h0
  go_at_call 42
  refine (c_srValid p s q0 Q0.out W HS.out).mono ?_
  rintro e w1 ⟨rfl, b1⟩
  have K1 := Lib.hid b1
  clear b1
  clear f0 f1 f2 f3 f4 f5 f6 g0 g1 g2
  obtain ⟨f0, f1, f2, f3, f4, f5, f6, g0, g1, g2⟩ := HF.out w1 K1.out
  cases q0
  · obtain rfl : r = false := no_of HR.out (fun h => by have := h.1; rw [Q0.out] at this; cases this)
    go_wp2_with (fail)
    go_ret
    exact ⟨rfl, below_join HB.out K1.out hle⟩
  go_wp2_with (fail)
  obtain ⟨q1, h1⟩ : ∃ b : Bool, b = true ↔ WishOk (svs xs) := by
    by_cases h : WishOk (svs xs)
    · exact ⟨true, by simp [h]⟩
    · exact ⟨false, by simp [h]⟩
  have Q1 := Lib.hid h1
  clear h1
  go_at_call 43
  refine (c_wrValidWish A c xs q1 Q1.out w1 (HX.out.on K1.out (Nat.le_refl _))).mono ?_
  rintro e w2 ⟨rfl, b2⟩
  have K2 := Lib.hid (below_join K1.out b2 K1.out.size)
  clear b2
  clear f0 f1 f2 f3 f4 f5 f6 g0 g1 g2
  obtain ⟨f0, f1, f2, f3, f4, f5, f6, g0, g1, g2⟩ := HF.out w2 K2.out
  cases q1
  · obtain rfl : r = false := no_of HR.out (fun h => by have := Q1.out.2 h.2.1; cases this)
    go_wp2_with (fail)
    go_ret
    exact ⟨rfl, below_join HB.out K2.out hle⟩
  rcases h2 : ((d.hosts.length : Int) != (s.hosts.length : Int)) with _ | _
  rotate_left
  · have Q2 := Lib.hid h2
    obtain rfl : r = false := no_of HR.out (fun h => by have e := h.2.2.1; have := Q2.out; rw [e] at this; simp at this)
    go_wp2_with (fail)
    go_ret
    exact ⟨rfl, below_join HB.out K2.out hle⟩
  have Q2 := Lib.hid (show d.hosts.length = s.hosts.length by rw [bne_eq_false_iff_eq] at h2; omega)
  rcases h4 : decide ((24 : Int) < (d.reps.length : Int)) with _ | _
  rotate_left
  · have Q4 := Lib.hid h4
    obtain rfl : r = false := no_of HR.out (fun h => by have e := h.2.2.2.2.1; have := of_decide_eq_true Q4.out; omega)
    go_wp2_with (fail)
    go_ret
    exact ⟨rfl, below_join HB.out K2.out hle⟩
  have Q4 := Lib.hid (show d.reps.length ≤ 24 by have := of_decide_eq_false h4; omega)
  go_wp2_with (fail)
  clear h2 h4
  obtain ⟨q6, h6⟩ : ∃ b, ascB d.reps = b := ⟨_, rfl⟩
  have Q6 := Lib.hid h6
  clear h6
  go_at_call 44
  refine (c_Ascending q.a2 q.c2 d.reps q6 Q6.out w2 (HD.out.on K2.out (Nat.le_refl _)).reps).mono ?_
  rintro e w3 ⟨rfl, b3⟩
  have K3 := Lib.hid (below_join K2.out b3 K2.out.size)
  clear b3
  clear f0 f1 f2 f3 f4 f5 f6 g0 g1 g2
  obtain ⟨f0, f1, f2, f3, f4, f5, f6, g0, g1, g2⟩ := HF.out w3 K3.out
  cases q6
  · obtain rfl : r = false := no_of HR.out (fun h => by have e := h.2.2.2.2.2.2; rw [Q6.out] at e; cases e)
    go_wp2_with (fail)
    go_ret
    exact ⟨rfl, below_join HB.out K3.out hle⟩
  have HOW := Lib.hid (Q1.out.1 (by trivial))
  go_wp2_with (fail)
  clear f0 f1 f2 f3 f4 f5 f6 g0 g1 g2
  go_loopw [7] (fun i wr => ∃ k : Nat, k ≤ d.hosts.length ∧ i = .int .i64 (k : Int) ∧ Hid (∀ (j : Nat) x, j < k → d.hosts[j]? = some x → hstOk x = true) ∧ Hid (Below W.heap.size W wr)) (fun i _ => d.hosts.length - (intOf i).toNat)
  case atStart => exact ⟨0, Nat.zero_le _, rfl, Lib.hid (fun j x hj => absurd hj (by omega)), K3⟩
  case round =>
    obtain ⟨k, hk, rfl, hok, hK⟩ := hrel
    have hki : ((k : Nat) : Int).toNat = k := by omega
    obtain ⟨-, -, -, -, -, -, f6, g0, g1, g2⟩ := HF.out wr hK.out
    by_cases hlt : k < d.hosts.length
    · obtain ⟨⟨ph, fw⟩, hx⟩ : ∃ x, d.hosts[k]? = some x := ⟨_, List.getElem?_eq_getElem hlt⟩
      have HK := (HD.out.on hK.out (Nat.le_refl _)).hosts
      obtain ⟨b, o, ea, -, -⟩ := HK.at_ hx
      rw [ea] at HK g1
      obtain ⟨y0, y1⟩ := hst_at HK hx
      simp only at y0 y1
      have hkl : (k : Int) < (d.hosts.length : Int) := by omega
      have HXX := Lib.hid hx
      have HNO := Lib.hid (fun (hn : hstOk ⟨ph, fw⟩ = false) => (no_of HR.out (fun h => by have h1 := h.2.2.2.1 _ (List.mem_of_getElem? HXX.out); rw [hn] at h1; cases h1) : r = false))
      clear hx HK ea
      rcases c1 : decide ((4 : Int) < (ph : Int)) with _ | _
      rotate_left
      · obtain rfl : r = false := HNO.out (by unfold hstOk; rw [decide_eq_false (show ¬ ph ≤ 4 by have := of_decide_eq_true c1; omega)]; rfl)
        go_wp2_with (fail)
        go_ret
        exact ⟨rfl, below_join HB.out hK.out hle⟩
      rcases c2 : decide (fw < 0) with _ | _
      rotate_left
      · obtain rfl : r = false := HNO.out (by unfold hstOk inB; rw [decide_eq_false (show ¬ (0 ≤ fw) by have := of_decide_eq_true c2; omega)]; simp)
        go_wp2_with (fail)
        go_ret
        exact ⟨rfl, below_join HB.out hK.out hle⟩
      rcases c3 : decide ((1000000 : Int) < fw) with _ | _
      rotate_left
      · obtain rfl : r = false := HNO.out (by unfold hstOk inB; rw [decide_eq_false (show ¬ (fw ≤ 1000000) by have := of_decide_eq_true c3; omega)]; simp)
        go_wp2_with (fail)
        go_ret
        exact ⟨rfl, below_join HB.out hK.out hle⟩
      have HO := Lib.hid (show ∀ (j : Nat) x, j < k + 1 → d.hosts[j]? = some x → hstOk x = true from fun j z hj hz => by
        rcases Nat.lt_or_ge j k with h | h
        · exact hok.out j z h hz
        · obtain rfl : j = k := by omega
          rw [HXX.out] at hz
          injection hz with hz
          subst hz
          have e1 := of_decide_eq_false c1
          have e2 := of_decide_eq_false c2
          have e3 := of_decide_eq_false c3
          unfold hstOk
          rw [Bool.and_eq_true, inB_iff, decide_eq_true_eq]
          simp only
          omega)
      go_wp2_with (fail)
      go_roundw
      case rel => exact ⟨k + 1, by omega, by go_num, HO, hK⟩
      case measure => simp only [intOf]; omega
    · obtain rfl : k = d.hosts.length := by omega
      have HHO := Lib.hid (show ∀ h ∈ d.hosts, hstOk h = true from fun h hh => by
        obtain ⟨i, hi⟩ := List.getElem?_of_mem hh
        exact hok.out i h (List.getElem?_eq_some_iff.1 hi).1 hi)
      go_wp2_with (fail)
      clear f6 g0 g1 g2
      go_loopw [8] (fun i wr => ∃ k : Nat, k ≤ d.reps.length ∧ i = .int .i64 (k : Int) ∧ Hid (∀ (j : Nat) x, j < k → d.reps[j]? = some x → repOk xs.length s.hosts.length x = true) ∧ Hid (Below W.heap.size W wr)) (fun i _ => d.reps.length - (intOf i).toNat)
      case atStart => exact ⟨0, Nat.zero_le _, rfl, Lib.hid (fun j x hj => absurd hj (by omega)), hK⟩
      case round =>
        obtain ⟨k, hk, rfl, hok, hK⟩ := hrel
        have hki : ((k : Nat) : Int).toNat = k := by omega
        obtain ⟨-, -, -, -, -, -, f6, g0, g1, g2⟩ := HF.out wr hK.out
        by_cases hlt : k < d.reps.length
        · obtain ⟨⟨sv, ho⟩, hx⟩ : ∃ x, d.reps[k]? = some x := ⟨_, List.getElem?_eq_getElem hlt⟩
          have HK := (HD.out.on hK.out (Nat.le_refl _)).reps
          obtain ⟨b, o, ea, -, -⟩ := HK.at_ hx
          rw [ea] at HK g2
          obtain ⟨y0, y1⟩ := rep_at HK hx
          simp only at y0 y1
          have hkl : (k : Int) < (d.reps.length : Int) := by omega
          have HXX := Lib.hid hx
          have HNO := Lib.hid (fun (hn : ¬ repOk xs.length s.hosts.length ⟨sv, ho⟩ = true) => (no_of HR.out (fun h => by have h1 := h.2.2.2.2.2.1 _ (List.mem_of_getElem? HXX.out); rw [HSL.out] at h1; exact hn h1) : r = false))
          obtain ⟨V, hV⟩ : ∃ V, V = wr.alloc (.cells #[.int .i64 sv, .int .i64 ho] 79) := ⟨_, rfl⟩
          have bV : Below wr.heap.size wr V := by subst hV; exact (Below.refl _ _).alloc (Nat.le_refl _) _
          have HKV := Lib.hid (below_join hK.out bV hK.out.size)
          have q0 : V.cell? ⟨wr.heap.size, 0, none⟩ = some (.int .i64 sv) := by subst hV; exact cell_of (box_new _ _ _) rfl
          have q1 : V.cell? ⟨wr.heap.size, 1, none⟩ = some (.int .i64 ho) := by subst hV; exact cell_of (box_new _ _ _) rfl
          obtain ⟨-, -, -, -, -, -, u6, v0, -, -⟩ := HF.out V HKV.out
          rw [hV] at q0 q1 u6 v0
          clear hx HK ea bV
          rcases c1 : decide (sv < 0) with _ | _
          rotate_left
          · obtain rfl : r = false := HNO.out (fun h => by unfold repOk at h; rw [Bool.and_eq_true, ixB_iff, ixB_iff] at h; have := of_decide_eq_true c1; simp only at h; omega)
            go_wp2_with (fail)
            rw [← hV]
            go_ret
            exact ⟨rfl, below_join HB.out HKV.out hle⟩
          rcases c2 : decide ((xs.length : Int) ≤ sv) with _ | _
          rotate_left
          · obtain rfl : r = false := HNO.out (fun h => by unfold repOk at h; rw [Bool.and_eq_true, ixB_iff, ixB_iff] at h; have := of_decide_eq_true c2; simp only at h; omega)
            go_wp2_with (fail)
            rw [← hV]
            go_ret
            exact ⟨rfl, below_join HB.out HKV.out hle⟩
          rcases c3 : decide (ho < 0) with _ | _
          rotate_left
          · obtain rfl : r = false := HNO.out (fun h => by unfold repOk at h; rw [Bool.and_eq_true, ixB_iff, ixB_iff] at h; have := of_decide_eq_true c3; simp only at h; omega)
            go_wp2_with (fail)
            rw [← hV]
            go_ret
            exact ⟨rfl, below_join HB.out HKV.out hle⟩
          rcases c4 : decide ((s.hosts.length : Int) ≤ ho) with _ | _
          rotate_left
          · obtain rfl : r = false := HNO.out (fun h => by unfold repOk at h; rw [Bool.and_eq_true, ixB_iff, ixB_iff] at h; have := of_decide_eq_true c4; simp only at h; omega)
            go_wp2_with (fail)
            rw [← hV]
            go_ret
            exact ⟨rfl, below_join HB.out HKV.out hle⟩
          have HO := Lib.hid (show ∀ (j : Nat) x, j < k + 1 → d.reps[j]? = some x → repOk xs.length s.hosts.length x = true from fun j z hj hz => by
            rcases Nat.lt_or_ge j k with h | h
            · exact hok.out j z h hz
            · obtain rfl : j = k := by omega
              rw [HXX.out] at hz
              injection hz with hz
              subst hz
              have e1 := of_decide_eq_false c1
              have e2 := of_decide_eq_false c2
              have e3 := of_decide_eq_false c3
              have e4 := of_decide_eq_false c4
              unfold repOk
              rw [Bool.and_eq_true, ixB_iff, ixB_iff]
              simp only
              omega)
          go_wp2_with (fail)
          rw [← hV]
          clear hV
          go_roundw
          case rel => exact ⟨k + 1, by omega, by go_num, HO, HKV⟩
          case measure => simp only [intOf]; omega
        · obtain rfl : k = d.reps.length := by omega
          obtain rfl : true = r := by
            refine (HR.out.2 ⟨Q0.out, HOW.out, Q2.out, HHO.out, Q4.out, fun x hx => ?_, Q6.out⟩).symm
            obtain ⟨i, hi⟩ := List.getElem?_of_mem hx
            rw [HSL.out]
            exact hok.out i x (List.getElem?_eq_some_iff.1 hi).1 hi
          go_wp2_with (fail)
          go_ret
          exact ⟨rfl, below_join HB.out hK.out hle⟩
end Go.Proofs.YtidpiokkfnhobaaGreat

namespace Go.Proofs.YtidpiokkfnhobaaGreat
open Go.ChangeShapes Go.WideShapes Go.Deep Go.RowKit
set_option maxRecDepth 100000
set_option linter.unusedSimpArgs false
set_option linter.unusedVariables false

theorem cell_lt3 {w : World} {b o : Nat} {v : Value} (h : w.cell? ⟨b, o, none⟩ = some v) : b < w.heap.size := by
  unfold World.cell? at h
  cases hb : w.heap[b]? with
  | none => simp [hb] at h
  | some ob => exact (Array.getElem?_eq_some_iff.1 hb).1
theorem u8_wf {n : Int} (h : (Lit.int .u8 n).wf = true) : ∃ m : Nat, n = (m : Int) ∧ m < 256 := by
  have h2 : (decide ((0 : Int) ≤ n) && decide (n ≤ 255)) = true := h
  simp only [Bool.and_eq_true, decide_eq_true_eq] at h2
  exact ⟨n.toNat, by omega, by omega⟩
theorem plain_add (b o j : Nat) : (⟨b, o, none⟩ : Addr).add j = ⟨b, o + j, none⟩ := by unfold Addr.add; split <;> simp_all
theorem add_spot {w : World} {a : Addr} {v : Value} (h : w.cell? (a.add 0) = some v) : ∃ b o, a = ⟨b, o, none⟩ ∧ b < w.heap.size := by
  obtain ⟨b, off, spot⟩ := a
  have hsp : spot = none := by simpa [Addr.add] using World.cell?_spot h
  subst hsp
  rw [plain_add] at h
  exact ⟨b, off, rfl, cell_lt3 h⟩
theorem cells_it : Tryz.prog.cellsOf 3 = 1 := by kernel_rfl
theorem cells_site : Tryz.prog.cellsOf 29 = 7 := by kernel_rfl
section
variable {H : Type} {enc : TypeId × Value → H} {W : World} {base : Nat} {spare : Nat → Bool} {held : Bool} {r : Go.Reach} {b0 : Nat} {v : Value} {d : DataW H} {p : List MemPlace}
theorem open_one64 {fuel : Nat} {x : DataW H × List MemPlace} {u : Value} (hf : DataW.trod enc Tryz.prog W base spare held fuel 3 [u] = some x) : ∃ n : Int, u = .int .i64 n := by
  obtain ⟨n, g, -, -⟩ := DataW.trod_int Tryz.underlying3 hf
  simp at g
  exact ⟨n, g⟩
theorem open_int_ (h : DataW.Trod enc Tryz.prog W base spare held 3 v d p) (hv : Value.okWide Tryz.prog W r b0 3 v) : ∃ n : Int, v = .int .i64 n := by
  obtain ⟨m, rfl⟩ := okWide_int Tryz.underlying3 hv
  exact ⟨m, rfl⟩
theorem cells_Feed : Tryz.prog.cellsOf 50 = 1 := by kernel_rfl
theorem cells_sFeed : Tryz.prog.cellsOf 22 = 1 := by kernel_rfl
theorem open_sFeed {fuel : Nat} {x : DataW H × List MemPlace} (hf : DataW.trod enc Tryz.prog W base spare held fuel 22 [v] = some x) : ∃ (A : Option Addr) (c : Nat) (l : List Int), v = .slice A l.length c ∧ Rw 1 inF W A c l := by
  rcases open_slice Tryz.underlying22 hf with ⟨h0, _⟩ | ⟨a, len, cap, m, n, D, Pl, hcs, hb, hl, hm, hmm, hx, hi⟩
  · simp at h0
    subst h0
    exact ⟨none, 0, [], rfl, Rw.nil _ _⟩
  · simp at hcs
    subst hcs
    have hel : ∀ i, i < len → ∃ y : Int, ∀ q, q < 1 → W.cell? (a.add (i * 1 + q)) = some (.int .i64 (inF y q)) := by
      intro i him
      obtain ⟨cs', hc, ht'⟩ := hi i (by rw [hmm]; split <;> omega)
      rw [cells_Feed] at hc
      obtain ⟨_, hcl, hat⟩ := World.cells?_some hc
      obtain ⟨xs, k, -, -, -, hxl, hg⟩ := DataW.trod_struct Tryz.underlying50 ht'
      have hxl' : xs.length = 1 := hxl
      have g0 : DataW.trod enc Tryz.prog W base spare held k 3 ((cs'.drop 0).take (Tryz.prog.cellsOf 3)) = xs[0]? := hg 0 _ rfl
      rw [List.getElem?_eq_getElem (by omega)] at g0
      rw [cells_it] at g0
      match cs', hcl with
      | [c0], _ =>
        obtain ⟨p0, rfl⟩ := open_one64 (u := c0) g0
        have e0 := hat 0 (by omega)
        rw [Go.Deep.add_add] at e0
        refine ⟨p0, fun q hq => ?_⟩
        obtain rfl : q = 0 := by omega
        simpa [inF] using e0
    have inh : Inhabited Int := ⟨0⟩
    obtain ⟨G, hG⟩ := choose_lt hel
    refine ⟨some a, cap, (List.range len).map G, by simp, by simpa using hl, hm, fun h0 => ?_⟩
    have h0' : 0 < len := by simpa using h0
    obtain ⟨b, off, rfl, hlt⟩ := add_spot (by simpa using hG 0 h0' 0 (by omega))
    refine ⟨b, off, rfl, hlt, fun j q hj i hi2 => ?_⟩
    have hjl : j < len := by have := (List.getElem?_eq_some_iff.1 hj).1; simpa using this
    rw [List.getElem?_map, List.getElem?_range hjl] at hj
    injection hj with hj
    subst hj
    have e := hG j hjl i hi2
    rw [plain_add] at e
    rw [Nat.add_assoc]
    exact e
theorem cells_Breaker : Tryz.prog.cellsOf 48 = 4 := by kernel_rfl
theorem cells_sBreaker : Tryz.prog.cellsOf 23 = 1 := by kernel_rfl
theorem open_sBreaker {fuel : Nat} {x : DataW H × List MemPlace} (hf : DataW.trod enc Tryz.prog W base spare held fuel 23 [v] = some x) : ∃ (A : Option Addr) (c : Nat) (l : List Brk), v = .slice A l.length c ∧ Rw 4 brkF W A c l := by
  rcases open_slice Tryz.underlying23 hf with ⟨h0, _⟩ | ⟨a, len, cap, m, n, D, Pl, hcs, hb, hl, hm, hmm, hx, hi⟩
  · simp at h0
    subst h0
    exact ⟨none, 0, [], rfl, Rw.nil _ _⟩
  · simp at hcs
    subst hcs
    have hel : ∀ i, i < len → ∃ y : Brk, ∀ q, q < 4 → W.cell? (a.add (i * 4 + q)) = some (.int .i64 (brkF y q)) := by
      intro i him
      obtain ⟨cs', hc, ht'⟩ := hi i (by rw [hmm]; split <;> omega)
      rw [cells_Breaker] at hc
      obtain ⟨_, hcl, hat⟩ := World.cells?_some hc
      obtain ⟨xs, k, -, -, -, hxl, hg⟩ := DataW.trod_struct Tryz.underlying48 ht'
      have hxl' : xs.length = 4 := hxl
      have g0 : DataW.trod enc Tryz.prog W base spare held k 3 ((cs'.drop 0).take (Tryz.prog.cellsOf 3)) = xs[0]? := hg 0 _ rfl
      have g1 : DataW.trod enc Tryz.prog W base spare held k 3 ((cs'.drop 1).take (Tryz.prog.cellsOf 3)) = xs[1]? := hg 1 _ rfl
      have g2 : DataW.trod enc Tryz.prog W base spare held k 3 ((cs'.drop 2).take (Tryz.prog.cellsOf 3)) = xs[2]? := hg 2 _ rfl
      have g3 : DataW.trod enc Tryz.prog W base spare held k 3 ((cs'.drop 3).take (Tryz.prog.cellsOf 3)) = xs[3]? := hg 3 _ rfl
      rw [List.getElem?_eq_getElem (by omega)] at g0 g1 g2 g3
      rw [cells_it] at g0 g1 g2 g3
      match cs', hcl with
      | [c0, c1, c2, c3], _ =>
        obtain ⟨p0, rfl⟩ := open_one64 (u := c0) g0
        obtain ⟨p1, rfl⟩ := open_one64 (u := c1) g1
        obtain ⟨p2, rfl⟩ := open_one64 (u := c2) g2
        obtain ⟨p3, rfl⟩ := open_one64 (u := c3) g3
        have e0 := hat 0 (by omega)
        have e1 := hat 1 (by omega)
        have e2 := hat 2 (by omega)
        have e3 := hat 3 (by omega)
        rw [Go.Deep.add_add] at e0 e1 e2 e3
        refine ⟨⟨p0, p1, p2, p3⟩, fun q hq => ?_⟩
        rcases (by omega : q = 0 ∨ q = 1 ∨ q = 2 ∨ q = 3) with rfl | rfl | rfl | rfl
        · simpa [brkF] using e0
        · simpa [brkF] using e1
        · simpa [brkF] using e2
        · simpa [brkF] using e3
    have inh : Inhabited Brk := ⟨⟨0, 0, 0, 0⟩⟩
    obtain ⟨G, hG⟩ := choose_lt hel
    refine ⟨some a, cap, (List.range len).map G, by simp, by simpa using hl, hm, fun h0 => ?_⟩
    have h0' : 0 < len := by simpa using h0
    obtain ⟨b, off, rfl, hlt⟩ := add_spot (by simpa using hG 0 h0' 0 (by omega))
    refine ⟨b, off, rfl, hlt, fun j q hj i hi2 => ?_⟩
    have hjl : j < len := by have := (List.getElem?_eq_some_iff.1 hj).1; simpa using this
    rw [List.getElem?_map, List.getElem?_range hjl] at hj
    injection hj with hj
    subst hj
    have e := hG j hjl i hi2
    rw [plain_add] at e
    rw [Nat.add_assoc]
    exact e
theorem cells_Loop : Tryz.prog.cellsOf 81 = 2 := by kernel_rfl
theorem cells_sLoop : Tryz.prog.cellsOf 24 = 1 := by kernel_rfl
theorem open_sLoop {fuel : Nat} {x : DataW H × List MemPlace} (hf : DataW.trod enc Tryz.prog W base spare held fuel 24 [v] = some x) : ∃ (A : Option Addr) (c : Nat) (l : List Lp), v = .slice A l.length c ∧ Rw 2 lpF W A c l := by
  rcases open_slice Tryz.underlying24 hf with ⟨h0, _⟩ | ⟨a, len, cap, m, n, D, Pl, hcs, hb, hl, hm, hmm, hx, hi⟩
  · simp at h0
    subst h0
    exact ⟨none, 0, [], rfl, Rw.nil _ _⟩
  · simp at hcs
    subst hcs
    have hel : ∀ i, i < len → ∃ y : Lp, ∀ q, q < 2 → W.cell? (a.add (i * 2 + q)) = some (.int .i64 (lpF y q)) := by
      intro i him
      obtain ⟨cs', hc, ht'⟩ := hi i (by rw [hmm]; split <;> omega)
      rw [cells_Loop] at hc
      obtain ⟨_, hcl, hat⟩ := World.cells?_some hc
      obtain ⟨xs, k, -, -, -, hxl, hg⟩ := DataW.trod_struct Tryz.underlying81 ht'
      have hxl' : xs.length = 2 := hxl
      have g0 : DataW.trod enc Tryz.prog W base spare held k 3 ((cs'.drop 0).take (Tryz.prog.cellsOf 3)) = xs[0]? := hg 0 _ rfl
      have g1 : DataW.trod enc Tryz.prog W base spare held k 3 ((cs'.drop 1).take (Tryz.prog.cellsOf 3)) = xs[1]? := hg 1 _ rfl
      rw [List.getElem?_eq_getElem (by omega)] at g0 g1
      rw [cells_it] at g0 g1
      match cs', hcl with
      | [c0, c1], _ =>
        obtain ⟨p0, rfl⟩ := open_one64 (u := c0) g0
        obtain ⟨p1, rfl⟩ := open_one64 (u := c1) g1
        have e0 := hat 0 (by omega)
        have e1 := hat 1 (by omega)
        rw [Go.Deep.add_add] at e0 e1
        refine ⟨⟨p0, p1⟩, fun q hq => ?_⟩
        rcases (by omega : q = 0 ∨ q = 1) with rfl | rfl
        · simpa [lpF] using e0
        · simpa [lpF] using e1
    have inh : Inhabited Lp := ⟨⟨0, 0⟩⟩
    obtain ⟨G, hG⟩ := choose_lt hel
    refine ⟨some a, cap, (List.range len).map G, by simp, by simpa using hl, hm, fun h0 => ?_⟩
    have h0' : 0 < len := by simpa using h0
    obtain ⟨b, off, rfl, hlt⟩ := add_spot (by simpa using hG 0 h0' 0 (by omega))
    refine ⟨b, off, rfl, hlt, fun j q hj i hi2 => ?_⟩
    have hjl : j < len := by have := (List.getElem?_eq_some_iff.1 hj).1; simpa using this
    rw [List.getElem?_map, List.getElem?_range hjl] at hj
    injection hj with hj
    subst hj
    have e := hG j hjl i hi2
    rw [plain_add] at e
    rw [Nat.add_assoc]
    exact e
theorem cells_Rack : Tryz.prog.cellsOf 65 = 4 := by kernel_rfl
theorem cells_sRack : Tryz.prog.cellsOf 25 = 1 := by kernel_rfl
theorem open_sRack {fuel : Nat} {x : DataW H × List MemPlace} (hf : DataW.trod enc Tryz.prog W base spare held fuel 25 [v] = some x) : ∃ (A : Option Addr) (c : Nat) (l : List Rk), v = .slice A l.length c ∧ Rw 4 rkF W A c l := by
  rcases open_slice Tryz.underlying25 hf with ⟨h0, _⟩ | ⟨a, len, cap, m, n, D, Pl, hcs, hb, hl, hm, hmm, hx, hi⟩
  · simp at h0
    subst h0
    exact ⟨none, 0, [], rfl, Rw.nil _ _⟩
  · simp at hcs
    subst hcs
    have hel : ∀ i, i < len → ∃ y : Rk, ∀ q, q < 4 → W.cell? (a.add (i * 4 + q)) = some (.int .i64 (rkF y q)) := by
      intro i him
      obtain ⟨cs', hc, ht'⟩ := hi i (by rw [hmm]; split <;> omega)
      rw [cells_Rack] at hc
      obtain ⟨_, hcl, hat⟩ := World.cells?_some hc
      obtain ⟨xs, k, -, -, -, hxl, hg⟩ := DataW.trod_struct Tryz.underlying65 ht'
      have hxl' : xs.length = 4 := hxl
      have g0 : DataW.trod enc Tryz.prog W base spare held k 3 ((cs'.drop 0).take (Tryz.prog.cellsOf 3)) = xs[0]? := hg 0 _ rfl
      have g1 : DataW.trod enc Tryz.prog W base spare held k 3 ((cs'.drop 1).take (Tryz.prog.cellsOf 3)) = xs[1]? := hg 1 _ rfl
      have g2 : DataW.trod enc Tryz.prog W base spare held k 3 ((cs'.drop 2).take (Tryz.prog.cellsOf 3)) = xs[2]? := hg 2 _ rfl
      have g3 : DataW.trod enc Tryz.prog W base spare held k 3 ((cs'.drop 3).take (Tryz.prog.cellsOf 3)) = xs[3]? := hg 3 _ rfl
      rw [List.getElem?_eq_getElem (by omega)] at g0 g1 g2 g3
      rw [cells_it] at g0 g1 g2 g3
      match cs', hcl with
      | [c0, c1, c2, c3], _ =>
        obtain ⟨p0, rfl⟩ := open_one64 (u := c0) g0
        obtain ⟨p1, rfl⟩ := open_one64 (u := c1) g1
        obtain ⟨p2, rfl⟩ := open_one64 (u := c2) g2
        obtain ⟨p3, rfl⟩ := open_one64 (u := c3) g3
        have e0 := hat 0 (by omega)
        have e1 := hat 1 (by omega)
        have e2 := hat 2 (by omega)
        have e3 := hat 3 (by omega)
        rw [Go.Deep.add_add] at e0 e1 e2 e3
        refine ⟨⟨p0, p1, p2, p3⟩, fun q hq => ?_⟩
        rcases (by omega : q = 0 ∨ q = 1 ∨ q = 2 ∨ q = 3) with rfl | rfl | rfl | rfl
        · simpa [rkF] using e0
        · simpa [rkF] using e1
        · simpa [rkF] using e2
        · simpa [rkF] using e3
    have inh : Inhabited Rk := ⟨⟨0, 0, 0, 0⟩⟩
    obtain ⟨G, hG⟩ := choose_lt hel
    refine ⟨some a, cap, (List.range len).map G, by simp, by simpa using hl, hm, fun h0 => ?_⟩
    have h0' : 0 < len := by simpa using h0
    obtain ⟨b, off, rfl, hlt⟩ := add_spot (by simpa using hG 0 h0' 0 (by omega))
    refine ⟨b, off, rfl, hlt, fun j q hj i hi2 => ?_⟩
    have hjl : j < len := by have := (List.getElem?_eq_some_iff.1 hj).1; simpa using this
    rw [List.getElem?_map, List.getElem?_range hjl] at hj
    injection hj with hj
    subst hj
    have e := hG j hjl i hi2
    rw [plain_add] at e
    rw [Nat.add_assoc]
    exact e
theorem cells_Link : Tryz.prog.cellsOf 115 = 3 := by kernel_rfl
theorem cells_sLink : Tryz.prog.cellsOf 26 = 1 := by kernel_rfl
theorem open_sLink {fuel : Nat} {x : DataW H × List MemPlace} (hf : DataW.trod enc Tryz.prog W base spare held fuel 26 [v] = some x) : ∃ (A : Option Addr) (c : Nat) (l : List Lk), v = .slice A l.length c ∧ Rw 3 lkF W A c l := by
  rcases open_slice Tryz.underlying26 hf with ⟨h0, _⟩ | ⟨a, len, cap, m, n, D, Pl, hcs, hb, hl, hm, hmm, hx, hi⟩
  · simp at h0
    subst h0
    exact ⟨none, 0, [], rfl, Rw.nil _ _⟩
  · simp at hcs
    subst hcs
    have hel : ∀ i, i < len → ∃ y : Lk, ∀ q, q < 3 → W.cell? (a.add (i * 3 + q)) = some (.int .i64 (lkF y q)) := by
      intro i him
      obtain ⟨cs', hc, ht'⟩ := hi i (by rw [hmm]; split <;> omega)
      rw [cells_Link] at hc
      obtain ⟨_, hcl, hat⟩ := World.cells?_some hc
      obtain ⟨xs, k, -, -, -, hxl, hg⟩ := DataW.trod_struct Tryz.underlying115 ht'
      have hxl' : xs.length = 3 := hxl
      have g0 : DataW.trod enc Tryz.prog W base spare held k 3 ((cs'.drop 0).take (Tryz.prog.cellsOf 3)) = xs[0]? := hg 0 _ rfl
      have g1 : DataW.trod enc Tryz.prog W base spare held k 3 ((cs'.drop 1).take (Tryz.prog.cellsOf 3)) = xs[1]? := hg 1 _ rfl
      have g2 : DataW.trod enc Tryz.prog W base spare held k 3 ((cs'.drop 2).take (Tryz.prog.cellsOf 3)) = xs[2]? := hg 2 _ rfl
      rw [List.getElem?_eq_getElem (by omega)] at g0 g1 g2
      rw [cells_it] at g0 g1 g2
      match cs', hcl with
      | [c0, c1, c2], _ =>
        obtain ⟨p0, rfl⟩ := open_one64 (u := c0) g0
        obtain ⟨p1, rfl⟩ := open_one64 (u := c1) g1
        obtain ⟨p2, rfl⟩ := open_one64 (u := c2) g2
        have e0 := hat 0 (by omega)
        have e1 := hat 1 (by omega)
        have e2 := hat 2 (by omega)
        rw [Go.Deep.add_add] at e0 e1 e2
        refine ⟨⟨p0, p1, p2⟩, fun q hq => ?_⟩
        rcases (by omega : q = 0 ∨ q = 1 ∨ q = 2) with rfl | rfl | rfl
        · simpa [lkF] using e0
        · simpa [lkF] using e1
        · simpa [lkF] using e2
    have inh : Inhabited Lk := ⟨⟨0, 0, 0⟩⟩
    obtain ⟨G, hG⟩ := choose_lt hel
    refine ⟨some a, cap, (List.range len).map G, by simp, by simpa using hl, hm, fun h0 => ?_⟩
    have h0' : 0 < len := by simpa using h0
    obtain ⟨b, off, rfl, hlt⟩ := add_spot (by simpa using hG 0 h0' 0 (by omega))
    refine ⟨b, off, rfl, hlt, fun j q hj i hi2 => ?_⟩
    have hjl : j < len := by have := (List.getElem?_eq_some_iff.1 hj).1; simpa using this
    rw [List.getElem?_map, List.getElem?_range hjl] at hj
    injection hj with hj
    subst hj
    have e := hG j hjl i hi2
    rw [plain_add] at e
    rw [Nat.add_assoc]
    exact e
theorem cells_Host : Tryz.prog.cellsOf 61 = 4 := by kernel_rfl
theorem cells_sHost : Tryz.prog.cellsOf 27 = 1 := by kernel_rfl
theorem open_sHost {fuel : Nat} {x : DataW H × List MemPlace} (hf : DataW.trod enc Tryz.prog W base spare held fuel 27 [v] = some x) : ∃ (A : Option Addr) (c : Nat) (l : List Hs), v = .slice A l.length c ∧ Rw 4 hsF W A c l := by
  rcases open_slice Tryz.underlying27 hf with ⟨h0, _⟩ | ⟨a, len, cap, m, n, D, Pl, hcs, hb, hl, hm, hmm, hx, hi⟩
  · simp at h0
    subst h0
    exact ⟨none, 0, [], rfl, Rw.nil _ _⟩
  · simp at hcs
    subst hcs
    have hel : ∀ i, i < len → ∃ y : Hs, ∀ q, q < 4 → W.cell? (a.add (i * 4 + q)) = some (.int .i64 (hsF y q)) := by
      intro i him
      obtain ⟨cs', hc, ht'⟩ := hi i (by rw [hmm]; split <;> omega)
      rw [cells_Host] at hc
      obtain ⟨_, hcl, hat⟩ := World.cells?_some hc
      obtain ⟨xs, k, -, -, -, hxl, hg⟩ := DataW.trod_struct Tryz.underlying61 ht'
      have hxl' : xs.length = 4 := hxl
      have g0 : DataW.trod enc Tryz.prog W base spare held k 3 ((cs'.drop 0).take (Tryz.prog.cellsOf 3)) = xs[0]? := hg 0 _ rfl
      have g1 : DataW.trod enc Tryz.prog W base spare held k 3 ((cs'.drop 1).take (Tryz.prog.cellsOf 3)) = xs[1]? := hg 1 _ rfl
      have g2 : DataW.trod enc Tryz.prog W base spare held k 3 ((cs'.drop 2).take (Tryz.prog.cellsOf 3)) = xs[2]? := hg 2 _ rfl
      have g3 : DataW.trod enc Tryz.prog W base spare held k 3 ((cs'.drop 3).take (Tryz.prog.cellsOf 3)) = xs[3]? := hg 3 _ rfl
      rw [List.getElem?_eq_getElem (by omega)] at g0 g1 g2 g3
      rw [cells_it] at g0 g1 g2 g3
      match cs', hcl with
      | [c0, c1, c2, c3], _ =>
        obtain ⟨p0, rfl⟩ := open_one64 (u := c0) g0
        obtain ⟨p1, rfl⟩ := open_one64 (u := c1) g1
        obtain ⟨p2, rfl⟩ := open_one64 (u := c2) g2
        obtain ⟨p3, rfl⟩ := open_one64 (u := c3) g3
        have e0 := hat 0 (by omega)
        have e1 := hat 1 (by omega)
        have e2 := hat 2 (by omega)
        have e3 := hat 3 (by omega)
        rw [Go.Deep.add_add] at e0 e1 e2 e3
        refine ⟨⟨p0, p1, p2, p3⟩, fun q hq => ?_⟩
        rcases (by omega : q = 0 ∨ q = 1 ∨ q = 2 ∨ q = 3) with rfl | rfl | rfl | rfl
        · simpa [hsF] using e0
        · simpa [hsF] using e1
        · simpa [hsF] using e2
        · simpa [hsF] using e3
    have inh : Inhabited Hs := ⟨⟨0, 0, 0, 0⟩⟩
    obtain ⟨G, hG⟩ := choose_lt hel
    refine ⟨some a, cap, (List.range len).map G, by simp, by simpa using hl, hm, fun h0 => ?_⟩
    have h0' : 0 < len := by simpa using h0
    obtain ⟨b, off, rfl, hlt⟩ := add_spot (by simpa using hG 0 h0' 0 (by omega))
    refine ⟨b, off, rfl, hlt, fun j q hj i hi2 => ?_⟩
    have hjl : j < len := by have := (List.getElem?_eq_some_iff.1 hj).1; simpa using this
    rw [List.getElem?_map, List.getElem?_range hjl] at hj
    injection hj with hj
    subst hj
    have e := hG j hjl i hi2
    rw [plain_add] at e
    rw [Nat.add_assoc]
    exact e
theorem open_site (h : DataW.Trod enc Tryz.prog W base spare held 29 v d p) (hv : Value.okWide Tryz.prog W r b0 29 v) : ∃ (q : SP) (s : SiteD), v = siV q s ∧ SiAt W q s := by
  obtain ⟨⟨l⟩, rfl, hsz⟩ := okWide_struct Tryz.underlying29 hv
  obtain ⟨fuel, hf⟩ := h
  obtain ⟨xs, k, -, -, -, hl, hg⟩ := DataW.trod_struct Tryz.underlying29 hf
  have hlen : l.length = 7 := hsz.trans cells_site
  have hxl : xs.length = 7 := hl
  have g0 : DataW.trod enc Tryz.prog W base spare held k 22 ((l.drop 0).take (Tryz.prog.cellsOf 22)) = xs[0]? := hg 0 _ rfl
  have g1 : DataW.trod enc Tryz.prog W base spare held k 23 ((l.drop 1).take (Tryz.prog.cellsOf 23)) = xs[1]? := hg 1 _ rfl
  have g2 : DataW.trod enc Tryz.prog W base spare held k 24 ((l.drop 2).take (Tryz.prog.cellsOf 24)) = xs[2]? := hg 2 _ rfl
  have g3 : DataW.trod enc Tryz.prog W base spare held k 25 ((l.drop 3).take (Tryz.prog.cellsOf 25)) = xs[3]? := hg 3 _ rfl
  have g4 : DataW.trod enc Tryz.prog W base spare held k 3 ((l.drop 4).take (Tryz.prog.cellsOf 3)) = xs[4]? := hg 4 _ rfl
  have g5 : DataW.trod enc Tryz.prog W base spare held k 26 ((l.drop 5).take (Tryz.prog.cellsOf 26)) = xs[5]? := hg 5 _ rfl
  have g6 : DataW.trod enc Tryz.prog W base spare held k 27 ((l.drop 6).take (Tryz.prog.cellsOf 27)) = xs[6]? := hg 6 _ rfl
  rw [List.getElem?_eq_getElem (by omega)] at g0 g1 g2 g3 g4 g5 g6
  rw [cells_sFeed] at g0
  rw [cells_sBreaker] at g1
  rw [cells_sLoop] at g2
  rw [cells_sRack] at g3
  rw [cells_it] at g4
  rw [cells_sLink] at g5
  rw [cells_sHost] at g6
  match l, hlen with
  | [c0, c1, c2, c3, c4, c5, c6], _ =>
    obtain ⟨A1, k1, l1, rfl, h1⟩ := open_sFeed (v := c0) g0
    obtain ⟨A2, k2, l2, rfl, h2⟩ := open_sBreaker (v := c1) g1
    obtain ⟨A3, k3, l3, rfl, h3⟩ := open_sLoop (v := c2) g2
    obtain ⟨A4, k4, l4, rfl, h4⟩ := open_sRack (v := c3) g3
    obtain ⟨n, rfl⟩ := open_one64 (u := c4) g4
    obtain ⟨A5, k5, l5, rfl, h5⟩ := open_sLink (v := c5) g5
    obtain ⟨A6, k6, l6, rfl, h6⟩ := open_sHost (v := c6) g6
    exact ⟨⟨A1, k1, A2, k2, A3, k3, A4, k4, A5, k5, A6, k6⟩, ⟨l1, l2, l3, l4, n, l5, l6⟩, rfl, h1, h2, h3, h4, h5, h6⟩
end
end Go.Proofs.YtidpiokkfnhobaaGreat

namespace Go.Proofs.YtidpiokkfnhobaaGreat
open Go.ChangeShapes Go.WideShapes Go.Deep Go.RowKit
set_option maxRecDepth 100000
set_option linter.unusedSimpArgs false
set_option linter.unusedVariables false

theorem cells_ph : Tryz.prog.cellsOf 57 = 1 := by kernel_rfl
theorem cells_dm : Tryz.prog.cellsOf 82 = 1 := by kernel_rfl
theorem cells_world : Tryz.prog.cellsOf 36 = 2 := by kernel_rfl
theorem cells_wish : Tryz.prog.cellsOf 32 = 1 := by kernel_rfl
theorem cells_sint : Tryz.prog.cellsOf 69 = 1 := by kernel_rfl
section
variable {H : Type} {enc : TypeId × Value → H} {W : World} {base : Nat} {spare : Nat → Bool} {held : Bool} {r : Go.Reach} {b0 : Nat} {v : Value} {d : DataW H} {p : List MemPlace}
theorem open_oneP {fuel : Nat} {x : DataW H × List MemPlace} {u : Value} (hf : DataW.trod enc Tryz.prog W base spare held fuel 57 [u] = some x) : ∃ n : Nat, u = .int .u8 (n : Int) ∧ n < 256 := by
  obtain ⟨n, g, -, hw⟩ := DataW.trod_int Tryz.underlying57 hf
  simp at g
  obtain ⟨m, rfl, hm⟩ := u8_wf hw
  exact ⟨m, g, hm⟩
theorem open_oneD {fuel : Nat} {x : DataW H × List MemPlace} {u : Value} (hf : DataW.trod enc Tryz.prog W base spare held fuel 82 [u] = some x) : ∃ n : Nat, u = .int .u8 (n : Int) ∧ n < 256 := by
  obtain ⟨n, g, -, hw⟩ := DataW.trod_int Tryz.underlying82 hf
  simp at g
  obtain ⟨m, rfl, hm⟩ := u8_wf hw
  exact ⟨m, g, hm⟩
/-- Numbers. -/
theorem open_sInt {fuel : Nat} {x : DataW H × List MemPlace} (hf : DataW.trod enc Tryz.prog W base spare held fuel 69 [v] = some x) : ∃ (A : Option Addr) (c : Nat) (l : List Int), v = .slice A l.length c ∧ Rv 1 inV W A c l := by
  rcases open_slice Tryz.underlying69 hf with ⟨h0, _⟩ | ⟨a, len, cap, m, n, D, Pl, hcs, hb, hl, hm, hmm, hx, hi⟩
  · simp at h0
    subst h0
    exact ⟨none, 0, [], rfl, Rv.nil _⟩
  · simp at hcs
    subst hcs
    have hel : ∀ i, i < len → ∃ y : Int, W.cell? (a.add (i * 1)) = some (.int .i64 y) := by
      intro i him
      obtain ⟨cs', hc, ht'⟩ := hi i (by rw [hmm]; split <;> omega)
      rw [cells_it] at hc
      obtain ⟨_, hcl, hat⟩ := World.cells?_some hc
      match cs', hcl with
      | [c0], _ =>
        obtain ⟨p0, rfl⟩ := open_one64 (u := c0) ht'
        have e0 := hat 0 (by omega)
        rw [Go.Deep.add_add] at e0
        exact ⟨p0, by simpa using e0⟩
    obtain ⟨G, hG⟩ := choose_lt hel
    refine ⟨some a, cap, (List.range len).map G, by simp, by simpa using hl, hm, (by intro h; cases h), fun h0 => ?_⟩
    have h0' : 0 < len := by simpa using h0
    obtain ⟨b, off, rfl, hlt⟩ := add_spot (by simpa using hG 0 h0')
    refine ⟨b, off, rfl, hlt, fun j q hj i hi2 => ?_⟩
    have hjl : j < len := by have := (List.getElem?_eq_some_iff.1 hj).1; simpa using this
    rw [List.getElem?_map, List.getElem?_range hjl] at hj
    injection hj with hj
    subst hj
    obtain rfl : i = 0 := by omega
    have e := hG j hjl
    rw [plain_add] at e
    exact e
theorem cells_Near : Tryz.prog.cellsOf 139 = 2 := by kernel_rfl
theorem cells_sNear : Tryz.prog.cellsOf 83 = 1 := by kernel_rfl
theorem open_sNear {fuel : Nat} {x : DataW H × List MemPlace} (hf : DataW.trod enc Tryz.prog W base spare held fuel 83 [v] = some x) : ∃ (A : Option Addr) (c : Nat) (l : List Nr), v = .slice A l.length c ∧ Rv 2 nrV W A c l := by
  rcases open_slice Tryz.underlying83 hf with ⟨h0, _⟩ | ⟨a, len, cap, m, n, D, Pl, hcs, hb, hl, hm, hmm, hx, hi⟩
  · simp at h0
    subst h0
    exact ⟨none, 0, [], rfl, Rv.nil _⟩
  · simp at hcs
    subst hcs
    have hel : ∀ i, i < len → ∃ y : Nr, (∀ q, q < 2 → W.cell? (a.add (i * 2 + q)) = some (nrV y q)) := by
      intro i him
      obtain ⟨cs', hc, ht'⟩ := hi i (by rw [hmm]; split <;> omega)
      rw [cells_Near] at hc
      obtain ⟨_, hcl, hat⟩ := World.cells?_some hc
      obtain ⟨xs, k, -, -, -, hxl, hg⟩ := DataW.trod_struct Tryz.underlying139 ht'
      have hxl' : xs.length = 2 := hxl
      have g0 : DataW.trod enc Tryz.prog W base spare held k 3 ((cs'.drop 0).take (Tryz.prog.cellsOf 3)) = xs[0]? := hg 0 _ rfl
      have g1 : DataW.trod enc Tryz.prog W base spare held k 3 ((cs'.drop 1).take (Tryz.prog.cellsOf 3)) = xs[1]? := hg 1 _ rfl
      rw [List.getElem?_eq_getElem (by omega)] at g0 g1
      rw [cells_it] at g0
      rw [cells_it] at g1
      match cs', hcl with
      | [c0, c1], _ =>
        obtain ⟨p0, rfl⟩ := open_one64 (u := c0) g0
        obtain ⟨p1, rfl⟩ := open_one64 (u := c1) g1
        have e0 := hat 0 (by omega)
        have e1 := hat 1 (by omega)
        rw [Go.Deep.add_add] at e0 e1
        refine ⟨⟨p0, p1⟩, fun q hq => ?_⟩
        rcases (by omega : q = 0 ∨ q = 1) with rfl | rfl
        · simpa [nrV] using e0
        · simpa [nrV] using e1
    have inh : Inhabited Nr := ⟨⟨0, 0⟩⟩
    obtain ⟨G, hG⟩ := choose_lt hel
    refine ⟨some a, cap, (List.range len).map G, by simp, ⟨by simpa using hl, hm, (by intro h; cases h), fun h0 => ?_⟩⟩
    have h0' : 0 < len := by simpa using h0
    obtain ⟨b, off, rfl, hlt⟩ := add_spot (by simpa using hG 0 h0' 0 (by omega))
    refine ⟨b, off, rfl, hlt, fun j q hj i hi2 => ?_⟩
    have hjl : j < len := by have := (List.getElem?_eq_some_iff.1 hj).1; simpa using this
    rw [List.getElem?_map, List.getElem?_range hjl] at hj
    injection hj with hj
    subst hj
    have e := hG j hjl i hi2
    rw [plain_add] at e
    rw [Nat.add_assoc]
    exact e
theorem cells_Replica : Tryz.prog.cellsOf 79 = 2 := by kernel_rfl
theorem cells_sReplica : Tryz.prog.cellsOf 34 = 1 := by kernel_rfl
theorem open_sReplica {fuel : Nat} {x : DataW H × List MemPlace} (hf : DataW.trod enc Tryz.prog W base spare held fuel 34 [v] = some x) : ∃ (A : Option Addr) (c : Nat) (l : List Rep), v = .slice A l.length c ∧ Rv 2 repV W A c l := by
  rcases open_slice Tryz.underlying34 hf with ⟨h0, _⟩ | ⟨a, len, cap, m, n, D, Pl, hcs, hb, hl, hm, hmm, hx, hi⟩
  · simp at h0
    subst h0
    exact ⟨none, 0, [], rfl, Rv.nil _⟩
  · simp at hcs
    subst hcs
    have hel : ∀ i, i < len → ∃ y : Rep, (∀ q, q < 2 → W.cell? (a.add (i * 2 + q)) = some (repV y q)) := by
      intro i him
      obtain ⟨cs', hc, ht'⟩ := hi i (by rw [hmm]; split <;> omega)
      rw [cells_Replica] at hc
      obtain ⟨_, hcl, hat⟩ := World.cells?_some hc
      obtain ⟨xs, k, -, -, -, hxl, hg⟩ := DataW.trod_struct Tryz.underlying79 ht'
      have hxl' : xs.length = 2 := hxl
      have g0 : DataW.trod enc Tryz.prog W base spare held k 3 ((cs'.drop 0).take (Tryz.prog.cellsOf 3)) = xs[0]? := hg 0 _ rfl
      have g1 : DataW.trod enc Tryz.prog W base spare held k 3 ((cs'.drop 1).take (Tryz.prog.cellsOf 3)) = xs[1]? := hg 1 _ rfl
      rw [List.getElem?_eq_getElem (by omega)] at g0 g1
      rw [cells_it] at g0
      rw [cells_it] at g1
      match cs', hcl with
      | [c0, c1], _ =>
        obtain ⟨p0, rfl⟩ := open_one64 (u := c0) g0
        obtain ⟨p1, rfl⟩ := open_one64 (u := c1) g1
        have e0 := hat 0 (by omega)
        have e1 := hat 1 (by omega)
        rw [Go.Deep.add_add] at e0 e1
        refine ⟨⟨p0, p1⟩, fun q hq => ?_⟩
        rcases (by omega : q = 0 ∨ q = 1) with rfl | rfl
        · simpa [repV] using e0
        · simpa [repV] using e1
    have inh : Inhabited Rep := ⟨⟨0, 0⟩⟩
    obtain ⟨G, hG⟩ := choose_lt hel
    refine ⟨some a, cap, (List.range len).map G, by simp, ⟨by simpa using hl, hm, (by intro h; cases h), fun h0 => ?_⟩⟩
    have h0' : 0 < len := by simpa using h0
    obtain ⟨b, off, rfl, hlt⟩ := add_spot (by simpa using hG 0 h0' 0 (by omega))
    refine ⟨b, off, rfl, hlt, fun j q hj i hi2 => ?_⟩
    have hjl : j < len := by have := (List.getElem?_eq_some_iff.1 hj).1; simpa using this
    rw [List.getElem?_map, List.getElem?_range hjl] at hj
    injection hj with hj
    subst hj
    have e := hG j hjl i hi2
    rw [plain_add] at e
    rw [Nat.add_assoc]
    exact e
theorem cells_HostState : Tryz.prog.cellsOf 59 = 2 := by kernel_rfl
theorem cells_sHostState : Tryz.prog.cellsOf 33 = 1 := by kernel_rfl
theorem open_sHostState {fuel : Nat} {x : DataW H × List MemPlace} (hf : DataW.trod enc Tryz.prog W base spare held fuel 33 [v] = some x) : ∃ (A : Option Addr) (c : Nat) (l : List Hst), v = .slice A l.length c ∧ Rv 2 hstV W A c l ∧ ∀ h ∈ l, h.phase < 256 := by
  rcases open_slice Tryz.underlying33 hf with ⟨h0, _⟩ | ⟨a, len, cap, m, n, D, Pl, hcs, hb, hl, hm, hmm, hx, hi⟩
  · simp at h0
    subst h0
    exact ⟨none, 0, [], rfl, Rv.nil _, by simp⟩
  · simp at hcs
    subst hcs
    have hel : ∀ i, i < len → ∃ y : Hst, (∀ q, q < 2 → W.cell? (a.add (i * 2 + q)) = some (hstV y q)) ∧ y.phase < 256 := by
      intro i him
      obtain ⟨cs', hc, ht'⟩ := hi i (by rw [hmm]; split <;> omega)
      rw [cells_HostState] at hc
      obtain ⟨_, hcl, hat⟩ := World.cells?_some hc
      obtain ⟨xs, k, -, -, -, hxl, hg⟩ := DataW.trod_struct Tryz.underlying59 ht'
      have hxl' : xs.length = 2 := hxl
      have g0 : DataW.trod enc Tryz.prog W base spare held k 57 ((cs'.drop 0).take (Tryz.prog.cellsOf 57)) = xs[0]? := hg 0 _ rfl
      have g1 : DataW.trod enc Tryz.prog W base spare held k 3 ((cs'.drop 1).take (Tryz.prog.cellsOf 3)) = xs[1]? := hg 1 _ rfl
      rw [List.getElem?_eq_getElem (by omega)] at g0 g1
      rw [cells_ph] at g0
      rw [cells_it] at g1
      match cs', hcl with
      | [c0, c1], _ =>
        obtain ⟨p0, rfl, hp⟩ := open_oneP (u := c0) g0
        obtain ⟨p1, rfl⟩ := open_one64 (u := c1) g1
        have e0 := hat 0 (by omega)
        have e1 := hat 1 (by omega)
        rw [Go.Deep.add_add] at e0 e1
        refine ⟨⟨p0, p1⟩, ⟨fun q hq => ?_, hp⟩⟩
        rcases (by omega : q = 0 ∨ q = 1) with rfl | rfl
        · simpa [hstV] using e0
        · simpa [hstV] using e1
    have inh : Inhabited Hst := ⟨⟨0, 0⟩⟩
    obtain ⟨G, hG⟩ := choose_lt hel
    refine ⟨some a, cap, (List.range len).map G, by simp, ⟨⟨by simpa using hl, hm, (by intro h; cases h), fun h0 => ?_⟩, fun h hh => ?_⟩⟩
    · have h0' : 0 < len := by simpa using h0
      obtain ⟨b, off, rfl, hlt⟩ := add_spot (by simpa using (hG 0 h0').1 0 (by omega))
      refine ⟨b, off, rfl, hlt, fun j q hj i hi2 => ?_⟩
      have hjl : j < len := by have := (List.getElem?_eq_some_iff.1 hj).1; simpa using this
      rw [List.getElem?_map, List.getElem?_range hjl] at hj
      injection hj with hj
      subst hj
      have e := (hG j hjl).1 i hi2
      rw [plain_add] at e
      rw [Nat.add_assoc]
      exact e
    · obtain ⟨i, hi2, rfl⟩ := List.mem_map.1 hh
      exact (hG i (List.mem_range.1 hi2)).2
theorem cells_Service : Tryz.prog.cellsOf 85 = 8 := by kernel_rfl
theorem cells_sService : Tryz.prog.cellsOf 30 = 1 := by kernel_rfl
theorem open_sService {fuel : Nat} {x : DataW H × List MemPlace} (hf : DataW.trod enc Tryz.prog W base spare held fuel 30 [v] = some x) : ∃ (A : Option Addr) (c : Nat) (l : List (Svc × SvA)), v = .slice A l.length c ∧ WiAt W A c l := by
  rcases open_slice Tryz.underlying30 hf with ⟨h0, _⟩ | ⟨a, len, cap, m, n, D, Pl, hcs, hb, hl, hm, hmm, hx, hi⟩
  · simp at h0
    subst h0
    exact ⟨none, 0, [], rfl, ⟨Rv.nil _, fun x hx => by cases hx⟩⟩
  · simp at hcs
    subst hcs
    have hel : ∀ i, i < len → ∃ y : Svc × SvA, (∀ q, q < 8 → W.cell? (a.add (i * 8 + q)) = some (svV y q)) ∧ SvAt W y := by
      intro i him
      obtain ⟨cs', hc, ht'⟩ := hi i (by rw [hmm]; split <;> omega)
      rw [cells_Service] at hc
      obtain ⟨_, hcl, hat⟩ := World.cells?_some hc
      obtain ⟨xs, k, -, -, -, hxl, hg⟩ := DataW.trod_struct Tryz.underlying85 ht'
      have hxl' : xs.length = 8 := hxl
      have g0 : DataW.trod enc Tryz.prog W base spare held k 3 ((cs'.drop 0).take (Tryz.prog.cellsOf 3)) = xs[0]? := hg 0 _ rfl
      have g1 : DataW.trod enc Tryz.prog W base spare held k 3 ((cs'.drop 1).take (Tryz.prog.cellsOf 3)) = xs[1]? := hg 1 _ rfl
      have g2 : DataW.trod enc Tryz.prog W base spare held k 3 ((cs'.drop 2).take (Tryz.prog.cellsOf 3)) = xs[2]? := hg 2 _ rfl
      have g3 : DataW.trod enc Tryz.prog W base spare held k 82 ((cs'.drop 3).take (Tryz.prog.cellsOf 82)) = xs[3]? := hg 3 _ rfl
      have g4 : DataW.trod enc Tryz.prog W base spare held k 3 ((cs'.drop 4).take (Tryz.prog.cellsOf 3)) = xs[4]? := hg 4 _ rfl
      have g5 : DataW.trod enc Tryz.prog W base spare held k 69 ((cs'.drop 5).take (Tryz.prog.cellsOf 69)) = xs[5]? := hg 5 _ rfl
      have g6 : DataW.trod enc Tryz.prog W base spare held k 83 ((cs'.drop 6).take (Tryz.prog.cellsOf 83)) = xs[6]? := hg 6 _ rfl
      have g7 : DataW.trod enc Tryz.prog W base spare held k 3 ((cs'.drop 7).take (Tryz.prog.cellsOf 3)) = xs[7]? := hg 7 _ rfl
      rw [List.getElem?_eq_getElem (by omega)] at g0 g1 g2 g3 g4 g5 g6 g7
      rw [cells_it] at g0
      rw [cells_it] at g1
      rw [cells_it] at g2
      rw [cells_dm] at g3
      rw [cells_it] at g4
      rw [cells_sint] at g5
      rw [cells_sNear] at g6
      rw [cells_it] at g7
      match cs', hcl with
      | [c0, c1, c2, c3, c4, c5, c6, c7], _ =>
        obtain ⟨p0, rfl⟩ := open_one64 (u := c0) g0
        obtain ⟨p1, rfl⟩ := open_one64 (u := c1) g1
        obtain ⟨p2, rfl⟩ := open_one64 (u := c2) g2
        obtain ⟨p3, rfl, hp⟩ := open_oneD (u := c3) g3
        obtain ⟨p4, rfl⟩ := open_one64 (u := c4) g4
        obtain ⟨A5, k5, p5, rfl, h5⟩ := open_sInt (v := c5) g5
        obtain ⟨A6, k6, p6, rfl, h6⟩ := open_sNear (v := c6) g6
        obtain ⟨p7, rfl⟩ := open_one64 (u := c7) g7
        have e0 := hat 0 (by omega)
        have e1 := hat 1 (by omega)
        have e2 := hat 2 (by omega)
        have e3 := hat 3 (by omega)
        have e4 := hat 4 (by omega)
        have e5 := hat 5 (by omega)
        have e6 := hat 6 (by omega)
        have e7 := hat 7 (by omega)
        rw [Go.Deep.add_add] at e0 e1 e2 e3 e4 e5 e6 e7
        refine ⟨(⟨p0, p1, p2, p3, p4, p5, p6, p7⟩, ⟨A5, k5, A6, k6⟩), fun q hq => ?_, ⟨h5, h6, hp⟩⟩
        rcases (by omega : q = 0 ∨ q = 1 ∨ q = 2 ∨ q = 3 ∨ q = 4 ∨ q = 5 ∨ q = 6 ∨ q = 7) with rfl | rfl | rfl | rfl | rfl | rfl | rfl | rfl
        · simpa [svV] using e0
        · simpa [svV] using e1
        · simpa [svV] using e2
        · simpa [svV] using e3
        · simpa [svV] using e4
        · simpa [svV] using e5
        · simpa [svV] using e6
        · simpa [svV] using e7
    have inh : Inhabited (Svc × SvA) := ⟨(⟨0, 0, 0, 0, 0, [], [], 0⟩, ⟨none, 0, none, 0⟩)⟩
    obtain ⟨G, hG⟩ := choose_lt hel
    refine ⟨some a, cap, (List.range len).map G, by simp, ⟨⟨by simpa using hl, hm, (by intro h; cases h), fun h0 => ?_⟩, fun h hh => ?_⟩⟩
    · have h0' : 0 < len := by simpa using h0
      obtain ⟨b, off, rfl, hlt⟩ := add_spot (by simpa using (hG 0 h0').1 0 (by omega))
      refine ⟨b, off, rfl, hlt, fun j q hj i hi2 => ?_⟩
      have hjl : j < len := by have := (List.getElem?_eq_some_iff.1 hj).1; simpa using this
      rw [List.getElem?_map, List.getElem?_range hjl] at hj
      injection hj with hj
      subst hj
      have e := (hG j hjl).1 i hi2
      rw [plain_add] at e
      rw [Nat.add_assoc]
      exact e
    · obtain ⟨i, hi2, rfl⟩ := List.mem_map.1 hh
      exact (hG i (List.mem_range.1 hi2)).2
theorem open_wish (h : DataW.Trod enc Tryz.prog W base spare held 32 v d p) (hv : Value.okWide Tryz.prog W r b0 32 v) : ∃ (A : Option Addr) (c : Nat) (l : List (Svc × SvA)), v = .agg #[.slice A l.length c] ∧ WiAt W A c l := by
  obtain ⟨⟨l⟩, rfl, hsz⟩ := okWide_struct Tryz.underlying32 hv
  obtain ⟨fuel, hf⟩ := h
  obtain ⟨xs, k, -, -, -, hl, hg⟩ := DataW.trod_struct Tryz.underlying32 hf
  have hlen : l.length = 1 := hsz.trans cells_wish
  have hxl : xs.length = 1 := hl
  have g0 : DataW.trod enc Tryz.prog W base spare held k 30 ((l.drop 0).take (Tryz.prog.cellsOf 30)) = xs[0]? := hg 0 _ rfl
  rw [List.getElem?_eq_getElem (by omega), cells_sService] at g0
  match l, hlen with
  | [c0], _ =>
    obtain ⟨A1, k1, l1, rfl, h1⟩ := open_sService (v := c0) g0
    exact ⟨A1, k1, l1, rfl, h1⟩
theorem open_world (h : DataW.Trod enc Tryz.prog W base spare held 36 v d p) (hv : Value.okWide Tryz.prog W r b0 36 v) : ∃ (q : WP) (s : WorldD), v = .agg #[.slice q.a1 s.hosts.length q.c1, .slice q.a2 s.reps.length q.c2] ∧ WoAt W q s := by
  obtain ⟨⟨l⟩, rfl, hsz⟩ := okWide_struct Tryz.underlying36 hv
  obtain ⟨fuel, hf⟩ := h
  obtain ⟨xs, k, -, -, -, hl, hg⟩ := DataW.trod_struct Tryz.underlying36 hf
  have hlen : l.length = 2 := hsz.trans cells_world
  have hxl : xs.length = 2 := hl
  have g0 : DataW.trod enc Tryz.prog W base spare held k 33 ((l.drop 0).take (Tryz.prog.cellsOf 33)) = xs[0]? := hg 0 _ rfl
  have g1 : DataW.trod enc Tryz.prog W base spare held k 34 ((l.drop 1).take (Tryz.prog.cellsOf 34)) = xs[1]? := hg 1 _ rfl
  rw [List.getElem?_eq_getElem (by omega)] at g0 g1
  rw [cells_sHostState] at g0
  rw [cells_sReplica] at g1
  match l, hlen with
  | [c0, c1], _ =>
    obtain ⟨A1, k1, l1, rfl, h1, hp⟩ := open_sHostState (v := c0) g0
    obtain ⟨A2, k2, l2, rfl, h2⟩ := open_sReplica (v := c1) g1
    exact ⟨⟨A1, k1, A2, k2⟩, ⟨l1, l2⟩, rfl, ⟨h1, h2, hp⟩⟩
end
end Go.Proofs.YtidpiokkfnhobaaGreat
