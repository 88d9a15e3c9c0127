/-
  DERIVED. ValidWish and Valid of the specification (written by gen/world_FD.py).
-/
import Derived.Test.YtplncglgolhfaaaFC
import Derived.Test.YtplncglgolhfaaaEG
import Derived.Test.YtplncglgolhfaaaEP
namespace Go.Proofs.Ytplncglgolhfaaa
open Go.RowKit
set_option maxRecDepth 100000
set_option linter.unusedVariables false
set_option linter.unusedSimpArgs false

set_option maxHeartbeats 16000000 in
theorem c_wrValidWish (A : Option Addr) (c : Nat) (xs : List (Svc × SvA)) (r : Bool) (hr : r = true ↔ WishOk (svs xs)) (w : World) (h : WiAt w A c xs) :
    Calls Try.prog 13 #[.agg #[.slice A xs.length c]] w fun e w' => e = .returned (.bool r) ∧ Below w.heap.size w w' := by
  obtain ⟨W, hW⟩ : ∃ W, W = w.alloc (.cells #[.slice A xs.length c] 32) := ⟨_, rfl⟩
  have B0 : Below w.heap.size w W := by subst hW; exact (Below.refl _ _).alloc (Nat.le_refl _) _
  have HB := Lib.hid B0
  have hle := B0.size
  have HX : W.heap[w.heap.size]? = some (.cells #[.slice A xs.length c] 32 (0, 0)) := by subst hW; exact box_new _ _ _
  have HF := Lib.hid (fun (X : World) (hX : Below W.heap.size W X) => (cell_of (box_on HX hX (Nat.le_refl _)) rfl : X.cell? ⟨w.heap.size, 0, none⟩ = some (.slice A xs.length c)))
  have x0 := HF.out W (Below.refl _ _)
  have H := Lib.hid (h.on B0 (Nat.le_refl _))
  have hc1 := h.row.1
  have hc2 := h.row.2.1
  unfold maxLen at hc2
  have hsl := svs_len xs
  have HR := Lib.hid hr
  clear hr h HX B0
  generalize hA : w.heap.size = B at *
  rw [hW] at x0
  by_cases h8 : xs.length ≤ 8
  · have hd8 : decide ((8 : Int) < (xs.length : Int)) = false := decide_eq_false (by omega)
    go_enter Try.func13, Try.ntmps13
    go_wp2_with (fail)
    rw [← hW]
    clear hW x0
    go_loopw [3, 4] (fun sm i wr => ∃ k : Nat, k ≤ xs.length ∧ sm = .int .i64 (sumR ((svs xs).take k)) ∧ i = .int .i64 (k : Int) ∧ Hid (∀ (i : Nat) s, i < k → (svs xs)[i]? = some s → svcB s i xs.length = true) ∧ Hid (Below W.heap.size W wr)) (fun _ i _ => xs.length - (intOf i).toNat)
    case atStart => exact ⟨0, Nat.zero_le _, rfl, rfl, Lib.hid (fun i s hi => absurd hi (by omega)), Lib.hid (Below.refl _ _)⟩
    case round =>
      obtain ⟨k, hk, rfl, rfl, hok, hK⟩ := hrel
      have hbd := sumR_bound (ss := svs xs) (k := k) (by omega) fun i s hi hs => keepB_reps (by have := hok.out i s hi hs; unfold svcB at this; rw [Bool.and_eq_true] at this; exact this.1)
      obtain ⟨sm, hsm⟩ : ∃ sm, sumR ((svs xs).take k) = sm := ⟨_, rfl⟩
      have HSM := Lib.hid hsm
      rw [hsm] at hbd ⊢
      clear hsm
      have x0 := HF.out wr hK.out
      by_cases hlt : k < xs.length
      · obtain ⟨x, hx⟩ : ∃ x, xs[k]? = some x := ⟨_, List.getElem?_eq_getElem hlt⟩
        have HXX := Lib.hid hx
        have HSV := Lib.hid (svs_at hx)
        have hki : ((k : Nat) : Int).toNat = k := by omega
        have hlt' : (k : Int) < ((xs.length : Nat) : Int) := by omega
        obtain ⟨q1, hq1⟩ : ∃ q, svcB x.1 (k : Int) (xs.length : Int) = q := ⟨_, rfl⟩
        have Q1 := Lib.hid hq1
        clear hq1 hx
        go_wp2_with (fail)
        go_at_call 40
        refine (c_service A c xs k x HXX.out q1 Q1.out wr (H.out.on hK.out (Nat.le_refl _))).mono ?_
        rintro e w1 ⟨rfl, b1⟩
        have K1 := Lib.hid (below_join hK.out b1 hK.out.size)
        clear b1 x0
        cases q1
        · obtain rfl : false = r := by
            rcases r with _ | _
            · rfl
            · exact absurd (HR.out.1 rfl) (wish_no HSV.out Q1.out)
          go_wp2_with (fail)
          go_ret
          exact ⟨rfl, below_join HB.out K1.out hle⟩
        · have x0 := HF.out w1 K1.out
          have HK := H.out.on K1.out (Nat.le_refl _)
          obtain ⟨pb, po, rfl, -, -⟩ := HK.row.at_ HXX.out
          obtain ⟨-, y1, -⟩ := sv_at HK.row HXX.out
          have hrp := keepB_reps (by have := Q1.out; unfold svcB at this; rw [Bool.and_eq_true] at this; exact this.1)
          have HN := Lib.hid (show sumR ((svs xs).take (k + 1)) = sm + x.1.reps by rw [sumR_take HSV.out, HSM.out])
          have HO := Lib.hid (show ∀ (i : Nat) s, i < k + 1 → (svs xs)[i]? = some s → svcB s i xs.length = true from fun i s hi hs => by
            rcases Nat.lt_or_ge i k with h | h
            · exact hok.out i s h hs
            · obtain rfl : i = k := by omega
              rw [HSV.out] at hs
              injection hs with hs
              subst hs
              exact Q1.out)
          clear HK
          go_wp2_with (fail)
          go_roundw
          case rel => exact ⟨k + 1, by omega, by rw [HN.out], by go_num, HO, K1⟩
          case measure => simp only [intOf]; omega
      · obtain rfl : k = xs.length := by omega
        have hd : decide (sm ≤ 24) = r := by
          have e : sumR (svs xs) = sm := by rw [← HSM.out, ← hsl, List.take_length]
          rw [Bool.eq_iff_iff, decide_eq_true_eq, HR.out, ← e]
          exact ⟨fun h => ⟨by omega, fun i s hs => by rw [hsl]; exact hok.out i s (by have := (List.getElem?_eq_some_iff.1 hs).1; omega) hs, h⟩, fun h => h.2.2⟩
        go_wp2_with (fail)
        go_ret
        exact ⟨rfl, below_join HB.out hK.out hle⟩
  · have hd8 : decide ((8 : Int) < (xs.length : Int)) = true := decide_eq_true (by omega)
    obtain rfl : false = r := by
      rcases r with _ | _
      · rfl
      · exact absurd (HR.out.1 rfl).1 (by omega)
    go_enter Try.func13, Try.ntmps13
    go_wp2_with (fail)
    go_ret
    rw [← hW]
    exact ⟨rfl, HB.out⟩
theorem no_of {P : Prop} {r : Bool} (hr : r = true ↔ P) (h : ¬ P) : r = false := by
  rcases r with _ | _
  · rfl
  · exact absurd (hr.1 rfl) h
set_option maxHeartbeats 32000000 in
theorem c_wrValid (p : SP) (s : SiteD) (A : Option Addr) (c : Nat) (xs : List (Svc × SvA)) (q : WP) (d : WorldD) (r : Bool) (hr : r = true ↔ WorldOk s (svs xs) d) (w : World) (hs : SiAt w p s) (hx : WiAt w A c xs) (hd : WoAt w q d) :
    Calls Try.prog 15 #[siV p s, .agg #[.slice A xs.length c], .agg (woA q d)] w fun e w' => e = .returned (.bool r) ∧ Below w.heap.size w w' := by
  unfold siV woA
  obtain ⟨W1, h1⟩ : ∃ W, W = w.alloc (.cells #[.slice p.a1 s.feeds.length p.c1, .slice p.a2 s.brks.length p.c2, .slice p.a3 s.loops.length p.c3, .slice p.a4 s.racks.length p.c4, .int .i64 s.sw, .slice p.a5 s.links.length p.c5, .slice p.a6 s.hosts.length p.c6] 29) := ⟨_, rfl⟩
  obtain ⟨W2, h2⟩ : ∃ W, W = W1.alloc (.cells #[.slice A xs.length c] 32) := ⟨_, rfl⟩
  obtain ⟨W, h3⟩ : ∃ W, W = W2.alloc (.cells (woA q d) 36) := ⟨_, rfl⟩
  obtain ⟨B0, X1, X2, X3⟩ := three_boxes h1 h2 h3
  have HB := Lib.hid B0
  have HS := Lib.hid (hs.on B0 (Nat.le_refl _))
  have HX := Lib.hid (hx.on B0 (Nat.le_refl _))
  have HD := Lib.hid (hd.on B0 (Nat.le_refl _))
  have HF := Lib.hid (fun (X : World) (hX : Below W.heap.size W X) => (⟨cell_of (box_on X1 hX (Nat.le_refl _)) rfl, cell_of (box_on X1 hX (Nat.le_refl _)) rfl, cell_of (box_on X1 hX (Nat.le_refl _)) rfl, cell_of (box_on X1 hX (Nat.le_refl _)) rfl, cell_of (box_on X1 hX (Nat.le_refl _)) rfl, cell_of (box_on X1 hX (Nat.le_refl _)) rfl, cell_of (box_on X1 hX (Nat.le_refl _)) rfl, cell_of (box_on X2 hX (Nat.le_refl _)) rfl, cell_of (box_on X3 hX (Nat.le_refl _)) rfl, cell_of (box_on X3 hX (Nat.le_refl _)) rfl⟩ : X.cell? ⟨w.heap.size, 0, none⟩ = some (.slice p.a1 s.feeds.length p.c1) ∧ X.cell? ⟨w.heap.size, 1, none⟩ = some (.slice p.a2 s.brks.length p.c2) ∧ X.cell? ⟨w.heap.size, 2, none⟩ = some (.slice p.a3 s.loops.length p.c3) ∧ X.cell? ⟨w.heap.size, 3, none⟩ = some (.slice p.a4 s.racks.length p.c4) ∧ X.cell? ⟨w.heap.size, 4, none⟩ = some (.int .i64 s.sw) ∧ X.cell? ⟨w.heap.size, 5, none⟩ = some (.slice p.a5 s.links.length p.c5) ∧ X.cell? ⟨w.heap.size, 6, none⟩ = some (.slice p.a6 s.hosts.length p.c6) ∧ X.cell? ⟨w.heap.size + 1, 0, none⟩ = some (.slice A xs.length c) ∧ X.cell? ⟨w.heap.size + 1 + 1, 0, none⟩ = some (.slice q.a1 d.hosts.length q.c1) ∧ X.cell? ⟨w.heap.size + 1 + 1, 1, none⟩ = some (.slice q.a2 d.reps.length q.c2)))
  have n1 := hd.hosts.1; have n2 := hd.hosts.2.1; have n3 := hd.reps.1; have n4 := hd.reps.2.1; have n5 := hs.hosts.1; have n6 := hs.hosts.2.1; have n7 := hx.row.1; have n8 := hx.row.2.1
  unfold maxLen at n2 n4 n6 n8
  have HR := Lib.hid hr
  have KW := Lib.hid (Below.refl W.heap.size W)
  have hle : w.heap.size ≤ W.heap.size := B0.size
  have HSL := Lib.hid (svs_len xs)
  clear B0 hr hs hx hd X1 X2 X3
  obtain ⟨f0, f1, f2, f3, f4, f5, f6, g0, g1, g2⟩ := HF.out W KW.out
  unfold woA at h3
  rw [h3, h2, h1] at f0 f1 f2 f3 f4 f5 f6 g0 g1 g2
  generalize hA : w.heap.size = B at *
  go_enter Try.func15, Try.ntmps15
  go_wp2_with (fail)
  rw [← h1, ← h2, ← h3] at f0 f1 f2 f3 f4 f5 f6 g0 g1 g2 ⊢
  clear h1 h2 h3
  obtain ⟨q0, h0⟩ : ∃ b, siteOk s = b := ⟨_, rfl⟩
  have Q0 := Lib.hid h0
  clear h0
  go_at_call 49
  refine (c_srValid p s q0 Q0.out W HS.out).mono ?_
  rintro e w1 ⟨rfl, b1⟩
  have K1 := Lib.hid b1
  clear b1
  clear f0 f1 f2 f3 f4 f5 f6 g0 g1 g2
  obtain ⟨f0, f1, f2, f3, f4, f5, f6, g0, g1, g2⟩ := HF.out w1 K1.out
  cases q0
  · obtain rfl : r = false := no_of HR.out (fun h => by have := h.1; rw [Q0.out] at this; cases this)
    go_wp2_with (fail)
    go_ret
    exact ⟨rfl, below_join HB.out K1.out hle⟩
  go_wp2_with (fail)
  obtain ⟨q1, h1⟩ : ∃ b : Bool, b = true ↔ WishOk (svs xs) := by
    by_cases h : WishOk (svs xs)
    · exact ⟨true, by simp [h]⟩
    · exact ⟨false, by simp [h]⟩
  have Q1 := Lib.hid h1
  clear h1
  go_at_call 13
  refine (c_wrValidWish A c xs q1 Q1.out w1 (HX.out.on K1.out (Nat.le_refl _))).mono ?_
  rintro e w2 ⟨rfl, b2⟩
  have K2 := Lib.hid (below_join K1.out b2 K1.out.size)
  clear b2
  clear f0 f1 f2 f3 f4 f5 f6 g0 g1 g2
  obtain ⟨f0, f1, f2, f3, f4, f5, f6, g0, g1, g2⟩ := HF.out w2 K2.out
  cases q1
  · obtain rfl : r = false := no_of HR.out (fun h => by have := Q1.out.2 h.2.1; cases this)
    go_wp2_with (fail)
    go_ret
    exact ⟨rfl, below_join HB.out K2.out hle⟩
  rcases h2 : ((d.hosts.length : Int) != (s.hosts.length : Int)) with _ | _
  rotate_left
  · have Q2 := Lib.hid h2
    obtain rfl : r = false := no_of HR.out (fun h => by have e := h.2.2.1; have := Q2.out; rw [e] at this; simp at this)
    go_wp2_with (fail)
    go_ret
    exact ⟨rfl, below_join HB.out K2.out hle⟩
  have Q2 := Lib.hid (show d.hosts.length = s.hosts.length by rw [bne_eq_false_iff_eq] at h2; omega)
  rcases h4 : decide ((24 : Int) < (d.reps.length : Int)) with _ | _
  rotate_left
  · have Q4 := Lib.hid h4
    obtain rfl : r = false := no_of HR.out (fun h => by have e := h.2.2.2.2.1; have := of_decide_eq_true Q4.out; omega)
    go_wp2_with (fail)
    go_ret
    exact ⟨rfl, below_join HB.out K2.out hle⟩
  have Q4 := Lib.hid (show d.reps.length ≤ 24 by have := of_decide_eq_false h4; omega)
  go_wp2_with (fail)
  clear h2 h4
  obtain ⟨q6, h6⟩ : ∃ b, ascB d.reps = b := ⟨_, rfl⟩
  have Q6 := Lib.hid h6
  clear h6
  go_at_call 50
  refine (c_Ascending q.a2 q.c2 d.reps q6 Q6.out w2 (HD.out.on K2.out (Nat.le_refl _)).reps).mono ?_
  rintro e w3 ⟨rfl, b3⟩
  have K3 := Lib.hid (below_join K2.out b3 K2.out.size)
  clear b3
  clear f0 f1 f2 f3 f4 f5 f6 g0 g1 g2
  obtain ⟨f0, f1, f2, f3, f4, f5, f6, g0, g1, g2⟩ := HF.out w3 K3.out
  cases q6
  · obtain rfl : r = false := no_of HR.out (fun h => by have e := h.2.2.2.2.2.2; rw [Q6.out] at e; cases e)
    go_wp2_with (fail)
    go_ret
    exact ⟨rfl, below_join HB.out K3.out hle⟩
  have HOW := Lib.hid (Q1.out.1 (by trivial))
  go_wp2_with (fail)
  clear f0 f1 f2 f3 f4 f5 f6 g0 g1 g2
  go_loopw [7] (fun i wr => ∃ k : Nat, k ≤ d.hosts.length ∧ i = .int .i64 (k : Int) ∧ Hid (∀ (j : Nat) x, j < k → d.hosts[j]? = some x → hstOk x = true) ∧ Hid (Below W.heap.size W wr)) (fun i _ => d.hosts.length - (intOf i).toNat)
  case atStart => exact ⟨0, Nat.zero_le _, rfl, Lib.hid (fun j x hj => absurd hj (by omega)), K3⟩
  case round =>
    obtain ⟨k, hk, rfl, hok, hK⟩ := hrel
    have hki : ((k : Nat) : Int).toNat = k := by omega
    obtain ⟨-, -, -, -, -, -, f6, g0, g1, g2⟩ := HF.out wr hK.out
    by_cases hlt : k < d.hosts.length
    · obtain ⟨⟨ph, fw⟩, hx⟩ : ∃ x, d.hosts[k]? = some x := ⟨_, List.getElem?_eq_getElem hlt⟩
      have HK := (HD.out.on hK.out (Nat.le_refl _)).hosts
      obtain ⟨b, o, ea, -, -⟩ := HK.at_ hx
      rw [ea] at HK g1
      obtain ⟨y0, y1⟩ := hst_at HK hx
      simp only at y0 y1
      have hkl : (k : Int) < (d.hosts.length : Int) := by omega
      have HXX := Lib.hid hx
      have HNO := Lib.hid (fun (hn : hstOk ⟨ph, fw⟩ = false) => (no_of HR.out (fun h => by have h1 := h.2.2.2.1 _ (List.mem_of_getElem? HXX.out); rw [hn] at h1; cases h1) : r = false))
      clear hx HK ea
      rcases c1 : decide ((4 : Int) < (ph : Int)) with _ | _
      rotate_left
      · obtain rfl : r = false := HNO.out (by unfold hstOk; rw [decide_eq_false (show ¬ ph ≤ 4 by have := of_decide_eq_true c1; omega)]; rfl)
        go_wp2_with (fail)
        go_ret
        exact ⟨rfl, below_join HB.out hK.out hle⟩
      rcases c2 : decide (fw < 0) with _ | _
      rotate_left
      · obtain rfl : r = false := HNO.out (by unfold hstOk inB; rw [decide_eq_false (show ¬ (0 ≤ fw) by have := of_decide_eq_true c2; omega)]; simp)
        go_wp2_with (fail)
        go_ret
        exact ⟨rfl, below_join HB.out hK.out hle⟩
      rcases c3 : decide ((1000000 : Int) < fw) with _ | _
      rotate_left
      · obtain rfl : r = false := HNO.out (by unfold hstOk inB; rw [decide_eq_false (show ¬ (fw ≤ 1000000) by have := of_decide_eq_true c3; omega)]; simp)
        go_wp2_with (fail)
        go_ret
        exact ⟨rfl, below_join HB.out hK.out hle⟩
      have HO := Lib.hid (show ∀ (j : Nat) x, j < k + 1 → d.hosts[j]? = some x → hstOk x = true from fun j z hj hz => by
        rcases Nat.lt_or_ge j k with h | h
        · exact hok.out j z h hz
        · obtain rfl : j = k := by omega
          rw [HXX.out] at hz
          injection hz with hz
          subst hz
          have e1 := of_decide_eq_false c1
          have e2 := of_decide_eq_false c2
          have e3 := of_decide_eq_false c3
          unfold hstOk
          rw [Bool.and_eq_true, inB_iff, decide_eq_true_eq]
          simp only
          omega)
      go_wp2_with (fail)
      go_roundw
      case rel => exact ⟨k + 1, by omega, by go_num, HO, hK⟩
      case measure => simp only [intOf]; omega
    · obtain rfl : k = d.hosts.length := by omega
      have HHO := Lib.hid (show ∀ h ∈ d.hosts, hstOk h = true from fun h hh => by
        obtain ⟨i, hi⟩ := List.getElem?_of_mem hh
        exact hok.out i h (List.getElem?_eq_some_iff.1 hi).1 hi)
      go_wp2_with (fail)
      clear f6 g0 g1 g2
      go_loopw [8] (fun i wr => ∃ k : Nat, k ≤ d.reps.length ∧ i = .int .i64 (k : Int) ∧ Hid (∀ (j : Nat) x, j < k → d.reps[j]? = some x → repOk xs.length s.hosts.length x = true) ∧ Hid (Below W.heap.size W wr)) (fun i _ => d.reps.length - (intOf i).toNat)
      case atStart => exact ⟨0, Nat.zero_le _, rfl, Lib.hid (fun j x hj => absurd hj (by omega)), hK⟩
      case round =>
        obtain ⟨k, hk, rfl, hok, hK⟩ := hrel
        have hki : ((k : Nat) : Int).toNat = k := by omega
        obtain ⟨-, -, -, -, -, -, f6, g0, g1, g2⟩ := HF.out wr hK.out
        by_cases hlt : k < d.reps.length
        · obtain ⟨⟨sv, ho⟩, hx⟩ : ∃ x, d.reps[k]? = some x := ⟨_, List.getElem?_eq_getElem hlt⟩
          have HK := (HD.out.on hK.out (Nat.le_refl _)).reps
          obtain ⟨b, o, ea, -, -⟩ := HK.at_ hx
          rw [ea] at HK g2
          obtain ⟨y0, y1⟩ := rep_at HK hx
          simp only at y0 y1
          have hkl : (k : Int) < (d.reps.length : Int) := by omega
          have HXX := Lib.hid hx
          have HNO := Lib.hid (fun (hn : ¬ repOk xs.length s.hosts.length ⟨sv, ho⟩ = true) => (no_of HR.out (fun h => by have h1 := h.2.2.2.2.2.1 _ (List.mem_of_getElem? HXX.out); rw [HSL.out] at h1; exact hn h1) : r = false))
          obtain ⟨V, hV⟩ : ∃ V, V = wr.alloc (.cells #[.int .i64 sv, .int .i64 ho] 41) := ⟨_, rfl⟩
          have bV : Below wr.heap.size wr V := by subst hV; exact (Below.refl _ _).alloc (Nat.le_refl _) _
          have HKV := Lib.hid (below_join hK.out bV hK.out.size)
          have q0 : V.cell? ⟨wr.heap.size, 0, none⟩ = some (.int .i64 sv) := by subst hV; exact cell_of (box_new _ _ _) rfl
          have q1 : V.cell? ⟨wr.heap.size, 1, none⟩ = some (.int .i64 ho) := by subst hV; exact cell_of (box_new _ _ _) rfl
          obtain ⟨-, -, -, -, -, -, u6, v0, -, -⟩ := HF.out V HKV.out
          rw [hV] at q0 q1 u6 v0
          clear hx HK ea bV
          rcases c1 : decide (sv < 0) with _ | _
          rotate_left
          · obtain rfl : r = false := HNO.out (fun h => by unfold repOk at h; rw [Bool.and_eq_true, ixB_iff, ixB_iff] at h; have := of_decide_eq_true c1; simp only at h; omega)
            go_wp2_with (fail)
            rw [← hV]
            go_ret
            exact ⟨rfl, below_join HB.out HKV.out hle⟩
          rcases c2 : decide ((xs.length : Int) ≤ sv) with _ | _
          rotate_left
          · obtain rfl : r = false := HNO.out (fun h => by unfold repOk at h; rw [Bool.and_eq_true, ixB_iff, ixB_iff] at h; have := of_decide_eq_true c2; simp only at h; omega)
            go_wp2_with (fail)
            rw [← hV]
            go_ret
            exact ⟨rfl, below_join HB.out HKV.out hle⟩
          rcases c3 : decide (ho < 0) with _ | _
          rotate_left
          · obtain rfl : r = false := HNO.out (fun h => by unfold repOk at h; rw [Bool.and_eq_true, ixB_iff, ixB_iff] at h; have := of_decide_eq_true c3; simp only at h; omega)
            go_wp2_with (fail)
            rw [← hV]
            go_ret
            exact ⟨rfl, below_join HB.out HKV.out hle⟩
          rcases c4 : decide ((s.hosts.length : Int) ≤ ho) with _ | _
          rotate_left
          · obtain rfl : r = false := HNO.out (fun h => by unfold repOk at h; rw [Bool.and_eq_true, ixB_iff, ixB_iff] at h; have := of_decide_eq_true c4; simp only at h; omega)
            go_wp2_with (fail)
            rw [← hV]
            go_ret
            exact ⟨rfl, below_join HB.out HKV.out hle⟩
          have HO := Lib.hid (show ∀ (j : Nat) x, j < k + 1 → d.reps[j]? = some x → repOk xs.length s.hosts.length x = true from fun j z hj hz => by
            rcases Nat.lt_or_ge j k with h | h
            · exact hok.out j z h hz
            · obtain rfl : j = k := by omega
              rw [HXX.out] at hz
              injection hz with hz
              subst hz
              have e1 := of_decide_eq_false c1
              have e2 := of_decide_eq_false c2
              have e3 := of_decide_eq_false c3
              have e4 := of_decide_eq_false c4
              unfold repOk
              rw [Bool.and_eq_true, ixB_iff, ixB_iff]
              simp only
              omega)
          go_wp2_with (fail)
          rw [← hV]
          clear hV
          go_roundw
          case rel => exact ⟨k + 1, by omega, by go_num, HO, HKV⟩
          case measure => simp only [intOf]; omega
        · obtain rfl : k = d.reps.length := by omega
          obtain rfl : true = r := by
            refine (HR.out.2 ⟨Q0.out, HOW.out, Q2.out, HHO.out, Q4.out, fun x hx => ?_, Q6.out⟩).symm
            obtain ⟨i, hi⟩ := List.getElem?_of_mem hx
            rw [HSL.out]
            exact hok.out i x (List.getElem?_eq_some_iff.1 hi).1 hi
          go_wp2_with (fail)
          go_ret
          exact ⟨rfl, below_join HB.out hK.out hle⟩
end Go.Proofs.Ytplncglgolhfaaa
