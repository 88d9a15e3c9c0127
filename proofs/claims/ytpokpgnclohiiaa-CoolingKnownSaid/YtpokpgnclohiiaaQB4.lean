/-
  DERIVED. Several texts in one.
-/
import Derived.Test.YtpokpgnclohiiaaQB3
import Derived.Laws.StructEq
import Derived.Lib.AppendZerosOnto
import Derived.Lib.Walk
import Derived.Laws.AppendOwnNone
import Derived.Laws.CopyOwn
import Derived.Lib.SliceRun
import Derived.OwnWalk
import Derived.Laws.IdiomCopy
import Derived.Test.YtpokpgnclohiiaaQB2
import Derived.BigQuiet
import Derived.RegionTactic
import Derived.Deep.RegionHeld3
set_option linter.unusedVariables false
set_option linter.unusedSimpArgs false

namespace Go.Proofs.Ytpokpgnclohiiaa
open Go.RowKit
set_option maxRecDepth 100000
set_option linter.unusedVariables false
set_option linter.unusedSimpArgs false

theorem any_bad {α : Type} {f : α → Bool} {l : List α} : l.any (fun x => !f x) = false ↔ ∀ x ∈ l, f x = true := by simp
set_option maxHeartbeats 16000000 in
theorem c_woValid (p : SP) (s : SiteD) (A : Option Addr) (c : Nat) (xs : List (Svc × SvA)) (q : WP) (d : WorldD) (r : Bool) (hr : r = true ↔ WorldOk s (svs xs) d) (w : World) (hs : SiAt w p s) (hx : WiAt w A c xs) (hd : WoAt w q d) :
    Calls Try.prog 27 #[siV p s, .agg #[.slice A xs.length c], .agg (woA q d)] w fun e w' => e = .returned (.bool r) ∧ Below w.heap.size w w' := by
  unfold siV woA
  obtain ⟨W1, h1⟩ : ∃ W, W = w.alloc (.cells #[.slice p.a1 s.feeds.length p.c1, .slice p.a2 s.brks.length p.c2, .slice p.a3 s.loops.length p.c3, .slice p.a4 s.racks.length p.c4, .int .i64 s.sw, .slice p.a5 s.links.length p.c5, .slice p.a6 s.hosts.length p.c6] 29) := ⟨_, rfl⟩
  obtain ⟨W2, h2⟩ : ∃ W, W = W1.alloc (.cells #[.slice A xs.length c] 34) := ⟨_, rfl⟩
  obtain ⟨W, h3⟩ : ∃ W, W = W2.alloc (.cells (woA q d) 38) := ⟨_, rfl⟩
  have s1 : W1.heap.size = w.heap.size + 1 := by rw [h1, World.size_alloc]
  have s2 : W2.heap.size = w.heap.size + 1 + 1 := by rw [h2, World.size_alloc, s1]
  have s3 : W.heap.size = w.heap.size + 1 + 1 + 1 := by rw [h3, World.size_alloc, s2]
  have B0 : Below w.heap.size w W := by
    have e1 : Below w.heap.size w W1 := by rw [h1]; exact (Below.refl _ _).alloc (Nat.le_refl _) _
    have e2 : Below w.heap.size w W2 := by rw [h2]; exact e1.alloc (by omega) _
    rw [h3]; exact e2.alloc (by omega) _
  have HB := Lib.hid B0
  have X1 : SiBox W w.heap.size p s := by
    have e1 : SiBox W1 w.heap.size p s := by rw [h1]; exact siBox_new _ _ _
    unfold SiBox at e1 ⊢
    rw [h3, h2]; exact old_heap _ (old_heap _ e1)
  have X2 : WiBox W (w.heap.size + 1) A xs.length c := by
    have e1 : W2.heap[w.heap.size + 1]? = some (.cells #[.slice A xs.length c] 34 (0, 0)) := by rw [h2, ← s1]; exact box_new _ _ _
    unfold WiBox
    rw [h3]; exact old_heap _ e1
  have X3 : WoBox W (w.heap.size + 1 + 1) q d := by
    unfold WoBox
    rw [h3, ← s2]; exact box_new _ _ _
  have HS := Lib.hid (hs.on B0 (Nat.le_refl _))
  have HX := Lib.hid (hx.on B0 (Nat.le_refl _))
  have HD := Lib.hid (hd.on B0 (Nat.le_refl _))
  have B1 := Lib.hid X1
  have B2 := Lib.hid X2
  have B3 := Lib.hid X3
  have HF := Lib.hid (fun (X : World) (hX : Below W.heap.size W X) => (⟨(X1.on hX (Nat.le_refl _)).c0, (X1.on hX (Nat.le_refl _)).c1, (X1.on hX (Nat.le_refl _)).c2, (X1.on hX (Nat.le_refl _)).c3, (X1.on hX (Nat.le_refl _)).c4, (X1.on hX (Nat.le_refl _)).c5, (X1.on hX (Nat.le_refl _)).c6, (X2.on hX (Nat.le_refl _)).c0, (X3.on hX (Nat.le_refl _)).c0, (X3.on hX (Nat.le_refl _)).c1⟩ : X.cell? ⟨w.heap.size, 0, none⟩ = some (.slice p.a1 s.feeds.length p.c1) ∧ X.cell? ⟨w.heap.size, 1, none⟩ = some (.slice p.a2 s.brks.length p.c2) ∧ X.cell? ⟨w.heap.size, 2, none⟩ = some (.slice p.a3 s.loops.length p.c3) ∧ X.cell? ⟨w.heap.size, 3, none⟩ = some (.slice p.a4 s.racks.length p.c4) ∧ X.cell? ⟨w.heap.size, 4, none⟩ = some (.int .i64 s.sw) ∧ X.cell? ⟨w.heap.size, 5, none⟩ = some (.slice p.a5 s.links.length p.c5) ∧ X.cell? ⟨w.heap.size, 6, none⟩ = some (.slice p.a6 s.hosts.length p.c6) ∧ X.cell? ⟨w.heap.size + 1, 0, none⟩ = some (.slice A xs.length c) ∧ X.cell? ⟨w.heap.size + 1 + 1, 0, none⟩ = some (.slice q.a1 d.hosts.length q.c1) ∧ X.cell? ⟨w.heap.size + 1 + 1, 1, none⟩ = some (.slice q.a2 d.reps.length q.c2)))
  have n1 := hd.hosts.1; have n2 := hd.hosts.2.1; have n3 := hd.reps.1; have n4 := hd.reps.2.1; have n5 := hs.hosts.1; have n6 := hs.hosts.2.1
  unfold maxLen at n2 n4 n6
  have HR := Lib.hid hr
  have KW := Lib.hid (Below.refl W.heap.size W)
  have hle : w.heap.size ≤ W.heap.size := B0.size
  clear B0 hr hs hx hd X1 X2 X3 s1 s2 s3
  obtain ⟨f0, f1, f2, f3, f4, f5, f6, g0, g1, g2⟩ := HF.out W KW.out
  unfold woA at h3
  rw [h3, h2, h1] at f0 f1 f2 f3 f4 f5 f6 g0 g1 g2
  generalize hA : w.heap.size = B at *
  go_enter Try.func27, Try.ntmps27
  go_wp2_with (fail)
  rw [← h1, ← h2, ← h3] at f0 f1 f2 f3 f4 f5 f6 g0 g1 g2 ⊢
  clear h1 h2 h3
  obtain ⟨q0, h0⟩ : ∃ b, siteOk s = b := ⟨_, rfl⟩
  have Q0 := Lib.hid h0
  clear h0
  go_at_call 42
  refine (c_stValid p s q0 Q0.out W HS.out).mono ?_
  rintro e w1 ⟨rfl, b1⟩
  have K1 := Lib.hid b1
  clear b1
  clear f0 f1 f2 f3 f4 f5 f6 g0 g1 g2
  obtain ⟨f0, f1, f2, f3, f4, f5, f6, g0, g1, g2⟩ := HF.out w1 K1.out
  cases q0
  · obtain rfl : false = r := by
      rcases r with _ | _
      · rfl
      · exact absurd (HR.out.1 rfl) (fun h => by have := h.1; rw [Q0.out] at this; cases this)
    go_wp2_with (fail)
    go_ret
    exact ⟨rfl, below_join HB.out K1.out hle⟩
  go_wp2_with (fail)
  obtain ⟨q1, h1⟩ : ∃ b : Bool, b = true ↔ WishOk (svs xs) := by
    by_cases h : WishOk (svs xs)
    · exact ⟨true, by simp [h]⟩
    · exact ⟨false, by simp [h]⟩
  have Q1 := Lib.hid h1
  clear h1
  go_at_call 43
  refine (c_ValidWish A c xs q1 Q1.out w1 (HX.out.on K1.out (Nat.le_refl _))).mono ?_
  rintro e w2 ⟨rfl, b2⟩
  have K2 := Lib.hid (below_join K1.out b2 K1.out.size)
  clear b2
  clear f0 f1 f2 f3 f4 f5 f6 g0 g1 g2
  obtain ⟨f0, f1, f2, f3, f4, f5, f6, g0, g1, g2⟩ := HF.out w2 K2.out
  cases q1
  · obtain rfl : false = r := by
      rcases r with _ | _
      · rfl
      · exact absurd (HR.out.1 rfl) (fun h => by have := Q1.out.2 h.2.1; cases this)
    go_wp2_with (fail)
    go_ret
    exact ⟨rfl, below_join HB.out K2.out hle⟩
  rcases h2 : ((d.hosts.length : Int) == (s.hosts.length : Int)) with _ | _
  · have Q2 := Lib.hid h2
    obtain rfl : false = r := by
      rcases r with _ | _
      · rfl
      · exact absurd (HR.out.1 rfl) (fun h => by have e := h.2.2.1; have := Q2.out; rw [e] at this; simp at this)
    go_wp2_with (fail)
    go_ret
    exact ⟨rfl, below_join HB.out K2.out hle⟩
  have Q2 := Lib.hid (show d.hosts.length = s.hosts.length by have := eq_of_beq h2; omega)
  go_wp2_with (fail)
  clear h2
  obtain ⟨q3, h3⟩ : ∃ b, d.hosts.any (fun x => !hstOk x) = b := ⟨_, rfl⟩
  have Q3 := Lib.hid h3
  clear h3
  go_at_call 44
  refine (c_CF_HostState q.a1 q.c1 d.hosts w2 (HD.out.on K2.out (Nat.le_refl _)).hosts q3 Q3.out).mono ?_
  rintro e w3 ⟨rfl, b3⟩
  have K3 := Lib.hid (below_join K2.out b3 K2.out.size)
  clear b3
  clear f0 f1 f2 f3 f4 f5 f6 g0 g1 g2
  obtain ⟨f0, f1, f2, f3, f4, f5, f6, g0, g1, g2⟩ := HF.out w3 K3.out
  cases q3
  rotate_left
  · obtain rfl : false = r := by
      rcases r with _ | _
      · rfl
      · exact absurd (HR.out.1 rfl) (fun h => by have := any_bad.2 h.2.2.2.1; rw [Q3.out] at this; cases this)
    go_wp2_with (fail)
    go_ret
    exact ⟨rfl, below_join HB.out K3.out hle⟩
  rcases h4 : decide ((d.reps.length : Int) ≤ 24) with _ | _
  · have Q4 := Lib.hid h4
    obtain rfl : false = r := by
      rcases r with _ | _
      · rfl
      · exact absurd (HR.out.1 rfl) (fun h => by have e := h.2.2.2.2.1; have := of_decide_eq_false Q4.out; omega)
    go_wp2_with (fail)
    go_ret
    exact ⟨rfl, below_join HB.out K3.out hle⟩
  have Q4 := Lib.hid (show d.reps.length ≤ 24 by have := of_decide_eq_true h4; omega)
  go_wp2_with (fail)
  clear h4
  obtain ⟨q5, h5⟩ : ∃ b, d.reps.any (fun x => !repOk xs.length s.hosts.length x) = b := ⟨_, rfl⟩
  have Q5 := Lib.hid h5
  clear h5
  go_at_call 45
  refine (c_CF_Replica (B + 1) B p s A xs.length c q.a2 q.c2 d.reps w3 (B2.out.on K3.out (Nat.le_refl _)) (B1.out.on K3.out (Nat.le_refl _)) (HD.out.on K3.out (Nat.le_refl _)).reps q5 Q5.out).mono ?_
  rintro e w4 ⟨rfl, b4⟩
  have K4 := Lib.hid (below_join K3.out b4 K3.out.size)
  clear b4
  clear f0 f1 f2 f3 f4 f5 f6 g0 g1 g2
  obtain ⟨f0, f1, f2, f3, f4, f5, f6, g0, g1, g2⟩ := HF.out w4 K4.out
  cases q5
  rotate_left
  · obtain rfl : false = r := by
      rcases r with _ | _
      · rfl
      · exact absurd (HR.out.1 rfl) (fun h => by have e := h.2.2.2.2.2.1; rw [svs_len] at e; have := any_bad.2 e; rw [Q5.out] at this; cases this)
    go_wp2_with (fail)
    go_ret
    exact ⟨rfl, below_join HB.out K4.out hle⟩
  go_wp2_with (fail)
  obtain ⟨q6, h6⟩ : ∃ b, ascB d.reps = b := ⟨_, rfl⟩
  have Q6 := Lib.hid h6
  clear h6
  have HE := Lib.hid (show q6 = r by
    rw [Bool.eq_iff_iff, HR.out, ← Q6.out]
    exact ⟨fun h => ⟨Q0.out, Q1.out.1 (by trivial), Q2.out, any_bad.1 Q3.out, Q4.out, by rw [svs_len]; exact any_bad.1 Q5.out, h⟩, fun h => h.2.2.2.2.2.2⟩)
  go_at_call 46
  refine (c_ascend q.a2 q.c2 d.reps q6 Q6.out w4 (HD.out.on K4.out (Nat.le_refl _)).reps).mono ?_
  rintro e w5 ⟨rfl, b5⟩
  have K5 := Lib.hid (below_join K4.out b5 K4.out.size)
  clear b5
  go_wp2_with (fail)
  go_ret
  exact ⟨(show Ending.returned (.bool q6) = .returned (.bool r) by rw [HE.out]), below_join HB.out K5.out hle⟩
end Go.Proofs.Ytpokpgnclohiiaa

namespace Go.Proofs.Ytpokpgnclohiiaa
open Go.RowKit
set_option maxRecDepth 100000
set_option linter.unusedVariables false
set_option linter.unusedSimpArgs false

theorem two_boxes {w : World} {c1 c2 : Array Value} {T1 T2 : TypeId} {W1 W : World} (h1 : W1 = w.alloc (.cells c1 T1)) (h2 : W = W1.alloc (.cells c2 T2)) :
    Below w.heap.size w W ∧ W.heap[w.heap.size]? = some (.cells c1 T1 (0, 0)) ∧ W.heap[w.heap.size + 1]? = some (.cells c2 T2 (0, 0)) ∧ W.heap.size = w.heap.size + 1 + 1 := by
  have s1 : W1.heap.size = w.heap.size + 1 := by rw [h1, World.size_alloc]
  have e1 : Below w.heap.size w W1 := by rw [h1]; exact (Below.refl _ _).alloc (Nat.le_refl _) _
  have b1 : W1.heap[w.heap.size]? = some (.cells c1 T1 (0, 0)) := by rw [h1]; exact box_new _ _ _
  refine ⟨by rw [h2]; exact e1.alloc (by omega) _, by rw [h2]; exact old_heap _ b1, by rw [h2, ← s1]; exact box_new _ _ _, by rw [h2, World.size_alloc, s1]⟩
end Go.Proofs.Ytpokpgnclohiiaa

namespace Go.Proofs.Ytpokpgnclohiiaa
open Go.RowKit
set_option maxRecDepth 100000
set_option linter.unusedVariables false
set_option linter.unusedSimpArgs false

theorem used_take {ss : List Svc} {l : List Rep} {k : Nat} {x : Rep} (h : l[k]? = some x) (host : Int) : usedD ss (l.take (k + 1)) host = usedStep ss host (usedD ss (l.take k) host) x := by
  rw [List.take_add_one, h]; exact used_snoc _ _ _ _
theorem cores_at {xs : List (Svc × SvA)} {m : Nat} {y : Svc × SvA} (h : xs[m]? = some y) : coresAt (svs xs) (m : Int) = y.1.cores := by
  unfold coresAt
  rw [show ((m : Nat) : Int).toNat = m by omega, svs_at h]; rfl
set_option maxHeartbeats 16000000 in
theorem c_woUsed (A : Option Addr) (c : Nat) (xs : List (Svc × SvA)) (p : WP) (d : WorldD) (host : Int) (w : World) (hx : WiAt w A c xs) (h : WoAt w p d) :
    Calls Try.prog 47 #[.agg #[.slice A xs.length c], .agg (woA p d), .int .i64 host] w fun e w' => e = .returned (.int .i64 (usedD (svs xs) d.reps host)) ∧ Below w.heap.size w w' := by
  unfold woA
  obtain ⟨W1, h1⟩ : ∃ W, W = w.alloc (.cells #[.slice A xs.length c] 34) := ⟨_, rfl⟩
  obtain ⟨W, h2⟩ : ∃ W, W = W1.alloc (.cells (woA p d) 38) := ⟨_, rfl⟩
  obtain ⟨B0, b1, b2, -⟩ := two_boxes h1 h2
  have HB := Lib.hid B0
  have HF := Lib.hid (fun (X : World) (hX : Below W.heap.size W X) => (⟨cell_of (box_on b1 hX (Nat.le_refl _)) rfl, cell_of (box_on b2 hX (Nat.le_refl _)) rfl⟩ : X.cell? ⟨w.heap.size, 0, none⟩ = some (.slice A xs.length c) ∧ X.cell? ⟨w.heap.size + 1, 1, none⟩ = some (.slice p.a2 d.reps.length p.c2)))
  have H := Lib.hid (h.on B0 (Nat.le_refl _)).reps
  have HX := Lib.hid (hx.on B0 (Nat.le_refl _))
  have hc1 := h.reps.1; have hc2 := h.reps.2.1; have hc3 := hx.row.1; have hc4 := hx.row.2.1
  unfold maxLen at hc2 hc4
  have hle := B0.size
  have HSL := Lib.hid (svs_len xs)
  obtain ⟨x0, x1⟩ := HF.out W (Below.refl _ _)
  clear h hx B0 b1 b2
  unfold woA at h2
  rw [h2, h1] at x0 x1
  generalize hA : w.heap.size = B at *
  go_enter Try.func47, Try.ntmps47
  go_wp2_with (fail)
  rw [← h1, ← h2]
  clear h1 h2 x0 x1
  go_loopw [7, 13] (fun v i wr => ∃ (k : Nat) (acc : Int), k ≤ d.reps.length ∧ v = .int .i64 acc ∧ i = .int .i64 (k : Int) ∧ Hid (acc = usedD (svs xs) (d.reps.take k) host) ∧ Hid (Below W.heap.size W wr)) (fun _ i _ => d.reps.length - (intOf i).toNat)
  case atStart => exact ⟨0, 0, Nat.zero_le _, rfl, rfl, Lib.hid rfl, Lib.hid (Below.refl _ _)⟩
  case round =>
    obtain ⟨k, acc, hk, rfl, rfl, hacc, hK⟩ := hrel
    have hki : ((k : Nat) : Int).toNat = k := by omega
    by_cases hlt : k < d.reps.length
    · obtain ⟨⟨sv, ho⟩, hx⟩ : ∃ x, d.reps[k]? = some x := ⟨_, List.getElem?_eq_getElem hlt⟩
      have HK := H.out.on hK.out (Nat.le_refl _)
      obtain ⟨b, o, e0, -, -⟩ := HK.at_ hx
      rw [e0] at HK
      obtain ⟨y0, y1⟩ := rep_at HK hx
      simp only at y0 y1
      have HXX := Lib.hid hx
      have hkl : (k : Int) < (d.reps.length : Int) := by omega
      obtain ⟨V, hV⟩ : ∃ V, V = wr.alloc (.cells #[.int .i64 sv, .int .i64 ho] 74) := ⟨_, rfl⟩
      have bV : Below wr.heap.size wr V := by subst hV; exact (Below.refl _ _).alloc (Nat.le_refl _) _
      have HKV := Lib.hid (below_join hK.out bV hK.out.size)
      have z0 : V.cell? ⟨wr.heap.size, 0, none⟩ = some (.int .i64 sv) := by subst hV; exact cell_of (box_new _ _ _) rfl
      have z1 : V.cell? ⟨wr.heap.size, 1, none⟩ = some (.int .i64 ho) := by subst hV; exact cell_of (box_new _ _ _) rfl
      obtain ⟨x0, x1⟩ := HF.out V HKV.out
      clear hx HK bV
      rw [e0]
      rcases hf : (ho == host) with _ | _
      · have HO := Lib.hid (show acc = usedD (svs xs) (d.reps.take (k + 1)) host by
          rw [used_take HXX.out]; unfold usedStep
          rw [show (({ svc := sv, host := ho } : Rep).host == host) = false from hf]
          simp only [Bool.false_and, Bool.false_eq_true, if_false]
          exact hacc.out)
        rw [hV] at z0 z1 x0 x1
        go_wp2_with (fail)
        rw [← hV]
        clear hV
        go_roundw
        case rel => exact ⟨k + 1, acc, by omega, rfl, by go_num, HO, HKV⟩
        case measure => simp only [intOf]; omega
      · obtain ⟨q, hq⟩ : ∃ q, ixB sv (xs.length : Int) = q := ⟨_, rfl⟩
        have HQ := Lib.hid hq
        have HFF := Lib.hid hf
        rw [hV] at z0 z1 x0 x1
        clear hq
        go_wp2_with (fail)
        rw [← hV] at z0 z1 x0 x1 ⊢
        clear hV
        go_at_call 41
        refine (c_woIsIndex sv (xs.length : Int) q HQ.out V).mono ?_
        rintro e wx ⟨rfl, hwx⟩
        rw [hwx]
        clear hwx wx
        cases q
        · have HO := Lib.hid (show acc = usedD (svs xs) (d.reps.take (k + 1)) host by
            rw [used_take HXX.out]; unfold usedStep
            rw [HSL.out, show ixB ({ svc := sv, host := ho } : Rep).svc (xs.length : Int) = false from HQ.out]
            simp only [Bool.and_false, Bool.false_eq_true, if_false]
            exact hacc.out)
          go_wp2_with (fail)
          go_roundw
          case rel => exact ⟨k + 1, acc, by omega, rfl, by go_num, HO, HKV⟩
          case measure => simp only [intOf]; omega
        · have hr := ixB_iff.1 HQ.out
          obtain ⟨m, rfl⟩ : ∃ m : Nat, sv = m := ⟨sv.toNat, by omega⟩
          have hml : m < xs.length := by omega
          obtain ⟨y, hy⟩ : ∃ y, xs[m]? = some y := ⟨_, List.getElem?_eq_getElem hml⟩
          have HXV := HX.out.on HKV.out (Nat.le_refl _)
          obtain ⟨pb, po, rfl, -, -⟩ := HXV.row.at_ hy
          have t0 := (sv_at HXV.row hy).1
          have hmi : ((m : Nat) : Int).toNat = m := by omega
          have hml2 : (m : Int) < (xs.length : Int) := by omega
          have hm0 : (0 : Int) ≤ (m : Int) := by omega
          obtain ⟨z, hz⟩ : ∃ z, IntKind.i64.wrap (acc + y.1.cores) = z := ⟨_, rfl⟩
          have HO := Lib.hid (show z = usedD (svs xs) (d.reps.take (k + 1)) host by
            rw [used_take HXX.out]; unfold usedStep
            rw [HSL.out, show ixB ({ svc := ((m : Nat) : Int), host := ho } : Rep).svc (xs.length : Int) = true from HQ.out, show (({ svc := ((m : Nat) : Int), host := ho } : Rep).host == host) = true from HFF.out]
            simp only [Bool.and_true, if_true]
            rw [cores_at hy, ← hz, hacc.out])
          clear hr HXV hy
          go_wp2_with (fail)
          go_roundw
          case rel => exact ⟨k + 1, z, by omega, rfl, by go_num, HO, HKV⟩
          case measure => simp only [intOf]; omega
    · obtain rfl : k = d.reps.length := by omega
      have HO := Lib.hid (show acc = usedD (svs xs) d.reps host by have := hacc.out; rwa [List.take_length] at this)
      go_wp2_with (fail)
      go_ret
      exact ⟨(show Ending.returned (.int .i64 acc) = .returned (.int .i64 (usedD (svs xs) d.reps host)) by rw [HO.out]), below_join HB.out hK.out hle⟩
end Go.Proofs.Ytpokpgnclohiiaa

namespace Go.Proofs.Ytpokpgnclohiiaa
open Go.RowKit
set_option maxRecDepth 100000
set_option linter.unusedVariables false
set_option linter.unusedSimpArgs false

def RpBox (w : World) (b : Nat) (A : Option Addr) (n c : Nat) : Prop := w.heap[b]? = some (.cells #[.slice A n c] 36 (0, 0))
def XpBox (w : World) (b : Nat) (x : Rep) : Prop := w.heap[b]? = some (.cells #[.int .i64 x.svc, .int .i64 x.host] 74 (0, 0))
theorem RpBox.on {w w' : World} {b : Nat} {A : Option Addr} {n c B : Nat} (h : RpBox w b A n c) (hb : Below B w w') (hB : w.heap.size ≤ B) : RpBox w' b A n c := box_on h hb hB
theorem XpBox.on {w w' : World} {b : Nat} {x : Rep} {B : Nat} (h : XpBox w b x) (hb : Below B w w') (hB : w.heap.size ≤ B) : XpBox w' b x := box_on h hb hB
end Go.Proofs.Ytpokpgnclohiiaa

namespace Go.Proofs
open Go.RowKit
set_option maxRecDepth 100000
set_option linter.unusedVariables false
set_option linter.unusedSimpArgs false
namespace Ytpokpgnclohiiaa

theorem hst_info : (Try.prog.info? 99).map (fun i => (i.zero, i.size, i.bytes)) = some (some (.agg #[.int .u8 0, .int .i64 0]), 2, 16) := by kernel_rfl
end Ytpokpgnclohiiaa
end Go.Proofs

namespace Go.Proofs.Ytpokpgnclohiiaa
open Go.RowKit
set_option maxRecDepth 100000
set_option linter.unusedVariables false
set_option linter.unusedSimpArgs false

/-- A world whose lists a function has made itself. -/
def OwnW (base : Nat) (w : World) (p : WP) (d : WorldD) : Prop :=
  w.ownsRow base 99 2 (.slice p.a1 d.hosts.length p.c1) d.hosts.length (cellsV 2 hstV d.hosts) ∧ w.ownsRow base 74 2 (.slice p.a2 d.reps.length p.c2) d.reps.length (cellsV 2 repV d.reps)
theorem OwnW.wo {base : Nat} {w : World} {p : WP} {d : WorldD} (h : OwnW base w p d) (hp : ∀ x ∈ d.hosts, x.phase < 256) : WoAt w p d := by
  obtain ⟨A1, c1, e1, r1⟩ := own_rv h.1
  obtain ⟨A2, c2, e2, r2⟩ := own_rv h.2
  injection e1 with e1 _ e1'
  injection e2 with e2 _ e2'
  subst e1 e1' e2 e2'
  exact ⟨r1, r2, hp⟩
theorem OwnW.on {base B : Nat} {w w' : World} {p : WP} {d : WorldD} (h : OwnW base w p d) (hb : Below B w w') (hB : w.heap.size ≤ B) : OwnW base w' p d := ⟨own_on h.1 hb hB, own_on h.2 hb hB⟩
theorem OwnW.mono {base base' : Nat} {w : World} {p : WP} {d : WorldD} (h : OwnW base w p d) (hb : base' ≤ base) : OwnW base' w p d := ⟨own_mono h.1 hb, own_mono h.2 hb⟩
theorem own_block2 {w : World} {base g n : Nat} {T : TypeId} {xs : List Value} (hg : base ≤ g) (h : w.heap[g]? = some (.cells xs.toArray T (0, 0))) (hl : xs.length = n * 2) (hm : n ≤ maxLen) : w.ownsRow base T 2 (.slice (some ⟨g, 0, none⟩) n n) n xs :=
  ⟨hl, .inr ⟨g, n, xs.toArray, rfl, hg, h, Nat.le_refl _, hm, by simpa using hl, by rw [← hl]; simp⟩⟩
theorem row_store2 {W : World} {b : Nat} {y0 y1 : Value} {T : TypeId} (h : W.heap[b]? = some (.cells #[y0, y1] T (0, 0))) (x0 x1 : Value) :
    ((W.setCell ⟨b, 0, none⟩ x0).setCell ⟨b, 1, none⟩ x1).heap[b]? = some (.cells #[x0, x1] T (0, 0)) := set_field (set_field h x0) x1
end Go.Proofs.Ytpokpgnclohiiaa

namespace Go.Proofs.Ytpokpgnclohiiaa
open Go.RowKit
set_option maxRecDepth 100000
set_option linter.unusedVariables false
set_option linter.unusedSimpArgs false

theorem three_boxes {w : World} {c1 c2 c3 : Array Value} {T1 T2 T3 : TypeId} {W1 W2 W : World} (h1 : W1 = w.alloc (.cells c1 T1)) (h2 : W2 = W1.alloc (.cells c2 T2)) (h3 : W = W2.alloc (.cells c3 T3)) :
    Below w.heap.size w W ∧ W.heap[w.heap.size]? = some (.cells c1 T1 (0, 0)) ∧ W.heap[w.heap.size + 1]? = some (.cells c2 T2 (0, 0)) ∧ W.heap[w.heap.size + 1 + 1]? = some (.cells c3 T3 (0, 0)) := by
  obtain ⟨e1, b1, b2, s2⟩ := two_boxes h1 h2
  refine ⟨by rw [h3]; exact e1.alloc (by omega) _, by rw [h3]; exact old_heap _ b1, by rw [h3]; exact old_heap _ b2, by rw [h3, ← s2]; exact box_new _ _ _⟩
end Go.Proofs.Ytpokpgnclohiiaa

namespace Go.Proofs.Ytpokpgnclohiiaa
set_option linter.unusedVariables false
set_option linter.unusedSimpArgs false

theorem sumN_le {f g : Nat → Int} : ∀ {n : Nat}, (∀ i, i < n → f i ≤ g i) → sumN f n ≤ sumN g n := by
  intro n
  induction n with
  | zero => intro _; exact Int.le_refl _
  | succ n ih =>
    intro h
    have h1 := ih fun i hi => h i (by omega)
    have h2 := h n (by omega)
    rw [sumN, sumN]; omega
theorem sumN_mul (c : Int) (f : Nat → Int) (n : Nat) : sumN (fun i => c * f i) n = c * sumN f n := by
  induction n with
  | zero => simp [sumN]
  | succ n ih => rw [sumN, sumN, ih, Int.mul_add]
theorem sumN_at {f : Nat → Int} {a n : Nat} (ha : a < n) (hf : ∀ i, i < n → i ≠ a → f i = 0) : sumN f n = f a := by
  have h1 : sumN f n = sumN (fun i => if a = i then f a else 0) n := sumN_ext fun i hi => by
    by_cases e : a = i
    · subst e; rw [if_pos rfl]
    · rw [if_neg e]; exact hf i hi (fun h => e h.symm)
  rw [h1, sumN_one, if_pos ha]
/-- The watts of a host. -/
def hsAt (s : SiteD) (h : Nat) : Hs := (s.hosts[h]?).getD ⟨0, 0, 0, 0⟩
def phAt (d : WorldD) (h : Nat) : Nat := ((d.hosts[h]?).map (·.phase)).getD 0
def watN (s : SiteD) (ss : List Svc) (d : WorldD) (h : Nat) : Int := if phAt d h = 4 then 0 else (hsAt s h).idle + (hsAt s h).per * usedD ss d.reps (h : Int)
/-- The sum over the hosts that belong to it. -/
def loadN (s : SiteD) (ss : List Svc) (d : WorldD) (b : Nat → Bool) : Int := sumN (fun h => if b h = true then watN s ss d h else 0) s.hosts.length
def isHost (k : Int) (h : Nat) : Bool := (h : Int) == k
theorem hsAt_eq {s : SiteD} {h : Nat} {x : Hs} (hx : s.hosts[h]? = some x) : hsAt s h = x := by unfold hsAt; rw [hx]; rfl
theorem phAt_eq {d : WorldD} {h : Nat} {x : Hst} (hx : d.hosts[h]? = some x) : phAt d h = x.phase := by unfold phAt; rw [hx]; rfl
section
variable {s : SiteD} {ss : List Svc} {d : WorldD}
theorem host_ok (ok : WorldOk s ss d) {h : Nat} (hh : h < s.hosts.length) : ∃ x y, s.hosts[h]? = some x ∧ d.hosts[h]? = some y ∧ (0 ≤ x.rack ∧ x.rack < s.racks.length) ∧ (0 ≤ x.idle ∧ x.idle ≤ 10000) ∧ (0 ≤ x.per ∧ x.per ≤ 1000) := by
  have h1 := siteOk_iff.1 ok.1
  have hl := ok.2.2.1
  have hm := h1.hosts _ (List.getElem_mem hh)
  exact ⟨_, _, List.getElem?_eq_getElem hh, List.getElem?_eq_getElem (by omega), hm.1, hm.2.2.1, hm.2.2.2⟩
theorem used_bd (ok : WorldOk s ss d) (h : Int) : 0 ≤ usedD ss d.reps h ∧ usedD ss d.reps h ≤ 24000 := (sums_ok ok).2.2.1 h
theorem used_sum (ok : WorldOk s ss d) : sumN (fun i => usedD ss d.reps i) s.hosts.length ≤ 24000 := by
  obtain ⟨h1, h2, -, h4⟩ := sums_ok ok
  rw [← h2]
  have h5 : sumN (fun i => (((whereD d.reps i).length : Nat) : Int) * coresAt ss i) ss.length ≤ sumN (fun i => 1000 * (((whereD d.reps i).length : Nat) : Int)) ss.length := sumN_le fun i hi => by
    have := h4 i hi
    rw [Int.mul_comm 1000]
    exact Int.mul_le_mul_of_nonneg_left this.2 (by omega)
  rw [sumN_mul, h1] at h5
  have := ok.2.2.2.2.1
  omega
/-- How great the watts of a host can be. -/
def capN (ss : List Svc) (d : WorldD) (h : Nat) : Int := 10000 + 1000 * usedD ss d.reps (h : Int)
theorem wat_bd (ok : WorldOk s ss d) {h : Nat} (hh : h < s.hosts.length) : 0 ≤ watN s ss d h ∧ watN s ss d h ≤ capN ss d h ∧ watN s ss d h ≤ 24010000 := by
  obtain ⟨x, y, hx, hy, -, h2, h3⟩ := host_ok ok hh
  have hu := used_bd ok (h : Int)
  unfold watN capN
  rw [hsAt_eq hx]
  have p1 : 0 ≤ x.per * usedD ss d.reps (h : Int) := Int.mul_nonneg h3.1 hu.1
  have p2 : x.per * usedD ss d.reps (h : Int) ≤ 1000 * usedD ss d.reps (h : Int) := Int.mul_le_mul_of_nonneg_right h3.2 hu.1
  split <;> omega
theorem cap_sum (ok : WorldOk s ss d) : sumN (capN ss d) s.hosts.length ≤ 24160000 := by
  have h0 : sumN (capN ss d) s.hosts.length = sumN (fun _ => 10000) s.hosts.length + 1000 * sumN (fun h => usedD ss d.reps (h : Int)) s.hosts.length := by
    rw [← sumN_mul, ← sumN_add]; rfl
  have h1 := used_sum ok
  have h2 := (siteOk_iff.1 ok.1).nhosts
  have h3 := sumN_bound (f := fun _ => 10000) (m := 10000) (n := s.hosts.length) (fun _ _ => ⟨by omega, by omega⟩)
  omega
/-- A load is at least 0 and less than the greatest capacity of an arc. -/
theorem load_bd (ok : WorldOk s ss d) (b : Nat → Bool) : 0 ≤ loadN s ss d b ∧ loadN s ss d b ≤ 24160000 := by
  unfold loadN
  have h1 := sumN_bound (f := fun h => if b h = true then watN s ss d h else 0) (m := 24010000) (n := s.hosts.length) (fun i hi => by have := wat_bd ok hi; split <;> omega)
  have h2 := sumN_le (f := fun h => if b h = true then watN s ss d h else 0) (g := capN ss d) (n := s.hosts.length) (fun i hi => by have := wat_bd ok hi; have := used_bd ok (i : Int); unfold capN at *; split <;> omega)
  have h3 := cap_sum ok
  exact ⟨h1.1, by omega⟩
/-- The sums so far. -/
theorem part_bd (ok : WorldOk s ss d) (b : Nat → Bool) {k : Nat} (hk : k ≤ s.hosts.length) : 0 ≤ sumN (fun h => if b h = true then watN s ss d h else 0) k ∧ sumN (fun h => if b h = true then watN s ss d h else 0) k ≤ 400000000 := by
  have h1 := sumN_bound (f := fun h => if b h = true then watN s ss d h else 0) (m := 24010000) (n := k) (fun i hi => by have := wat_bd ok (h := i) (by omega); split <;> omega)
  have h2 := (siteOk_iff.1 ok.1).nhosts
  exact ⟨h1.1, by omega⟩
theorem load_host (k : Int) : loadN s ss d (isHost k) = if 0 ≤ k ∧ k < s.hosts.length then watN s ss d k.toNat else 0 := by
  unfold loadN
  split
  · rename_i h
    rw [sumN_at (a := k.toNat) (by omega) (fun i hi hne => by rw [if_neg]; unfold isHost; simp; omega), if_pos]
    unfold isHost; simp; omega
  · rename_i h
    rw [sumN_ext (g := fun _ => 0) (fun i hi => by rw [if_neg]; unfold isHost; simp; omega), sumN_zero]
theorem rack_in (ok : WorldOk s ss d) {h : Nat} (hh : h < s.hosts.length) : 0 ≤ rackAt s h ∧ rackAt s h < s.racks.length := by
  obtain ⟨x, y, hx, -, h1, -⟩ := host_ok ok hh
  unfold rackAt; rw [hx]; exact h1
theorem rk_in (ok : WorldOk s ss d) {h : Nat} (hh : h < s.hosts.length) : s.racks[(rackAt s h).toNat]? = some (rkAt s h) := by
  have := rack_in ok hh
  unfold rkAt
  rw [List.getElem?_eq_getElem (show (rackAt s h).toNat < s.racks.length by omega)]; rfl
end
end Go.Proofs.Ytpokpgnclohiiaa

namespace Go.Proofs.Ytpokpgnclohiiaa
open Go.RowKit
set_option maxRecDepth 100000
set_option linter.unusedVariables false
set_option linter.unusedSimpArgs false

structure Sn where
  p : SP
  s : SiteD
  A : Option Addr
  c : Nat
  xs : List (Svc × SvA)
  q : WP
  d : WorldD
def Sn.ss (z : Sn) : List Svc := svs z.xs
structure SnAt (w : World) (z : Sn) : Prop where
  si : SiAt w z.p z.s
  wi : WiAt w z.A z.c z.xs
  wo : WoAt w z.q z.d
theorem SnAt.on {w w' : World} {z : Sn} {B : Nat} (h : SnAt w z) (hb : Below B w w') (hB : w.heap.size ≤ B) : SnAt w' z := ⟨h.si.on hb hB, h.wi.on hb hB, h.wo.on hb hB⟩
theorem SnAt.drew {w : World} {z : Sn} (h : SnAt w z) : SnAt w.drew z := h.on (Below.refl _ _).drew (Nat.le_refl _)
def Sn.Ok (z : Sn) : Prop := WorldOk z.s z.ss z.d
theorem SnAt.bounds {w : World} {z : Sn} (h : SnAt w z) : z.s.hosts.length ≤ 9223372036854775807 ∧ z.s.racks.length ≤ 9223372036854775807 ∧ z.s.brks.length ≤ 9223372036854775807 ∧ z.s.feeds.length ≤ 9223372036854775807 ∧ z.d.hosts.length ≤ 9223372036854775807 ∧ z.d.reps.length ≤ 9223372036854775807 ∧ z.xs.length ≤ 9223372036854775807 ∧ z.s.loops.length ≤ 9223372036854775807 := by
  have a1 := h.si.hosts.1; have b1 := h.si.hosts.2.1; have a2 := h.si.racks.1; have b2 := h.si.racks.2.1; have a3 := h.si.brks.1; have b3 := h.si.brks.2.1; have a4 := h.si.feeds.1; have b4 := h.si.feeds.2.1
  have a5 := h.wo.hosts.1; have b5 := h.wo.hosts.2.1; have a6 := h.wo.reps.1; have b6 := h.wo.reps.2.1; have a7 := h.wi.row.1; have b7 := h.wi.row.2.1; have a8 := h.si.loops.1; have b8 := h.si.loops.2.1
  unfold maxLen at *
  omega
def Bx (w : World) (b : Nat) (cs : Array Value) (T : TypeId) : Prop := w.heap[b]? = some (.cells cs T (0, 0))
theorem Bx.on {w w' : World} {b : Nat} {cs : Array Value} {T : TypeId} {B : Nat} (h : Bx w b cs T) (hb : Below B w w') (hB : w.heap.size ≤ B) : Bx w' b cs T := box_on h hb hB
/-- The boxes of a scene's parameters. -/
structure SnBx (X : World) (b : Nat) (z : Sn) : Prop where
  b1 : X.heap[b]? = some (.cells #[.slice z.p.a1 z.s.feeds.length z.p.c1, .slice z.p.a2 z.s.brks.length z.p.c2, .slice z.p.a3 z.s.loops.length z.p.c3, .slice z.p.a4 z.s.racks.length z.p.c4, .int .i64 z.s.sw, .slice z.p.a5 z.s.links.length z.p.c5, .slice z.p.a6 z.s.hosts.length z.p.c6] 29 (0, 0))
  b2 : X.heap[b + 1]? = some (.cells #[.slice z.A z.xs.length z.c] 34 (0, 0))
  b3 : X.heap[b + 1 + 1]? = some (.cells #[.slice z.q.a1 z.d.hosts.length z.q.c1, .slice z.q.a2 z.d.reps.length z.q.c2] 38 (0, 0))
section
variable {w w' X : World} {z : Sn} {b B : Nat}
theorem SnBx.on (h : SnBx w b z) (hb : Below B w w') (hB : w.heap.size ≤ B) : SnBx w' b z := ⟨box_on h.b1 hb hB, box_on h.b2 hb hB, box_on h.b3 hb hB⟩
theorem SnBx.alloc (h : SnBx w b z) (o : Obj) : SnBx (w.alloc o) b z := ⟨old_heap _ h.b1, old_heap _ h.b2, old_heap _ h.b3⟩
theorem SnBx.cells (h : SnBx X b z) : X.cell? ⟨b, 0, none⟩ = some (.slice z.p.a1 z.s.feeds.length z.p.c1) ∧ X.cell? ⟨b, 1, none⟩ = some (.slice z.p.a2 z.s.brks.length z.p.c2) ∧ X.cell? ⟨b, 2, none⟩ = some (.slice z.p.a3 z.s.loops.length z.p.c3) ∧ X.cell? ⟨b, 3, none⟩ = some (.slice z.p.a4 z.s.racks.length z.p.c4) ∧ X.cell? ⟨b, 4, none⟩ = some (.int .i64 z.s.sw) ∧ X.cell? ⟨b, 5, none⟩ = some (.slice z.p.a5 z.s.links.length z.p.c5) ∧ X.cell? ⟨b, 6, none⟩ = some (.slice z.p.a6 z.s.hosts.length z.p.c6) ∧ X.cell? ⟨b + 1, 0, none⟩ = some (.slice z.A z.xs.length z.c) ∧ X.cell? ⟨b + 1 + 1, 0, none⟩ = some (.slice z.q.a1 z.d.hosts.length z.q.c1) ∧ X.cell? ⟨b + 1 + 1, 1, none⟩ = some (.slice z.q.a2 z.d.reps.length z.q.c2) :=
  ⟨cell_of h.b1 rfl, cell_of h.b1 rfl, cell_of h.b1 rfl, cell_of h.b1 rfl, cell_of h.b1 rfl, cell_of h.b1 rfl, cell_of h.b1 rfl, cell_of h.b2 rfl, cell_of h.b3 rfl, cell_of h.b3 rfl⟩
end
section
variable {w W1 W2 W : World} {z : Sn}
theorem sn_boxes (h1 : W1 = w.alloc (.cells #[.slice z.p.a1 z.s.feeds.length z.p.c1, .slice z.p.a2 z.s.brks.length z.p.c2, .slice z.p.a3 z.s.loops.length z.p.c3, .slice z.p.a4 z.s.racks.length z.p.c4, .int .i64 z.s.sw, .slice z.p.a5 z.s.links.length z.p.c5, .slice z.p.a6 z.s.hosts.length z.p.c6] 29))
    (h2 : W2 = W1.alloc (.cells #[.slice z.A z.xs.length z.c] 34)) (h3 : W = W2.alloc (.cells #[.slice z.q.a1 z.d.hosts.length z.q.c1, .slice z.q.a2 z.d.reps.length z.q.c2] 38)) : Below w.heap.size w W ∧ SnBx W w.heap.size z := by
  obtain ⟨B0, b1, b2, b3⟩ := three_boxes h1 h2 h3
  exact ⟨B0, b1, b2, b3⟩
theorem sn_size {c1 c2 c3 : Array Value} {T1 T2 T3 : TypeId} (h1 : W1 = w.alloc (.cells c1 T1)) (h2 : W2 = W1.alloc (.cells c2 T2)) (h3 : W = W2.alloc (.cells c3 T3)) : W.heap.size = w.heap.size + 1 + 1 + 1 := by
  rw [h3, World.size_alloc, h2, World.size_alloc, h1, World.size_alloc]
end
theorem bool_of (P : Prop) : ∃ b : Bool, b = true ↔ P := by
  by_cases h : P
  · exact ⟨true, by simp [h]⟩
  · exact ⟨false, by simp [h]⟩
section
variable (z : Sn) (r : Bool) (hr : r = true ↔ z.Ok) (w : World) (h : SnAt w z)
include hr h
theorem c_vTo : Calls Try.prog 27 #[.agg #[.slice z.p.a1 z.s.feeds.length z.p.c1, .slice z.p.a2 z.s.brks.length z.p.c2, .slice z.p.a3 z.s.loops.length z.p.c3, .slice z.p.a4 z.s.racks.length z.p.c4, .int .i64 z.s.sw, .slice z.p.a5 z.s.links.length z.p.c5, .slice z.p.a6 z.s.hosts.length z.p.c6], .agg #[.slice z.A z.xs.length z.c], .agg #[.slice z.q.a1 z.d.hosts.length z.q.c1, .slice z.q.a2 z.d.reps.length z.q.c2]] w fun e w' => e = .returned (.bool r) ∧ Below w.heap.size w w' := c_woValid z.p z.s z.A z.c z.xs z.q z.d r hr w h.si h.wi h.wo
end
theorem c_usedTo (z : Sn) (host u : Int) (hu : usedD z.ss z.d.reps host = u) (w : World) (h : SnAt w z) :
    Calls Try.prog 47 #[.agg #[.slice z.A z.xs.length z.c], .agg #[.slice z.q.a1 z.d.hosts.length z.q.c1, .slice z.q.a2 z.d.reps.length z.q.c2], .int .i64 host] w fun e w' => e = .returned (.int .i64 u) ∧ Below w.heap.size w w' := by subst hu; exact c_woUsed z.A z.c z.xs z.q z.d host w h.wi h.wo
end Go.Proofs.Ytpokpgnclohiiaa

namespace Go.Proofs.Ytpokpgnclohiiaa
open Go.RowKit
set_option maxRecDepth 100000
set_option linter.unusedVariables false
set_option linter.unusedSimpArgs false

theorem hs_at {z : Sn} {w : World} (h : SnAt w z) {i : Nat} {x : Hs} (hx : z.s.hosts[i]? = some x) : ∃ b o, z.p.a6 = some ⟨b, o, none⟩ ∧ b < w.heap.size ∧ w.cell? ⟨b, o + i * 4, none⟩ = some (.int .i64 x.rack) ∧ w.cell? ⟨b, o + i * 4 + 1, none⟩ = some (.int .i64 x.cores) ∧ w.cell? ⟨b, o + i * 4 + 2, none⟩ = some (.int .i64 x.idle) ∧ w.cell? ⟨b, o + i * 4 + 3, none⟩ = some (.int .i64 x.per) := by
  obtain ⟨b, o, e, hb, hc⟩ := h.si.hosts.at_ hx
  exact ⟨b, o, e, hb, by simpa [hsF] using hc 0 (by omega), hc 1 (by omega), hc 2 (by omega), hc 3 (by omega)⟩
theorem ho_at {z : Sn} {w : World} (h : SnAt w z) {i : Nat} {x : Hst} (hx : z.d.hosts[i]? = some x) : ∃ b o, z.q.a1 = some ⟨b, o, none⟩ ∧ b < w.heap.size ∧ w.cell? ⟨b, o + i * 2, none⟩ = some (.int .u8 (x.phase : Int)) := by
  obtain ⟨b, o, e, hb, hc⟩ := h.wo.hosts.at_ hx
  exact ⟨b, o, e, hb, by simpa [hstV] using hc 0 (by omega)⟩
set_option maxHeartbeats 4000000 in
theorem c_isHost (g : Nat) (k : Int) (i : Nat) (w : World) (hg : w.cell? ⟨g, 0, none⟩ = some (.int .i64 k)) (r : Bool) (hr : isHost k i = r) :
    Calls Try.prog 29 #[.int .i64 (i : Int), .pointer (some ⟨g, 0, none⟩)] w fun e w' => e = .returned (.bool r) ∧ Below w.heap.size w w' := by
  unfold isHost at hr
  go_enter Try.func29, Try.ntmps29
  go_wp2_with (fail)
  go_ret
  exact ⟨rfl, Below.refl _ _⟩
end Go.Proofs.Ytpokpgnclohiiaa

namespace Go.Proofs.Ytpokpgnclohiiaa
open Go.RowKit
set_option maxRecDepth 100000
set_option linter.unusedVariables false
set_option linter.unusedSimpArgs false

/-- A load: 0 if the world is not valid. -/
def pwV (z : Sn) (r : Bool) (b : Nat → Bool) : Int := if r = true then loadN z.s z.ss z.d b else 0
/-- The sum so far. -/
def soFar (z : Sn) (b : Nat → Bool) (k : Nat) : Int := sumN (fun h => if b h = true then watN z.s z.ss z.d h else 0) k
theorem soFar_bd {z : Sn} (ok : z.Ok) (b : Nat → Bool) {k : Nat} (hk : k ≤ z.s.hosts.length) : 0 ≤ soFar z b k ∧ soFar z b k ≤ 400000000 := part_bd ok b hk
theorem soFar_no {z : Sn} {b : Nat → Bool} {k : Nat} (h : b k = false) : soFar z b (k + 1) = soFar z b k := by
  unfold soFar; rw [sumN, h]; simp
theorem soFar_off {z : Sn} {b : Nat → Bool} {k : Nat} {y : Hst} (hy : z.d.hosts[k]? = some y) (h : y.phase = 4) : soFar z b (k + 1) = soFar z b k := by
  unfold soFar; rw [sumN]
  have : watN z.s z.ss z.d k = 0 := by unfold watN; rw [phAt_eq hy, if_pos h]
  rw [this]; simp
theorem soFar_yes {z : Sn} {b : Nat → Bool} {k : Nat} {x : Hs} {y : Hst} (hx : z.s.hosts[k]? = some x) (hy : z.d.hosts[k]? = some y) (h : b k = true) (h4 : y.phase ≠ 4) : soFar z b (k + 1) = soFar z b k + (x.idle + x.per * usedD z.ss z.d.reps (k : Int)) := by
  unfold soFar; rw [sumN, if_pos h]
  congr 1
  unfold watN; rw [phAt_eq hy, if_neg h4, hsAt_eq hx]
set_option maxHeartbeats 16000000 in
theorem c_loadHost (z : Sn) (r0 : Bool) (hr0 : r0 = true ↔ z.Ok) (g : Nat) (k : Int) (w : World) (hz : SnAt w z) (hg : w.cell? ⟨g, 0, none⟩ = some (.int .i64 k)) (hgb : g < w.heap.size) (v : Int) (hv : pwV z r0 (isHost k) = v) :
    Calls Try.prog 28 #[.agg #[.slice z.p.a1 z.s.feeds.length z.p.c1, .slice z.p.a2 z.s.brks.length z.p.c2, .slice z.p.a3 z.s.loops.length z.p.c3, .slice z.p.a4 z.s.racks.length z.p.c4, .int .i64 z.s.sw, .slice z.p.a5 z.s.links.length z.p.c5, .slice z.p.a6 z.s.hosts.length z.p.c6], .agg #[.slice z.A z.xs.length z.c], .agg #[.slice z.q.a1 z.d.hosts.length z.q.c1, .slice z.q.a2 z.d.reps.length z.q.c2], .func (.func 29) #[] #[.pointer (some ⟨g, 0, none⟩)]] w fun e w' => e = .returned (.int .i64 v) ∧ Below w.heap.size w w' := by
  have HCL := Lib.hid (fun (X : World) (hX : Below w.heap.size w X) (ok : z.Ok) (i : Nat) (hi : i < z.s.hosts.length) (r : Bool) (hr : (isHost k) i = r) => (c_isHost g k i X ((hX.cell (p := ⟨g, 0, none⟩) hgb).trans hg) r hr : Calls Try.prog 29 #[.int .i64 (i : Int), .pointer (some ⟨g, 0, none⟩)] X fun e w' => e = .returned (.bool r) ∧ Below X.heap.size X w'))
  have HV := Lib.hid hv
  have HR0 := Lib.hid hr0
  obtain ⟨pd, hpd⟩ : ∃ f, f = isHost k := ⟨_, rfl⟩
  rw [← hpd] at HCL HV
  clear hr0 hv hg hgb hpd
  obtain ⟨W1, h1⟩ : ∃ W, W = w.alloc (.cells #[.slice z.p.a1 z.s.feeds.length z.p.c1, .slice z.p.a2 z.s.brks.length z.p.c2, .slice z.p.a3 z.s.loops.length z.p.c3, .slice z.p.a4 z.s.racks.length z.p.c4, .int .i64 z.s.sw, .slice z.p.a5 z.s.links.length z.p.c5, .slice z.p.a6 z.s.hosts.length z.p.c6] 29) := ⟨_, rfl⟩
  obtain ⟨W2, h2⟩ : ∃ W, W = W1.alloc (.cells #[.slice z.A z.xs.length z.c] 34) := ⟨_, rfl⟩
  obtain ⟨W, h3⟩ : ∃ W, W = W2.alloc (.cells #[.slice z.q.a1 z.d.hosts.length z.q.c1, .slice z.q.a2 z.d.reps.length z.q.c2] 38) := ⟨_, rfl⟩
  obtain ⟨B0, X1⟩ := sn_boxes h1 h2 h3
  have z3 : W.heap.size = w.heap.size + 1 + 1 + 1 := sn_size h1 h2 h3
  have HB := Lib.hid B0
  have Z0 := hz.on B0 (Nat.le_refl _)
  have HZ := Lib.hid (fun (X : World) (hX : Below W.heap.size W X) => Z0.on hX (Nat.le_refl _))
  have HF := Lib.hid (fun (X : World) (hX : Below W.heap.size W X) => ((X1.on hX (Nat.le_refl _)).cells : X.cell? ⟨w.heap.size, 0, none⟩ = some (.slice z.p.a1 z.s.feeds.length z.p.c1) ∧ X.cell? ⟨w.heap.size, 1, none⟩ = some (.slice z.p.a2 z.s.brks.length z.p.c2) ∧ X.cell? ⟨w.heap.size, 2, none⟩ = some (.slice z.p.a3 z.s.loops.length z.p.c3) ∧ X.cell? ⟨w.heap.size, 3, none⟩ = some (.slice z.p.a4 z.s.racks.length z.p.c4) ∧ X.cell? ⟨w.heap.size, 4, none⟩ = some (.int .i64 z.s.sw) ∧ X.cell? ⟨w.heap.size, 5, none⟩ = some (.slice z.p.a5 z.s.links.length z.p.c5) ∧ X.cell? ⟨w.heap.size, 6, none⟩ = some (.slice z.p.a6 z.s.hosts.length z.p.c6) ∧ X.cell? ⟨w.heap.size + 1, 0, none⟩ = some (.slice z.A z.xs.length z.c) ∧ X.cell? ⟨w.heap.size + 1 + 1, 0, none⟩ = some (.slice z.q.a1 z.d.hosts.length z.q.c1) ∧ X.cell? ⟨w.heap.size + 1 + 1, 1, none⟩ = some (.slice z.q.a2 z.d.reps.length z.q.c2)))
  have HX := Lib.hid (fun (X : World) (hX : Below W.heap.size W X) => X1.on hX (Nat.le_refl _))
  have HKW := Lib.hid (Below.refl W.heap.size W)
  have hle := HB.out.size
  obtain ⟨n1, n2, n3, n4, n5, n6, n7, n8⟩ := hz.bounds
  have HVV := Lib.hid (fun (X : World) (hX : SnAt X z) => c_vTo z r0 HR0.out X hX)
  clear hz B0 X1 z3 Z0
  generalize hA6 : z.p.a6 = A6 at *
  have HA6 := Lib.hid hA6
  clear hA6
  obtain ⟨f0, f1, f2, f3, f4, f5, f6, g0, g1, g2⟩ := HF.out W HKW.out
  rw [h3, h2, h1] at f0 f1 f2 f3 f4 f5 f6 g0 g1 g2
  generalize hBB : w.heap.size = B at *
  go_enter Try.func28, Try.ntmps28
  go_wp2_with (fail)
  rw [← h1, ← h2, ← h3]
  clear h1 h2 h3 f0 f1 f2 f3 f4 f5 f6 g0 g1 g2
  go_at_call 27
  refine (HVV.out W (HZ.out W HKW.out)).mono ?_
  rintro e v1 ⟨rfl, bb⟩
  have HKv1 := Lib.hid (below_join HKW.out bb HKW.out.size)
  clear bb
  cases r0
  · have HVE := Lib.hid (show (0 : Int) = v from HV.out)
    go_wp2_with (fail)
    go_ret
    exact ⟨(show Ending.returned (.int .i64 0) = .returned (.int .i64 v) by rw [HVE.out]), below_join HB.out HKv1.out hle⟩
  have ok := HR0.out.1 rfl
  have HOK := Lib.hid ok
  have HVE := Lib.hid (show soFar z pd z.s.hosts.length = v from HV.out)
  have HDL := Lib.hid (show z.d.hosts.length = z.s.hosts.length from ok.2.2.1)
  have hd16 := (siteOk_iff.1 ok.1).nhosts.2
  clear ok
  obtain ⟨f0, f1, f2, f3, f4, f5, f6, g0, g1, g2⟩ := HF.out v1 HKv1.out
  go_wp2_with (fail)
  clear f0 f1 f2 f3 f4 f5 f6 g0 g1 g2
  go_loopw [9, 20] (fun sm i wr => ∃ k : Nat, k ≤ z.s.hosts.length ∧ sm = .int .i64 (soFar z pd k) ∧ i = .int .i64 (k : Int) ∧ Hid (Below W.heap.size W wr)) (fun _ i _ => z.s.hosts.length - (intOf i).toNat)
  case atStart => exact ⟨0, Nat.zero_le _, rfl, rfl, HKv1⟩
  case round =>
    obtain ⟨k, hk, rfl, rfl, hK⟩ := hrel
    have hki : ((k : Nat) : Int).toNat = k := by omega
    obtain ⟨S, hS⟩ : ∃ S, soFar z pd k = S := ⟨_, rfl⟩
    have HS := Lib.hid hS
    have bS := soFar_bd HOK.out pd hk
    rw [hS] at bS
    rw [hS]
    clear hS
    by_cases hlt : k < z.s.hosts.length
    · obtain ⟨x, y, hx, hy, -, bi, bp⟩ := host_ok HOK.out hlt
      have HXX := Lib.hid hx
      have HYY := Lib.hid hy
      obtain ⟨pb, po, e6, hpb, x0, x1, x2, x3⟩ := hs_at (HZ.out wr hK.out) hx
      rw [HA6.out] at e6
      subst e6
      obtain ⟨f0, f1, f2, f3, f4, f5, f6, g0, g1, g2⟩ := HF.out wr hK.out
      have hki2 : (k : Int) < (z.s.hosts.length : Int) := by omega
      have hki3 : (k : Int) < (z.d.hosts.length : Int) := by have := HDL.out; omega
      obtain ⟨V, hV⟩ : ∃ X, X = wr.alloc (.cells #[.int .i64 x.rack, .int .i64 x.cores, .int .i64 x.idle, .int .i64 x.per] 60) := ⟨_, rfl⟩
      have bV : Below wr.heap.size wr V := by rw [hV]; exact (Below.refl _ _).alloc (Nat.le_refl _) _
      have BV : V.heap[wr.heap.size]? = some (.cells #[.int .i64 x.rack, .int .i64 x.cores, .int .i64 x.idle, .int .i64 x.per] 60 (0, 0)) := by rw [hV]; exact box_new _ _ _
      have HKV := Lib.hid (below_join hK.out bV hK.out.size)
      have HBV := Lib.hid (fun (X : World) (hX : Below V.heap.size V X) => (⟨cell_of (box_on BV hX (Nat.le_refl _)) rfl, cell_of (box_on BV hX (Nat.le_refl _)) rfl, cell_of (box_on BV hX (Nat.le_refl _)) rfl, cell_of (box_on BV hX (Nat.le_refl _)) rfl⟩ : X.cell? ⟨wr.heap.size, 0, none⟩ = some (.int .i64 x.rack) ∧ X.cell? ⟨wr.heap.size, 1, none⟩ = some (.int .i64 x.cores) ∧ X.cell? ⟨wr.heap.size, 2, none⟩ = some (.int .i64 x.idle) ∧ X.cell? ⟨wr.heap.size, 3, none⟩ = some (.int .i64 x.per)))
      have HKVV := Lib.hid (Below.refl V.heap.size V)
      clear hx hy bV BV
      rcases hp : pd k with _ | _
      · have HP := Lib.hid hp
        have HSN := Lib.hid (soFar_no hp (z := z))
        clear hp
        go_wp2_with (fail)
        rw [← hV]
        clear hV x0 x1 x2 x3 f0 f1 f2 f3 f4 f5 f6 g0 g1 g2
        go_at_call 29
        refine (HCL.out V (below_join HB.out HKV.out hle) HOK.out k hlt false HP.out).mono ?_
        rintro e v2 ⟨rfl, bb⟩
        have HK2 := Lib.hid (below_join HKV.out bb HKV.out.size)
        clear bb
        go_wp2_with (fail)
        go_roundw
        case rel => exact ⟨k + 1, by omega, by rw [HSN.out, HS.out], by go_num, HK2⟩
        case measure => simp only [intOf]; omega
      · have HP := Lib.hid hp
        clear hp
        rcases h4 : ((y.phase : Int) == 4) with _ | _
        · obtain ⟨u, hu⟩ : ∃ u, usedD z.ss z.d.reps (k : Int) = u := ⟨_, rfl⟩
          have HU := Lib.hid hu
          have bu := used_bd HOK.out (k : Int)
          rw [show usedD (Sn.ss z) z.d.reps (k : Int) = u from hu] at bu
          obtain ⟨pr, hpr⟩ : ∃ t, x.per * u = t := ⟨_, rfl⟩
          have HPR := Lib.hid hpr
          have bpr : 0 ≤ pr ∧ pr ≤ 24000000 := by
            rw [← hpr]
            have p1 := Int.mul_nonneg bp.1 bu.1
            have p2 : x.per * u ≤ 1000 * u := Int.mul_le_mul_of_nonneg_right bp.2 bu.1
            omega
          have HSY := Lib.hid (show soFar z pd (k + 1) = S + (x.idle + pr) by
            rw [soFar_yes HXX.out HYY.out HP.out (by intro h; rw [h] at h4; simp at h4), HS.out, HU.out, HPR.out])
          have hne : ((y.phase : Int) != 4) = true := by unfold bne; rw [h4]; rfl
          clear hu hpr
          go_wp2_with (fail)
          rw [← hV]
          clear hV x0 x1 x2 x3 f0 f1 f2 f3 f4 f5 f6 g0 g1 g2
          go_at_call 29
          refine (HCL.out V (below_join HB.out HKV.out hle) HOK.out k hlt true HP.out).mono ?_
          rintro e v2 ⟨rfl, bb⟩
          have HKK2 := Lib.hid (below_join HKVV.out bb (Nat.le_refl _))
          have HK2 := Lib.hid (below_join HKV.out bb HKV.out.size)
          obtain ⟨f0, f1, f2, f3, f4, f5, f6, g0, g1, g2⟩ := HF.out v2 HK2.out
          obtain ⟨qb, qo, e1, hqb, y0⟩ := ho_at (HZ.out v2 HK2.out) HYY.out
          rw [e1] at g1
          clear bb e1
          go_wp2_with (fail)
          obtain ⟨j0, j1, j2, j3⟩ := HBV.out v2 HKK2.out
          obtain ⟨f0, f1, f2, f3, f4, f5, f6, g0, g1, g2⟩ := HF.out v2 HK2.out
          go_region_held3 (fun X => (X.cell? ⟨B, 0, none⟩ = some (.slice z.p.a1 z.s.feeds.length z.p.c1) ∧ X.cell? ⟨B, 1, none⟩ = some (.slice z.p.a2 z.s.brks.length z.p.c2) ∧ X.cell? ⟨B, 2, none⟩ = some (.slice z.p.a3 z.s.loops.length z.p.c3) ∧ X.cell? ⟨B, 3, none⟩ = some (.slice z.p.a4 z.s.racks.length z.p.c4) ∧ X.cell? ⟨B, 4, none⟩ = some (.int .i64 z.s.sw) ∧ X.cell? ⟨B, 5, none⟩ = some (.slice z.p.a5 z.s.links.length z.p.c5) ∧ X.cell? ⟨B, 6, none⟩ = some (.slice (some ⟨pb, po, none⟩) z.s.hosts.length z.p.c6) ∧ X.cell? ⟨B + 1, 0, none⟩ = some (.slice z.A z.xs.length z.c) ∧ X.cell? ⟨B + 1 + 1, 0, none⟩ = some (.slice z.q.a1 z.d.hosts.length z.q.c1) ∧ X.cell? ⟨B + 1 + 1, 1, none⟩ = some (.slice z.q.a2 z.d.reps.length z.q.c2)) ∧ X.cell? ⟨wr.heap.size, 2, none⟩ = some (.int .i64 x.idle) ∧ X.cell? ⟨wr.heap.size, 3, none⟩ = some (.int .i64 x.per))
            (first | exact ⟨HF.out v3 HK3.out, (HBV.out v3 HKK3.out).2.2⟩ | exact ⟨HF.out v2 HK2.out, (HBV.out v2 HKK2.out).2.2⟩ | fail)
            (first
              | (go_at_call 47; (with_reducible refine (c_usedTo z (k : Int) u HU.out v2.drew (HZ.out v2.drew HK2.out.drew)).mono ?_); rintro e v3 ⟨rfl, bb0⟩; have bb := below_join (Below.refl v2.heap.size v2).drew bb0 (Nat.le_refl _); have HK3 := Lib.hid (below_join HK2.out bb HK2.out.size); have HKK3 := Lib.hid (below_join HKK2.out bb HKK2.out.size); clear bb bb0)
              | fail)
          go_wp2_with (fail)
          go_roundw
          case rel => exact ⟨k + 1, by omega, by rw [HSY.out, HPR.out, wrap_in (x := pr) (by omega) (by omega), wrap_in (x := x.idle + pr) (by omega) (by omega), wrap_in (by omega) (by omega)], by go_num, HK3⟩
          case measure => simp only [intOf]; omega
        · have HSN := Lib.hid (soFar_off (z := z) (b := pd) HYY.out (by have := eq_of_beq h4; omega))
          have hne : ((y.phase : Int) != 4) = false := by unfold bne; rw [h4]; rfl
          go_wp2_with (fail)
          rw [← hV]
          clear hV x0 x1 x2 x3 f0 f1 f2 f3 f4 f5 f6 g0 g1 g2
          go_at_call 29
          refine (HCL.out V (below_join HB.out HKV.out hle) HOK.out k hlt true HP.out).mono ?_
          rintro e v2 ⟨rfl, bb⟩
          have HK2 := Lib.hid (below_join HKV.out bb HKV.out.size)
          obtain ⟨f0, f1, f2, f3, f4, f5, f6, g0, g1, g2⟩ := HF.out v2 HK2.out
          obtain ⟨qb, qo, e1, hqb, y0⟩ := ho_at (HZ.out v2 HK2.out) HYY.out
          rw [e1] at g1
          clear bb e1
          go_wp2_with (fail)
          go_roundw
          case rel => exact ⟨k + 1, by omega, by rw [HSN.out, HS.out], by go_num, HK2⟩
          case measure => simp only [intOf]; omega
    · obtain rfl : k = z.s.hosts.length := by omega
      have HVS := Lib.hid (show S = v by rw [← HVE.out, HS.out])
      go_wp2_with (fail)
      go_ret
      exact ⟨(show Ending.returned (.int .i64 S) = .returned (.int .i64 v) by rw [HVS.out]), below_join HB.out hK.out hle⟩
end Go.Proofs.Ytpokpgnclohiiaa

namespace Go.Proofs.Ytpokpgnclohiiaa
open Go.RowKit
set_option maxRecDepth 100000
set_option linter.unusedVariables false
set_option linter.unusedSimpArgs false

set_option maxHeartbeats 4000000 in
theorem c_pwWatts (z : Sn) (r0 : Bool) (hr0 : r0 = true ↔ z.Ok) (k : Int) (w : World) (hz : SnAt w z) (v : Int) (hv : pwV z r0 (isHost k) = v) :
    Calls Try.prog 21 #[.agg #[.slice z.p.a1 z.s.feeds.length z.p.c1, .slice z.p.a2 z.s.brks.length z.p.c2, .slice z.p.a3 z.s.loops.length z.p.c3, .slice z.p.a4 z.s.racks.length z.p.c4, .int .i64 z.s.sw, .slice z.p.a5 z.s.links.length z.p.c5, .slice z.p.a6 z.s.hosts.length z.p.c6], .agg #[.slice z.A z.xs.length z.c], .agg #[.slice z.q.a1 z.d.hosts.length z.q.c1, .slice z.q.a2 z.d.reps.length z.q.c2], .int .i64 k] w fun e w' => e = .returned (.int .i64 v) ∧ Below w.heap.size w w' := by
  obtain ⟨W1, h1⟩ : ∃ W, W = w.alloc (.cells #[.slice z.p.a1 z.s.feeds.length z.p.c1, .slice z.p.a2 z.s.brks.length z.p.c2, .slice z.p.a3 z.s.loops.length z.p.c3, .slice z.p.a4 z.s.racks.length z.p.c4, .int .i64 z.s.sw, .slice z.p.a5 z.s.links.length z.p.c5, .slice z.p.a6 z.s.hosts.length z.p.c6] 29) := ⟨_, rfl⟩
  obtain ⟨W2, h2⟩ : ∃ W, W = W1.alloc (.cells #[.slice z.A z.xs.length z.c] 34) := ⟨_, rfl⟩
  obtain ⟨W3, h3⟩ : ∃ W, W = W2.alloc (.cells #[.slice z.q.a1 z.d.hosts.length z.q.c1, .slice z.q.a2 z.d.reps.length z.q.c2] 38) := ⟨_, rfl⟩
  obtain ⟨B0, X1⟩ := sn_boxes h1 h2 h3
  have z3 : W3.heap.size = w.heap.size + 1 + 1 + 1 := sn_size h1 h2 h3
  obtain ⟨W, h4⟩ : ∃ W, W = W3.alloc (.cells #[.int .i64 k] 3) := ⟨_, rfl⟩
  have B1 : Below w.heap.size w W := by rw [h4]; exact B0.alloc B0.size _
  have M0 : W.heap[w.heap.size + 1 + 1 + 1]? = some (.cells #[.int .i64 k] 3 (0, 0)) := by rw [h4, ← z3]; exact box_new _ _ _
  have z4 : W.heap.size = w.heap.size + 1 + 1 + 1 + 1 := by rw [h4, World.size_alloc, z3]
  have X2 : SnBx W w.heap.size z := by rw [h4]; exact X1.alloc _
  have HB := Lib.hid B1
  have Z0 := hz.on B1 (Nat.le_refl _)
  have HZ := Lib.hid (fun (X : World) (hX : Below W.heap.size W X) => Z0.on hX (Nat.le_refl _))
  have HF := Lib.hid (fun (X : World) (hX : Below W.heap.size W X) => ((X2.on hX (Nat.le_refl _)).cells : X.cell? ⟨w.heap.size, 0, none⟩ = some (.slice z.p.a1 z.s.feeds.length z.p.c1) ∧ X.cell? ⟨w.heap.size, 1, none⟩ = some (.slice z.p.a2 z.s.brks.length z.p.c2) ∧ X.cell? ⟨w.heap.size, 2, none⟩ = some (.slice z.p.a3 z.s.loops.length z.p.c3) ∧ X.cell? ⟨w.heap.size, 3, none⟩ = some (.slice z.p.a4 z.s.racks.length z.p.c4) ∧ X.cell? ⟨w.heap.size, 4, none⟩ = some (.int .i64 z.s.sw) ∧ X.cell? ⟨w.heap.size, 5, none⟩ = some (.slice z.p.a5 z.s.links.length z.p.c5) ∧ X.cell? ⟨w.heap.size, 6, none⟩ = some (.slice z.p.a6 z.s.hosts.length z.p.c6) ∧ X.cell? ⟨w.heap.size + 1, 0, none⟩ = some (.slice z.A z.xs.length z.c) ∧ X.cell? ⟨w.heap.size + 1 + 1, 0, none⟩ = some (.slice z.q.a1 z.d.hosts.length z.q.c1) ∧ X.cell? ⟨w.heap.size + 1 + 1, 1, none⟩ = some (.slice z.q.a2 z.d.reps.length z.q.c2)))
  have HX := Lib.hid (fun (X : World) (hX : Below W.heap.size W X) => X2.on hX (Nat.le_refl _))
  have HM0 := Lib.hid (fun (X : World) (hX : Below W.heap.size W X) => (box_on M0 hX (Nat.le_refl _) : X.heap[w.heap.size + 1 + 1 + 1]? = some (.cells #[.int .i64 k] 3 (0, 0))))
  have HKW := Lib.hid (Below.refl W.heap.size W)
  have hle := HB.out.size
  obtain ⟨n1, n2, n3, n4, n5, n6, n7, n8⟩ := hz.bounds
  have HCL := Lib.hid (fun (X : World) (hX : Below W.heap.size W X) => c_loadHost z r0 hr0 (w.heap.size + 1 + 1 + 1) k X (HZ.out X hX) (cell_of (HM0.out X hX) rfl) (at_lt (HM0.out X hX)) v hv)
  clear hr0 hv
  clear hz B0 X1 z3 Z0 B1 M0 z4 X2
  obtain ⟨f0, f1, f2, f3, f4, f5, f6, g0, g1, g2⟩ := HF.out W HKW.out
  have m00 := cell_of (HM0.out W HKW.out) (o := 0) rfl
  rw [h4, h3, h2, h1] at f0 f1 f2 f3 f4 f5 f6 g0 g1 g2 m00
  generalize hBB : w.heap.size = B at *
  go_enter Try.func21, Try.ntmps21
  go_wp2_with (fail)
  rw [← h1, ← h2, ← h3, ← h4]
  clear h1 h2 h3 h4 f0 f1 f2 f3 f4 f5 f6 g0 g1 g2 m00
  go_at_call 28
  refine (HCL.out W HKW.out).mono ?_
  rintro e v1 ⟨rfl, bb⟩
  have HKv1 := Lib.hid (below_join HKW.out bb HKW.out.size)
  clear bb
  go_wp2_with (fail)
  go_ret
  exact ⟨rfl, below_join HB.out HKv1.out hle⟩
end Go.Proofs.Ytpokpgnclohiiaa
