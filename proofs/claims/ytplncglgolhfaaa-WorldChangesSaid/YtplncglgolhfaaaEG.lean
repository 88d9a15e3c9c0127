/-
  DERIVED. Valid of the landed package (written by gen/world_EG.py).
-/
import Derived.Test.YtplncglgolhfaaaEF
namespace Go.Proofs.Ytplncglgolhfaaa
open Go.RowKit
set_option maxRecDepth 100000
set_option linter.unusedVariables false
set_option linter.unusedSimpArgs false

theorem any_bad {α : Type} {f : α → Bool} {l : List α} : l.any (fun x => !f x) = false ↔ ∀ x ∈ l, f x = true := by simp
set_option maxHeartbeats 16000000 in
theorem c_woValid (p : SP) (s : SiteD) (A : Option Addr) (c : Nat) (xs : List (Svc × SvA)) (q : WP) (d : WorldD) (r : Bool) (hr : r = true ↔ WorldOk s (svs xs) d) (w : World) (hs : SiAt w p s) (hx : WiAt w A c xs) (hd : WoAt w q d) :
    Calls Try.prog 14 #[siV p s, .agg #[.slice A xs.length c], .agg (woA q d)] w fun e w' => e = .returned (.bool r) ∧ Below w.heap.size w w' := by
  unfold siV woA
  obtain ⟨W1, h1⟩ : ∃ W, W = w.alloc (.cells #[.slice p.a1 s.feeds.length p.c1, .slice p.a2 s.brks.length p.c2, .slice p.a3 s.loops.length p.c3, .slice p.a4 s.racks.length p.c4, .int .i64 s.sw, .slice p.a5 s.links.length p.c5, .slice p.a6 s.hosts.length p.c6] 29) := ⟨_, rfl⟩
  obtain ⟨W2, h2⟩ : ∃ W, W = W1.alloc (.cells #[.slice A xs.length c] 32) := ⟨_, rfl⟩
  obtain ⟨W, h3⟩ : ∃ W, W = W2.alloc (.cells (woA q d) 36) := ⟨_, rfl⟩
  have s1 : W1.heap.size = w.heap.size + 1 := by rw [h1, World.size_alloc]
  have s2 : W2.heap.size = w.heap.size + 1 + 1 := by rw [h2, World.size_alloc, s1]
  have s3 : W.heap.size = w.heap.size + 1 + 1 + 1 := by rw [h3, World.size_alloc, s2]
  have B0 : Below w.heap.size w W := by
    have e1 : Below w.heap.size w W1 := by rw [h1]; exact (Below.refl _ _).alloc (Nat.le_refl _) _
    have e2 : Below w.heap.size w W2 := by rw [h2]; exact e1.alloc (by omega) _
    rw [h3]; exact e2.alloc (by omega) _
  have HB := Lib.hid B0
  have X1 : SiBox W w.heap.size p s := by
    have e1 : SiBox W1 w.heap.size p s := by rw [h1]; exact siBox_new _ _ _
    unfold SiBox at e1 ⊢
    rw [h3, h2]; exact old_heap _ (old_heap _ e1)
  have X2 : WiBox W (w.heap.size + 1) A xs.length c := by
    have e1 : W2.heap[w.heap.size + 1]? = some (.cells #[.slice A xs.length c] 32 (0, 0)) := by rw [h2, ← s1]; exact box_new _ _ _
    unfold WiBox
    rw [h3]; exact old_heap _ e1
  have X3 : WoBox W (w.heap.size + 1 + 1) q d := by
    unfold WoBox
    rw [h3, ← s2]; exact box_new _ _ _
  have HS := Lib.hid (hs.on B0 (Nat.le_refl _))
  have HX := Lib.hid (hx.on B0 (Nat.le_refl _))
  have HD := Lib.hid (hd.on B0 (Nat.le_refl _))
  have B1 := Lib.hid X1
  have B2 := Lib.hid X2
  have B3 := Lib.hid X3
  have HF := Lib.hid (fun (X : World) (hX : Below W.heap.size W X) => (⟨(X1.on hX (Nat.le_refl _)).c0, (X1.on hX (Nat.le_refl _)).c1, (X1.on hX (Nat.le_refl _)).c2, (X1.on hX (Nat.le_refl _)).c3, (X1.on hX (Nat.le_refl _)).c4, (X1.on hX (Nat.le_refl _)).c5, (X1.on hX (Nat.le_refl _)).c6, (X2.on hX (Nat.le_refl _)).c0, (X3.on hX (Nat.le_refl _)).c0, (X3.on hX (Nat.le_refl _)).c1⟩ : X.cell? ⟨w.heap.size, 0, none⟩ = some (.slice p.a1 s.feeds.length p.c1) ∧ X.cell? ⟨w.heap.size, 1, none⟩ = some (.slice p.a2 s.brks.length p.c2) ∧ X.cell? ⟨w.heap.size, 2, none⟩ = some (.slice p.a3 s.loops.length p.c3) ∧ X.cell? ⟨w.heap.size, 3, none⟩ = some (.slice p.a4 s.racks.length p.c4) ∧ X.cell? ⟨w.heap.size, 4, none⟩ = some (.int .i64 s.sw) ∧ X.cell? ⟨w.heap.size, 5, none⟩ = some (.slice p.a5 s.links.length p.c5) ∧ X.cell? ⟨w.heap.size, 6, none⟩ = some (.slice p.a6 s.hosts.length p.c6) ∧ X.cell? ⟨w.heap.size + 1, 0, none⟩ = some (.slice A xs.length c) ∧ X.cell? ⟨w.heap.size + 1 + 1, 0, none⟩ = some (.slice q.a1 d.hosts.length q.c1) ∧ X.cell? ⟨w.heap.size + 1 + 1, 1, none⟩ = some (.slice q.a2 d.reps.length q.c2)))
  have n1 := hd.hosts.1; have n2 := hd.hosts.2.1; have n3 := hd.reps.1; have n4 := hd.reps.2.1; have n5 := hs.hosts.1; have n6 := hs.hosts.2.1
  unfold maxLen at n2 n4 n6
  have HR := Lib.hid hr
  have KW := Lib.hid (Below.refl W.heap.size W)
  have hle : w.heap.size ≤ W.heap.size := B0.size
  clear B0 hr hs hx hd X1 X2 X3 s1 s2 s3
  obtain ⟨f0, f1, f2, f3, f4, f5, f6, g0, g1, g2⟩ := HF.out W KW.out
  unfold woA at h3
  rw [h3, h2, h1] at f0 f1 f2 f3 f4 f5 f6 g0 g1 g2
  generalize hA : w.heap.size = B at *
  go_enter Try.func14, Try.ntmps14
  go_wp2_with (fail)
  rw [← h1, ← h2, ← h3] at f0 f1 f2 f3 f4 f5 f6 g0 g1 g2 ⊢
  clear h1 h2 h3
  obtain ⟨q0, h0⟩ : ∃ b, siteOk s = b := ⟨_, rfl⟩
  have Q0 := Lib.hid h0
  clear h0
  go_at_call 45
  refine (c_stValid p s q0 Q0.out W HS.out).mono ?_
  rintro e w1 ⟨rfl, b1⟩
  have K1 := Lib.hid b1
  clear b1
  clear f0 f1 f2 f3 f4 f5 f6 g0 g1 g2
  obtain ⟨f0, f1, f2, f3, f4, f5, f6, g0, g1, g2⟩ := HF.out w1 K1.out
  cases q0
  · obtain rfl : false = r := by
      rcases r with _ | _
      · rfl
      · exact absurd (HR.out.1 rfl) (fun h => by have := h.1; rw [Q0.out] at this; cases this)
    go_wp2_with (fail)
    go_ret
    exact ⟨rfl, below_join HB.out K1.out hle⟩
  go_wp2_with (fail)
  obtain ⟨q1, h1⟩ : ∃ b : Bool, b = true ↔ WishOk (svs xs) := by
    by_cases h : WishOk (svs xs)
    · exact ⟨true, by simp [h]⟩
    · exact ⟨false, by simp [h]⟩
  have Q1 := Lib.hid h1
  clear h1
  go_at_call 12
  refine (c_ValidWish A c xs q1 Q1.out w1 (HX.out.on K1.out (Nat.le_refl _))).mono ?_
  rintro e w2 ⟨rfl, b2⟩
  have K2 := Lib.hid (below_join K1.out b2 K1.out.size)
  clear b2
  clear f0 f1 f2 f3 f4 f5 f6 g0 g1 g2
  obtain ⟨f0, f1, f2, f3, f4, f5, f6, g0, g1, g2⟩ := HF.out w2 K2.out
  cases q1
  · obtain rfl : false = r := by
      rcases r with _ | _
      · rfl
      · exact absurd (HR.out.1 rfl) (fun h => by have := Q1.out.2 h.2.1; cases this)
    go_wp2_with (fail)
    go_ret
    exact ⟨rfl, below_join HB.out K2.out hle⟩
  rcases h2 : ((d.hosts.length : Int) == (s.hosts.length : Int)) with _ | _
  · have Q2 := Lib.hid h2
    obtain rfl : false = r := by
      rcases r with _ | _
      · rfl
      · exact absurd (HR.out.1 rfl) (fun h => by have e := h.2.2.1; have := Q2.out; rw [e] at this; simp at this)
    go_wp2_with (fail)
    go_ret
    exact ⟨rfl, below_join HB.out K2.out hle⟩
  have Q2 := Lib.hid (show d.hosts.length = s.hosts.length by have := eq_of_beq h2; omega)
  go_wp2_with (fail)
  clear h2
  obtain ⟨q3, h3⟩ : ∃ b, d.hosts.any (fun x => !hstOk x) = b := ⟨_, rfl⟩
  have Q3 := Lib.hid h3
  clear h3
  go_at_call 46
  refine (c_CF_HostState q.a1 q.c1 d.hosts w2 (HD.out.on K2.out (Nat.le_refl _)).hosts q3 Q3.out).mono ?_
  rintro e w3 ⟨rfl, b3⟩
  have K3 := Lib.hid (below_join K2.out b3 K2.out.size)
  clear b3
  clear f0 f1 f2 f3 f4 f5 f6 g0 g1 g2
  obtain ⟨f0, f1, f2, f3, f4, f5, f6, g0, g1, g2⟩ := HF.out w3 K3.out
  cases q3
  rotate_left
  · obtain rfl : false = r := by
      rcases r with _ | _
      · rfl
      · exact absurd (HR.out.1 rfl) (fun h => by have := any_bad.2 h.2.2.2.1; rw [Q3.out] at this; cases this)
    go_wp2_with (fail)
    go_ret
    exact ⟨rfl, below_join HB.out K3.out hle⟩
  rcases h4 : decide ((d.reps.length : Int) ≤ 24) with _ | _
  · have Q4 := Lib.hid h4
    obtain rfl : false = r := by
      rcases r with _ | _
      · rfl
      · exact absurd (HR.out.1 rfl) (fun h => by have e := h.2.2.2.2.1; have := of_decide_eq_false Q4.out; omega)
    go_wp2_with (fail)
    go_ret
    exact ⟨rfl, below_join HB.out K3.out hle⟩
  have Q4 := Lib.hid (show d.reps.length ≤ 24 by have := of_decide_eq_true h4; omega)
  go_wp2_with (fail)
  clear h4
  obtain ⟨q5, h5⟩ : ∃ b, d.reps.any (fun x => !repOk xs.length s.hosts.length x) = b := ⟨_, rfl⟩
  have Q5 := Lib.hid h5
  clear h5
  go_at_call 47
  refine (c_CF_Replica (B + 1) B p s A xs.length c q.a2 q.c2 d.reps w3 (B2.out.on K3.out (Nat.le_refl _)) (B1.out.on K3.out (Nat.le_refl _)) (HD.out.on K3.out (Nat.le_refl _)).reps q5 Q5.out).mono ?_
  rintro e w4 ⟨rfl, b4⟩
  have K4 := Lib.hid (below_join K3.out b4 K3.out.size)
  clear b4
  clear f0 f1 f2 f3 f4 f5 f6 g0 g1 g2
  obtain ⟨f0, f1, f2, f3, f4, f5, f6, g0, g1, g2⟩ := HF.out w4 K4.out
  cases q5
  rotate_left
  · obtain rfl : false = r := by
      rcases r with _ | _
      · rfl
      · exact absurd (HR.out.1 rfl) (fun h => by have e := h.2.2.2.2.2.1; rw [svs_len] at e; have := any_bad.2 e; rw [Q5.out] at this; cases this)
    go_wp2_with (fail)
    go_ret
    exact ⟨rfl, below_join HB.out K4.out hle⟩
  go_wp2_with (fail)
  obtain ⟨q6, h6⟩ : ∃ b, ascB d.reps = b := ⟨_, rfl⟩
  have Q6 := Lib.hid h6
  clear h6
  have HE := Lib.hid (show q6 = r by
    rw [Bool.eq_iff_iff, HR.out, ← Q6.out]
    exact ⟨fun h => ⟨Q0.out, Q1.out.1 (by trivial), Q2.out, any_bad.1 Q3.out, Q4.out, by rw [svs_len]; exact any_bad.1 Q5.out, h⟩, fun h => h.2.2.2.2.2.2⟩)
  go_at_call 48
  refine (c_ascend q.a2 q.c2 d.reps q6 Q6.out w4 (HD.out.on K4.out (Nat.le_refl _)).reps).mono ?_
  rintro e w5 ⟨rfl, b5⟩
  have K5 := Lib.hid (below_join K4.out b5 K4.out.size)
  clear b5
  go_wp2_with (fail)
  go_ret
  exact ⟨(show Ending.returned (.bool q6) = .returned (.bool r) by rw [HE.out]), below_join HB.out K5.out hle⟩
end Go.Proofs.Ytplncglgolhfaaa
