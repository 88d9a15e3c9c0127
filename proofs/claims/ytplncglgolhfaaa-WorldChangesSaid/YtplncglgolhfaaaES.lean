/-
  DERIVED. few of the law (written by gen/world_ES.py).
-/
import Derived.Test.YtplncglgolhfaaaEF
import Derived.Test.YtplncglgolhfaaaEI
import Derived.Test.YtplncglgolhfaaaEP
namespace Go.Proofs.Ytplncglgolhfaaa
open Go.RowKit
set_option maxRecDepth 100000
set_option linter.unusedVariables false
set_option linter.unusedSimpArgs false

/-- Lists of at most 60 elements. -/
def FewOk (s : SiteD) (xs : List (Svc × SvA)) (d : WorldD) : Prop :=
  s.feeds.length ≤ 60 ∧ s.brks.length ≤ 60 ∧ s.loops.length ≤ 60 ∧ s.racks.length ≤ 60 ∧ s.links.length ≤ 60 ∧ s.hosts.length ≤ 60 ∧ xs.length ≤ 60 ∧ d.hosts.length ≤ 60 ∧ d.reps.length ≤ 60 ∧ ∀ x ∈ xs, x.1.apart.length ≤ 60 ∧ x.1.near.length ≤ 60
set_option maxHeartbeats 16000000 in
theorem c_few (p : SP) (s : SiteD) (A : Option Addr) (c : Nat) (xs : List (Svc × SvA)) (q : WP) (d : WorldD) (r : Bool) (hr : r = true ↔ FewOk s xs d) (w : World) (hs : SiAt w p s) (hx : WiAt w A c xs) (hd : WoAt w q d) :
    Calls Try.prog 10 #[siV p s, .agg #[.slice A xs.length c], .agg (woA q d)] w fun e w' => e = .returned (.bool r) ∧ Below w.heap.size w w' := by
  unfold siV woA
  obtain ⟨W1, h1⟩ : ∃ W, W = w.alloc (.cells #[.slice p.a1 s.feeds.length p.c1, .slice p.a2 s.brks.length p.c2, .slice p.a3 s.loops.length p.c3, .slice p.a4 s.racks.length p.c4, .int .i64 s.sw, .slice p.a5 s.links.length p.c5, .slice p.a6 s.hosts.length p.c6] 29) := ⟨_, rfl⟩
  obtain ⟨W2, h2⟩ : ∃ W, W = W1.alloc (.cells #[.slice A xs.length c] 32) := ⟨_, rfl⟩
  obtain ⟨W, h3⟩ : ∃ W, W = W2.alloc (.cells (woA q d) 36) := ⟨_, rfl⟩
  obtain ⟨B0, b1, b2, b3⟩ := three_boxes h1 h2 h3
  have HB := Lib.hid B0
  have hle := B0.size
  have f0 : W.cell? ⟨w.heap.size, 0, none⟩ = some (.slice p.a1 s.feeds.length p.c1) := cell_of b1 rfl
  have f1 : W.cell? ⟨w.heap.size, 1, none⟩ = some (.slice p.a2 s.brks.length p.c2) := cell_of b1 rfl
  have f2 : W.cell? ⟨w.heap.size, 2, none⟩ = some (.slice p.a3 s.loops.length p.c3) := cell_of b1 rfl
  have f3 : W.cell? ⟨w.heap.size, 3, none⟩ = some (.slice p.a4 s.racks.length p.c4) := cell_of b1 rfl
  have f5 : W.cell? ⟨w.heap.size, 5, none⟩ = some (.slice p.a5 s.links.length p.c5) := cell_of b1 rfl
  have f6 : W.cell? ⟨w.heap.size, 6, none⟩ = some (.slice p.a6 s.hosts.length p.c6) := cell_of b1 rfl
  have g0 : W.cell? ⟨w.heap.size + 1, 0, none⟩ = some (.slice A xs.length c) := cell_of b2 rfl
  have g1 : W.cell? ⟨w.heap.size + 1 + 1, 0, none⟩ = some (.slice q.a1 d.hosts.length q.c1) := cell_of b3 rfl
  have g2 : W.cell? ⟨w.heap.size + 1 + 1, 1, none⟩ = some (.slice q.a2 d.reps.length q.c2) := cell_of b3 rfl
  have HG := Lib.hid (fun (X : World) (hX : Below W.heap.size W X) => (cell_of (box_on b2 hX (Nat.le_refl _)) rfl : X.cell? ⟨w.heap.size + 1, 0, none⟩ = some (.slice A xs.length c)))
  have HX := Lib.hid (hx.on B0 (Nat.le_refl _))
  have m1 := hs.feeds.1; have m2 := hs.brks.1; have m3 := hs.loops.1; have m4 := hs.racks.1; have m5 := hs.links.1; have m6 := hs.hosts.1
  have n1 := hs.feeds.2.1; have n2 := hs.brks.2.1; have n3 := hs.loops.2.1; have n4 := hs.racks.2.1; have n5 := hs.links.2.1; have n6 := hs.hosts.2.1
  have m7 := hx.row.1; have n7 := hx.row.2.1; have m8 := hd.hosts.1; have n8 := hd.hosts.2.1; have m9 := hd.reps.1; have n9 := hd.reps.2.1
  unfold maxLen at n1 n2 n3 n4 n5 n6 n7 n8 n9
  have HR := Lib.hid hr
  clear hr hs hx hd B0 b1 b2 b3
  unfold woA at h3
  rw [h3, h2, h1] at f0 f1 f2 f3 f5 f6 g0 g1 g2
  generalize hA : w.heap.size = B at *
  rcases hd0 : decide ((60 : Int) < (s.feeds.length : Int)) with _ | _
  rotate_left
  · have HDD := Lib.hid hd0
    obtain rfl : false = r := by
      rcases r with _ | _
      · rfl
      · exact absurd (HR.out.1 rfl) (fun h => by have h1 := h.1; have h2 := of_decide_eq_true HDD.out; omega)
    go_enter Try.func10, Try.ntmps10
    go_wp2_with (fail)
    rw [← h1, ← h2, ← h3]
    go_ret
    exact ⟨rfl, HB.out⟩
  rcases hd1 : decide ((60 : Int) < (s.brks.length : Int)) with _ | _
  rotate_left
  · have HDD := Lib.hid hd1
    obtain rfl : false = r := by
      rcases r with _ | _
      · rfl
      · exact absurd (HR.out.1 rfl) (fun h => by have h1 := h.2.1; have h2 := of_decide_eq_true HDD.out; omega)
    go_enter Try.func10, Try.ntmps10
    go_wp2_with (fail)
    rw [← h1, ← h2, ← h3]
    go_ret
    exact ⟨rfl, HB.out⟩
  rcases hd2 : decide ((60 : Int) < (s.loops.length : Int)) with _ | _
  rotate_left
  · have HDD := Lib.hid hd2
    obtain rfl : false = r := by
      rcases r with _ | _
      · rfl
      · exact absurd (HR.out.1 rfl) (fun h => by have h1 := h.2.2.1; have h2 := of_decide_eq_true HDD.out; omega)
    go_enter Try.func10, Try.ntmps10
    go_wp2_with (fail)
    rw [← h1, ← h2, ← h3]
    go_ret
    exact ⟨rfl, HB.out⟩
  rcases hd3 : decide ((60 : Int) < (s.racks.length : Int)) with _ | _
  rotate_left
  · have HDD := Lib.hid hd3
    obtain rfl : false = r := by
      rcases r with _ | _
      · rfl
      · exact absurd (HR.out.1 rfl) (fun h => by have h1 := h.2.2.2.1; have h2 := of_decide_eq_true HDD.out; omega)
    go_enter Try.func10, Try.ntmps10
    go_wp2_with (fail)
    rw [← h1, ← h2, ← h3]
    go_ret
    exact ⟨rfl, HB.out⟩
  rcases hd4 : decide ((60 : Int) < (s.links.length : Int)) with _ | _
  rotate_left
  · have HDD := Lib.hid hd4
    obtain rfl : false = r := by
      rcases r with _ | _
      · rfl
      · exact absurd (HR.out.1 rfl) (fun h => by have h1 := h.2.2.2.2.1; have h2 := of_decide_eq_true HDD.out; omega)
    go_enter Try.func10, Try.ntmps10
    go_wp2_with (fail)
    rw [← h1, ← h2, ← h3]
    go_ret
    exact ⟨rfl, HB.out⟩
  rcases hd5 : decide ((60 : Int) < (s.hosts.length : Int)) with _ | _
  rotate_left
  · have HDD := Lib.hid hd5
    obtain rfl : false = r := by
      rcases r with _ | _
      · rfl
      · exact absurd (HR.out.1 rfl) (fun h => by have h1 := h.2.2.2.2.2.1; have h2 := of_decide_eq_true HDD.out; omega)
    go_enter Try.func10, Try.ntmps10
    go_wp2_with (fail)
    rw [← h1, ← h2, ← h3]
    go_ret
    exact ⟨rfl, HB.out⟩
  rcases hd6 : decide ((60 : Int) < (xs.length : Int)) with _ | _
  rotate_left
  · have HDD := Lib.hid hd6
    obtain rfl : false = r := by
      rcases r with _ | _
      · rfl
      · exact absurd (HR.out.1 rfl) (fun h => by have h1 := h.2.2.2.2.2.2.1; have h2 := of_decide_eq_true HDD.out; omega)
    go_enter Try.func10, Try.ntmps10
    go_wp2_with (fail)
    rw [← h1, ← h2, ← h3]
    go_ret
    exact ⟨rfl, HB.out⟩
  rcases hd7 : decide ((60 : Int) < (d.hosts.length : Int)) with _ | _
  rotate_left
  · have HDD := Lib.hid hd7
    obtain rfl : false = r := by
      rcases r with _ | _
      · rfl
      · exact absurd (HR.out.1 rfl) (fun h => by have h1 := h.2.2.2.2.2.2.2.1; have h2 := of_decide_eq_true HDD.out; omega)
    go_enter Try.func10, Try.ntmps10
    go_wp2_with (fail)
    rw [← h1, ← h2, ← h3]
    go_ret
    exact ⟨rfl, HB.out⟩
  rcases hd8 : decide ((60 : Int) < (d.reps.length : Int)) with _ | _
  rotate_left
  · have HDD := Lib.hid hd8
    obtain rfl : false = r := by
      rcases r with _ | _
      · rfl
      · exact absurd (HR.out.1 rfl) (fun h => by have h1 := h.2.2.2.2.2.2.2.2.1; have h2 := of_decide_eq_true HDD.out; omega)
    go_enter Try.func10, Try.ntmps10
    go_wp2_with (fail)
    rw [← h1, ← h2, ← h3]
    go_ret
    exact ⟨rfl, HB.out⟩
  have L0 := Lib.hid (show s.feeds.length ≤ 60 by have := of_decide_eq_false hd0; omega)
  have L1 := Lib.hid (show s.brks.length ≤ 60 by have := of_decide_eq_false hd1; omega)
  have L2 := Lib.hid (show s.loops.length ≤ 60 by have := of_decide_eq_false hd2; omega)
  have L3 := Lib.hid (show s.racks.length ≤ 60 by have := of_decide_eq_false hd3; omega)
  have L4 := Lib.hid (show s.links.length ≤ 60 by have := of_decide_eq_false hd4; omega)
  have L5 := Lib.hid (show s.hosts.length ≤ 60 by have := of_decide_eq_false hd5; omega)
  have L6 := Lib.hid (show xs.length ≤ 60 by have := of_decide_eq_false hd6; omega)
  have L7 := Lib.hid (show d.hosts.length ≤ 60 by have := of_decide_eq_false hd7; omega)
  have L8 := Lib.hid (show d.reps.length ≤ 60 by have := of_decide_eq_false hd8; omega)
  go_enter Try.func10, Try.ntmps10
  go_wp2_with (fail)
  rw [← h1, ← h2, ← h3]
  clear h1 h2 h3 f0 f1 f2 f3 f5 f6 g0 g1 g2
  go_loopw [7] (fun i wr => ∃ k : Nat, k ≤ xs.length ∧ i = .int .i64 (k : Int) ∧ Hid (∀ (j : Nat) x, j < k → xs[j]? = some x → x.1.apart.length ≤ 60 ∧ x.1.near.length ≤ 60) ∧ Hid (Below W.heap.size W wr)) (fun i _ => xs.length - (intOf i).toNat)
  case atStart => exact ⟨0, Nat.zero_le _, rfl, Lib.hid (fun j x hj => absurd hj (by omega)), Lib.hid (Below.refl _ _)⟩
  case round =>
    obtain ⟨k, hk, rfl, hok, hK⟩ := hrel
    have hki : ((k : Nat) : Int).toNat = k := by omega
    have g0 := HG.out wr hK.out
    by_cases hlt : k < xs.length
    · obtain ⟨x, hx⟩ : ∃ x, xs[k]? = some x := ⟨_, List.getElem?_eq_getElem hlt⟩
      have HK := HX.out.on hK.out (Nat.le_refl _)
      obtain ⟨pb, po, rfl, -, -⟩ := HK.row.at_ hx
      obtain ⟨-, -, -, -, -, y5, y6, -⟩ := sv_at HK.row hx
      have hkl : (k : Int) < (xs.length : Int) := by omega
      have HXX := Lib.hid hx
      have p1 := (HK.each x (List.mem_of_getElem? hx)).apart.1
      have p2 := (HK.each x (List.mem_of_getElem? hx)).apart.2.1
      have p3 := (HK.each x (List.mem_of_getElem? hx)).near.1
      have p4 := (HK.each x (List.mem_of_getElem? hx)).near.2.1
      unfold maxLen at p2 p4
      clear hx HK
      rcases ha : decide ((60 : Int) < (x.1.apart.length : Int)) with _ | _
      · rcases hb : decide ((60 : Int) < (x.1.near.length : Int)) with _ | _
        · have HO := Lib.hid (show ∀ (j : Nat) x, j < k + 1 → xs[j]? = some x → x.1.apart.length ≤ 60 ∧ x.1.near.length ≤ 60 from fun j z hj hz => by
            rcases Nat.lt_or_ge j k with h | h
            · exact hok.out j z h hz
            · obtain rfl : j = k := by omega
              rw [HXX.out] at hz
              injection hz with hz
              subst hz
              have h1 := of_decide_eq_false ha
              have h2 := of_decide_eq_false hb
              omega)
          go_wp2_with (fail)
          go_roundw
          case rel => exact ⟨k + 1, by omega, by go_num, HO, hK⟩
          case measure => simp only [intOf]; omega
        · have HBB := Lib.hid hb
          obtain rfl : false = r := by
            rcases r with _ | _
            · rfl
            · exact absurd (HR.out.1 rfl) (fun h => by have h1 := (h.2.2.2.2.2.2.2.2.2 x (List.mem_of_getElem? HXX.out)).2; have h2 := of_decide_eq_true HBB.out; omega)
          go_wp2_with (fail)
          go_ret
          exact ⟨rfl, below_join HB.out hK.out hle⟩
      · have HAA := Lib.hid ha
        obtain rfl : false = r := by
          rcases r with _ | _
          · rfl
          · exact absurd (HR.out.1 rfl) (fun h => by have h1 := (h.2.2.2.2.2.2.2.2.2 x (List.mem_of_getElem? HXX.out)).1; have h2 := of_decide_eq_true HAA.out; omega)
        go_wp2_with (fail)
        go_ret
        exact ⟨rfl, below_join HB.out hK.out hle⟩
    · obtain rfl : k = xs.length := by omega
      obtain rfl : true = r := by
        refine (HR.out.2 ⟨L0.out, L1.out, L2.out, L3.out, L4.out, L5.out, L6.out, L7.out, L8.out, fun x hx => ?_⟩).symm
        obtain ⟨i, hi⟩ := List.getElem?_of_mem hx
        exact hok.out i x (List.getElem?_eq_some_iff.1 hi).1 hi
      go_wp2_with (fail)
      go_ret
      exact ⟨rfl, below_join HB.out hK.out hle⟩
end Go.Proofs.Ytplncglgolhfaaa
