/-
  DERIVED. Bad parts: Rack (written by gen/site_BC.py).
-/
import Derived.Test.YtplncglgolhfaaaBB
namespace Go.Proofs.Ytplncglgolhfaaa
open Go.RowKit
set_option maxRecDepth 100000
set_option linter.unusedVariables false
set_option linter.unusedSimpArgs false

set_option maxHeartbeats 8000000 in
theorem c_badRack (bs : Nat) (p : SP) (s : SiteD) (z0 z1 z2 z3 : Int) (r : Bool) (hr : rkBad s.brks.length s.loops.length s.sw ⟨z0, z1, z2, z3⟩ = r) (w : World) (hbox : SiBox w bs p s) :
    Calls Try.prog 70 #[.agg #[.int .i64 z0, .int .i64 z1, .int .i64 z2, .int .i64 z3], .pointer (some ⟨bs, 0, none⟩)] w fun e w' => e = .returned (.bool r) ∧ Below w.heap.size w w' := by
  obtain ⟨W, hW⟩ : ∃ W, W = w.alloc (.cells #[.int .i64 z0, .int .i64 z1, .int .i64 z2, .int .i64 z3] 96) := ⟨_, rfl⟩
  have B0 : Below w.heap.size w W := by subst hW; exact (Below.refl _ _).alloc (Nat.le_refl _) _
  have HB0 := Lib.hid B0
  have HX := Lib.hid (show W.heap[w.heap.size]? = some (.cells #[.int .i64 z0, .int .i64 z1, .int .i64 z2, .int .i64 z3] 96 (0, 0)) by subst hW; exact heap_alloc_new _ _)
  have HS := Lib.hid (hbox.on B0 (Nat.le_refl _))
  clear hbox
  have HF := Lib.hid (fun (X : World) (hX : Below W.heap.size W X) => (⟨cell_of ((hX.block _ (at_lt HX.out)).trans HX.out) rfl, cell_of ((hX.block _ (at_lt HX.out)).trans HX.out) rfl, cell_of ((hX.block _ (at_lt HX.out)).trans HX.out) rfl, cell_of ((hX.block _ (at_lt HX.out)).trans HX.out) rfl, (HS.out.on hX (Nat.le_refl _)).c1, (HS.out.on hX (Nat.le_refl _)).c2, (HS.out.on hX (Nat.le_refl _)).c4⟩ : X.cell? ⟨w.heap.size, 0, none⟩ = some (.int .i64 z0) ∧ X.cell? ⟨w.heap.size, 1, none⟩ = some (.int .i64 z1) ∧ X.cell? ⟨w.heap.size, 2, none⟩ = some (.int .i64 z2) ∧ X.cell? ⟨w.heap.size, 3, none⟩ = some (.int .i64 z3) ∧ X.cell? ⟨bs, 1, none⟩ = some (.slice p.a2 s.brks.length p.c2) ∧ X.cell? ⟨bs, 2, none⟩ = some (.slice p.a3 s.loops.length p.c3) ∧ X.cell? ⟨bs, 4, none⟩ = some (.int .i64 s.sw)))
  have HR := Lib.hid (show (!ixB z0 4 || (!ixB z1 (s.brks.length : Int) || (!ixB z2 (s.loops.length : Int) || (!ixB z3 s.sw)))) = r from hr)
  have KW := Lib.hid (Below.refl W.heap.size W)
  clear B0 hr
  obtain ⟨x0, x1, x2, x3, sc1, sc2, sc4⟩ := HF.out W KW.out
  rw [hW] at x0 x1 x2 x3 sc1 sc2 sc4
  go_enter Try.func70, Try.ntmps70
  obtain ⟨r0, h0⟩ : ∃ b, ixB z0 4 = b := ⟨_, rfl⟩
  have Q0 := Lib.hid h0
  clear h0
  go_wp2_with (fail)
  rw [← hW]
  clear hW
  clear x0 x1 x2 x3 sc1 sc2 sc4
  go_at_call 68
  refine (c_isIndex z0 4 r0 Q0.out W).mono ?_
  rintro e w1 ⟨rfl, b1⟩
  have K1 := Lib.hid (below_join KW.out b1 KW.out.size)
  clear b1
  cases r0
  · obtain rfl : true = r := by have h := HR.out; rw [show (ixB z0 4) = false from Q0.out] at h; exact h
    go_wp2_with (fail)
    go_ret
    exact ⟨rfl, below_join HB0.out K1.out HB0.out.size⟩
  obtain ⟨x0, x1, x2, x3, sc1, sc2, sc4⟩ := HF.out w1 K1.out
  obtain ⟨r1, h1⟩ : ∃ b, ixB z1 (s.brks.length : Int) = b := ⟨_, rfl⟩
  have Q1 := Lib.hid h1
  clear h1
  go_wp2_with (fail)
  clear x0 x1 x2 x3 sc1 sc2 sc4
  go_at_call 68
  refine (c_isIndex z1 (s.brks.length : Int) r1 Q1.out w1).mono ?_
  rintro e w2 ⟨rfl, b2⟩
  have K2 := Lib.hid (below_join K1.out b2 K1.out.size)
  clear b2
  cases r1
  · obtain rfl : true = r := by have h := HR.out; rw [show (ixB z0 4) = true from Q0.out, show (ixB z1 (s.brks.length : Int)) = false from Q1.out] at h; exact h
    go_wp2_with (fail)
    go_ret
    exact ⟨rfl, below_join HB0.out K2.out HB0.out.size⟩
  obtain ⟨x0, x1, x2, x3, sc1, sc2, sc4⟩ := HF.out w2 K2.out
  obtain ⟨r2, h2⟩ : ∃ b, ixB z2 (s.loops.length : Int) = b := ⟨_, rfl⟩
  have Q2 := Lib.hid h2
  clear h2
  go_wp2_with (fail)
  clear x0 x1 x2 x3 sc1 sc2 sc4
  go_at_call 68
  refine (c_isIndex z2 (s.loops.length : Int) r2 Q2.out w2).mono ?_
  rintro e w3 ⟨rfl, b3⟩
  have K3 := Lib.hid (below_join K2.out b3 K2.out.size)
  clear b3
  cases r2
  · obtain rfl : true = r := by have h := HR.out; rw [show (ixB z0 4) = true from Q0.out, show (ixB z1 (s.brks.length : Int)) = true from Q1.out, show (ixB z2 (s.loops.length : Int)) = false from Q2.out] at h; exact h
    go_wp2_with (fail)
    go_ret
    exact ⟨rfl, below_join HB0.out K3.out HB0.out.size⟩
  obtain ⟨x0, x1, x2, x3, sc1, sc2, sc4⟩ := HF.out w3 K3.out
  obtain ⟨r3, h3⟩ : ∃ b, ixB z3 s.sw = b := ⟨_, rfl⟩
  have Q3 := Lib.hid h3
  clear h3
  go_wp2_with (fail)
  clear x0 x1 x2 x3 sc1 sc2 sc4
  go_at_call 68
  refine (c_isIndex z3 s.sw r3 Q3.out w3).mono ?_
  rintro e w4 ⟨rfl, b4⟩
  have K4 := Lib.hid (below_join K3.out b4 K3.out.size)
  clear b4
  cases r3
  · obtain rfl : true = r := by have h := HR.out; rw [show (ixB z0 4) = true from Q0.out, show (ixB z1 (s.brks.length : Int)) = true from Q1.out, show (ixB z2 (s.loops.length : Int)) = true from Q2.out, show (ixB z3 s.sw) = false from Q3.out] at h; exact h
    go_wp2_with (fail)
    go_ret
    exact ⟨rfl, below_join HB0.out K4.out HB0.out.size⟩
  · obtain rfl : false = r := by have h := HR.out; rw [show (ixB z0 4) = true from Q0.out, show (ixB z1 (s.brks.length : Int)) = true from Q1.out, show (ixB z2 (s.loops.length : Int)) = true from Q2.out, show (ixB z3 s.sw) = true from Q3.out] at h; exact h
    go_wp2_with (fail)
    go_ret
    exact ⟨rfl, below_join HB0.out K4.out HB0.out.size⟩
theorem rwRack {w : World} {b o c : Nat} {l : List Rk} (h : Rw 4 rkF w (some ⟨b, o, none⟩) c l) {j : Nat} {z0 z1 z2 z3 : Int} (hj : l[j]? = some ⟨z0, z1, z2, z3⟩) : w.cell? ⟨b, o + j * 4, none⟩ = some (.int .i64 z0) ∧ w.cell? ⟨b, o + j * 4 + 1, none⟩ = some (.int .i64 z1) ∧ w.cell? ⟨b, o + j * 4 + 2, none⟩ = some (.int .i64 z2) ∧ w.cell? ⟨b, o + j * 4 + 3, none⟩ = some (.int .i64 z3) := by
  obtain ⟨b', o', e, -, h0⟩ := h.at_ hj
  injection e with e
  injection e with e1 e2
  subst e1 e2
  exact ⟨by simpa [rkF] using h0 0 (by omega), by simpa [rkF] using h0 1 (by omega), by simpa [rkF] using h0 2 (by omega), by simpa [rkF] using h0 3 (by omega)⟩
set_option maxHeartbeats 8000000 in
theorem c_IF_Rack (bs : Nat) (p : SP) (s : SiteD) (A : Option Addr) (c : Nat) (l : List Rk) (w : World) (hbox : SiBox w bs p s) (h : Rw 4 rkF w A c l) (y : Int) (hy : fidx (rkBad s.brks.length s.loops.length s.sw) l = y) :
    Calls Try.prog 104 #[.slice A l.length c, .func (.func 70) #[] #[.pointer (some ⟨bs, 0, none⟩)]] w fun e w' => e = .returned (.int .i64 y) ∧ Below w.heap.size w w' := by
  have H := Lib.hid h
  have HY := Lib.hid hy
  have hc1 := h.1
  have hc2 := h.2.1
  unfold maxLen at hc2
  have HS := Lib.hid hbox
  clear h hy hbox
  go_enter Try.func104, Try.ntmps104
  go_wp2_with (fail)
  go_loopw [8] (fun i wr => ∃ k : Nat, k ≤ l.length ∧ i = .int .i64 (k : Int) ∧ Hid (∀ i y, i < k → l[i]? = some y → rkBad s.brks.length s.loops.length s.sw y = false) ∧ Hid (Below w.heap.size w wr)) (fun i _ => l.length - (intOf i).toNat)
  case atStart => exact ⟨0, Nat.zero_le _, rfl, Lib.hid (fun i y hi => absurd hi (by omega)), Lib.hid (Below.refl _ _)⟩
  case round =>
    obtain ⟨k, hk, rfl, hun, hB⟩ := hrel
    by_cases hlt : k < l.length
    · obtain ⟨⟨z0, z1, z2, z3⟩, hx⟩ : ∃ x, l[k]? = some x := ⟨_, List.getElem?_eq_getElem hlt⟩
      have HK := H.out
      obtain ⟨pb, o, rfl, -, -⟩ := HK.at_ hx
      obtain ⟨y0, y1, y2, y3⟩ := rwRack (HK.on hB.out (Nat.le_refl _)) hx
      have HXX := Lib.hid hx
      have hki : ((k : Nat) : Int).toNat = k := by omega
      have hlt' : (k : Int) < ((l.length : Nat) : Int) := by omega
      have HS1 := Lib.hid (HS.out.on hB.out (Nat.le_refl _))
      have HC := Lib.hid (fun (r : Bool) (hr : rkBad s.brks.length s.loops.length s.sw ⟨z0, z1, z2, z3⟩ = r) => c_badRack bs p s z0 z1 z2 z3 r hr wr HS1.out)
      clear hx HK
      rcases hp : rkBad s.brks.length s.loops.length s.sw ⟨z0, z1, z2, z3⟩ with _ | _
      · have HP := Lib.hid hp
        clear hp
        go_wp2_with (go_at_call 70; refine (HC.out _ HP.out).mono ?_; rintro e w1 ⟨rfl, b1⟩; have HB1 := Lib.hid (below_join hB.out b1 hB.out.size); clear b1 y0 y1 y2 y3)
        go_roundw
        case rel => exact ⟨k + 1, by omega, by go_num, Lib.hid (fun i y hi hy => by
          rcases Nat.lt_or_ge i k with h | h
          · exact hun.out i y h hy
          · obtain rfl : i = k := by omega
            have := HXX.out
            rw [hy] at this
            injection this with this
            subst this
            exact HP.out), HB1⟩
        case measure => simp only [intOf]; omega
      · have HKY := Lib.hid (show (k : Int) = y by rw [← HY.out]; exact (fidx_at _ l k _ hun.out HXX.out hp).symm)
        have HP := Lib.hid hp
        clear hp
        go_wp2_with (go_at_call 70; refine (HC.out _ HP.out).mono ?_; rintro e w1 ⟨rfl, b1⟩; have HB1 := Lib.hid (below_join hB.out b1 hB.out.size); clear b1 y0 y1 y2 y3)
        go_ret
        exact ⟨(show Ending.returned (.int .i64 (k : Int)) = .returned (.int .i64 y) by rw [HKY.out]), HB1.out⟩
    · obtain rfl : k = l.length := by omega
      have HKY := Lib.hid (show (-1 : Int) = y by rw [← HY.out, fidx_none _ l (fun i y hy => hun.out i y (List.getElem?_eq_some_iff.1 hy).1 hy)])
      go_wp2_with (fail)
      go_ret
      exact ⟨(show Ending.returned (.int .i64 (-1)) = .returned (.int .i64 y) by rw [HKY.out]), hB.out⟩
set_option maxHeartbeats 4000000 in
theorem c_CF_Rack (bs : Nat) (p : SP) (s : SiteD) (A : Option Addr) (c : Nat) (l : List Rk) (w : World) (hbox : SiBox w bs p s) (h : Rw 4 rkF w A c l) (r : Bool) (hr : l.any (rkBad s.brks.length s.loops.length s.sw) = r) :
    Calls Try.prog 95 #[.slice A l.length c, .func (.func 70) #[] #[.pointer (some ⟨bs, 0, none⟩)]] w fun e w' => e = .returned (.bool r) ∧ Below w.heap.size w w' := by
  obtain ⟨y, hy⟩ : ∃ y, fidx (rkBad s.brks.length s.loops.length s.sw) l = y := ⟨_, rfl⟩
  have HC := Lib.hid (c_IF_Rack bs p s A c l w hbox h y hy)
  have HR := Lib.hid (show decide (0 ≤ y) = r by rw [← hy, fidx_any, hr])
  clear hy hr h hbox
  go_enter Try.func95, Try.ntmps95
  go_wp2_with (go_at_call 104; refine HC.out.mono ?_; rintro e w1 ⟨rfl, b1⟩; have HB1 := Lib.hid b1; clear b1)
  go_ret
  exact ⟨(show Ending.returned (.bool (decide (0 ≤ y))) = .returned (.bool r) by rw [HR.out]), HB1.out⟩
set_option maxHeartbeats 4000000 in
theorem c_goodRack (bs : Nat) (p : SP) (s : SiteD) (lo hi : Int) (A : Option Addr) (c : Nat) (l : List Rk) (w : World) (hbox : SiBox w bs p s) (h : Rw 4 rkF w A c l) (r : Bool) (hr : goodB (rkBad s.brks.length s.loops.length s.sw) lo hi l = r) :
    Calls Try.prog 76 #[.slice A l.length c, .int .i64 lo, .int .i64 hi, .func (.func 70) #[] #[.pointer (some ⟨bs, 0, none⟩)]] w fun e w' => e = .returned (.bool r) ∧ Below w.heap.size w w' := by
  obtain ⟨W, hW⟩ : ∃ W, W = w.alloc (.cells #[.int .i64 (l.length : Int)] 3) := ⟨_, rfl⟩
  have B0 : Below w.heap.size w W := by subst hW; exact (Below.refl _ _).alloc (Nat.le_refl _) _
  have RW := Lib.hid (show Rw 1 inF W (some ⟨w.heap.size, 0, none⟩) 1 [(l.length : Int)] by subst hW; exact rw_lit [(l.length : Int)] (by simp [maxLen]) _)
  have HB0 := Lib.hid B0
  have H := Lib.hid h
  have hlc : (l.length : Int) ≤ 9223372036854775807 := by have h1 := h.1; have h2 := h.2.1; unfold maxLen at h2; omega
  have HS := Lib.hid hbox
  have HR := Lib.hid (show (areB lo hi [(l.length : Int)] && !l.any (rkBad s.brks.length s.loops.length s.sw)) = r from hr)
  clear hr h B0 hbox
  obtain ⟨r1, h1⟩ : ∃ b, areB lo hi [(l.length : Int)] = b := ⟨_, rfl⟩
  have Q1 := Lib.hid h1
  clear h1
  go_enter Try.func76, Try.ntmps76
  go_wp2_with (fail)
  rw [← hW]
  go_at_call 66
  refine (c_areFrom lo hi (some ⟨w.heap.size, 0, none⟩) 1 [(l.length : Int)] W RW.out r1 Q1.out).mono ?_
  rintro e w1 ⟨rfl, b1⟩
  have K1 := Lib.hid (below_join HB0.out b1 HB0.out.size)
  clear b1 hW
  cases r1
  · obtain rfl : false = r := by have h := HR.out; rw [Q1.out] at h; exact h
    go_wp2_with (fail)
    go_ret
    exact ⟨rfl, K1.out⟩
  · obtain ⟨r2, h2⟩ : ∃ b, l.any (rkBad s.brks.length s.loops.length s.sw) = b := ⟨_, rfl⟩
    have Q2 := Lib.hid h2
    obtain rfl : (!r2) = r := by have h := HR.out; rw [Q1.out, h2] at h; exact h
    clear h2
    go_wp2_with (fail)
    go_at_call 95
    refine (c_CF_Rack bs p s A c l w1 (HS.out.on K1.out (Nat.le_refl _)) (H.out.on K1.out (Nat.le_refl _)) r2 Q2.out).mono ?_
    rintro e w2 ⟨rfl, b2⟩
    have K2 := Lib.hid (below_join K1.out b2 K1.out.size)
    clear b2
    go_wp2_with (fail)
    go_ret
    exact ⟨rfl, K2.out⟩
end Go.Proofs.Ytplncglgolhfaaa
