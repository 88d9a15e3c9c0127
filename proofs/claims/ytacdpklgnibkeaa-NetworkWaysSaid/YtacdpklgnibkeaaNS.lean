/-
  The law NetworkWays (written by gen/net_NQ.py; stage 16).
-/
import Derived.Test.YtacdpklgnibkeaaNQ
set_option linter.unusedVariables false
set_option linter.unusedSimpArgs false
namespace Go.Proofs.Ytacdpklgnibkeaa
open Go.RowKit
set_option maxRecDepth 100000
set_option linter.unusedVariables false
set_option linter.unusedSimpArgs false

theorem node_at {u : Nat} : ∀ {W : List Nat} {k : Nat}, k ≤ W.length → (u :: W)[k]? = some (wend u (W.take k)) := by
  intro W
  induction W generalizing u with
  | nil => intro k hk; obtain rfl : k = 0 := by simpa using hk
           rfl
  | cons x W ih =>
    intro k hk
    cases k with
    | zero => rfl
    | succ k =>
      show (x :: W)[k]? = some (wend x (W.take k))
      exact ih (by simpa using hk)
theorem walk_at {n : Nat} {L : Nat → Nat → Int} {u : Nat} {W : List Nat} {k z : Nat} (h : wok n L u W) (hz : W[k]? = some z) (hL : ∀ i j, 0 ≤ L i j → 1 ≤ L i j) :
    0 ≤ L (wend u (W.take k)) z ∧ wlen L u (W.take (k + 1)) = wlen L u (W.take k) + L (wend u (W.take k)) z ∧ wlen L u (W.take (k + 1)) ≤ wlen L u W ∧ 0 ≤ wlen L u (W.take k) := by
  have hk := (List.getElem?_eq_some_iff.1 hz).1
  have e1 : W.take (k + 1) = W.take k ++ [z] := by rw [List.take_add_one, hz]; rfl
  have e2 : W = W.take (k + 1) ++ W.drop (k + 1) := (List.take_append_drop _ _).symm
  have h2 := h
  rw [e2, wok_app] at h2
  obtain ⟨h3, h4⟩ := h2
  have h5 := h3
  rw [e1, wok_app] at h5
  have h6 := wlen_pos hL h4
  have h7 := wlen_pos hL h5.1
  refine ⟨h5.2.2.1, ?_, ?_, by omega⟩
  · rw [e1, wlen_app]
    show _ + (L _ z + 0) = _
    rw [Int.add_zero]
  · have e3 : wlen L u W = wlen L u (W.take (k + 1)) + wlen L (wend u (W.take (k + 1))) (W.drop (k + 1)) := by rw [← wlen_app, ← e2]
    omega
set_option maxHeartbeats 32000000 in
theorem row_NetworkWays (w : World) (p : SP) (s : SiteD) (h : SiAt w p s) (a b : Int) :
    Calls Try.prog 6 #[siV p s, .int .i64 a, .int .i64 b] w fun e w' => e = .returned (.bool true) ∧ Below w.heap.size w w' := by
  unfold siV
  have HLV := Lib.hid (fun (X : World) => c_live X)
  obtain ⟨W, h1⟩ : ∃ W, W = w.alloc (.cells #[.slice p.a1 s.feeds.length p.c1, .slice p.a2 s.brks.length p.c2, .slice p.a3 s.loops.length p.c3, .slice p.a4 s.racks.length p.c4, .int .i64 s.sw, .slice p.a5 s.links.length p.c5, .slice p.a6 s.hosts.length p.c6] 29) := ⟨_, rfl⟩
  have z1 : W.heap.size = w.heap.size + 1 := by rw [h1, World.size_alloc]
  have B1 : Below w.heap.size w W := by rw [h1]; exact (Below.refl _ _).alloc (Nat.le_refl _) _
  have X1 : SiBox W w.heap.size p s := by rw [h1]; exact siBox_new _ _ _
  have HB := Lib.hid B1
  have HZ := Lib.hid z1
  have HA := Lib.hid (fun (X : World) (hX : Below W.heap.size W X) => (h.on B1 (Nat.le_refl _)).on hX (Nat.le_refl _))
  have HF := Lib.hid (fun (X : World) (hX : Below W.heap.size W X) => (let z := X1.on hX (Nat.le_refl _); ⟨z.c0, z.c1, z.c2, z.c3, z.c4, z.c5, z.c6⟩ : X.cell? ⟨w.heap.size, 0, none⟩ = some (.slice p.a1 s.feeds.length p.c1) ∧ X.cell? ⟨w.heap.size, 1, none⟩ = some (.slice p.a2 s.brks.length p.c2) ∧ X.cell? ⟨w.heap.size, 2, none⟩ = some (.slice p.a3 s.loops.length p.c3) ∧ X.cell? ⟨w.heap.size, 3, none⟩ = some (.slice p.a4 s.racks.length p.c4) ∧ X.cell? ⟨w.heap.size, 4, none⟩ = some (.int .i64 s.sw) ∧ X.cell? ⟨w.heap.size, 5, none⟩ = some (.slice p.a5 s.links.length p.c5) ∧ X.cell? ⟨w.heap.size, 6, none⟩ = some (.slice p.a6 s.hosts.length p.c6)))
  have HX := Lib.hid (fun (X : World) (hX : Below W.heap.size W X) => X1.on hX (Nat.le_refl _))
  have HKW := Lib.hid (Below.refl W.heap.size W)
  have hle := HB.out.size
  have n0 := h.feeds.1; have m0 := h.feeds.2.1
  have n1 := h.brks.1; have m1 := h.brks.2.1
  have n2 := h.loops.1; have m2 := h.loops.2.1
  have n3 := h.racks.1; have m3 := h.racks.2.1
  have n4 := h.links.1; have m4 := h.links.2.1
  have n5 := h.hosts.1; have m5 := h.hosts.2.1
  unfold maxLen at m0 m1 m2 m3 m4 m5
  obtain ⟨rf, hrf⟩ := bool_of (FewN s)
  have HRF := Lib.hid hrf
  clear hrf
  obtain ⟨d, hd⟩ : ∃ t, distI s a b = t := ⟨_, rfl⟩
  have HD := Lib.hid hd
  have hdr := distI_ge s a b
  rw [hd] at hdr
  obtain ⟨wl, hw⟩ : ∃ t, nats (wyI s a b) = t := ⟨_, rfl⟩
  have HW := Lib.hid hw
  clear hd hw
  clear h z1 B1 X1
  obtain ⟨f0, f1, f2, f3, f4, f5, f6⟩ := HF.out W HKW.out
  rw [h1] at f0 f1 f2 f3 f4 f5 f6
  generalize hBB : w.heap.size = B at *
  go_enter Try.func6, Try.ntmps6
  go_wp2_with (fail)
  rw [← h1]
  clear h1 f0 f1 f2 f3 f4 f5 f6
  go_at_call 8
  refine (c_fewN p s rf HRF.out W (HA.out W HKW.out)).mono ?_
  rintro e v1 ⟨rfl, bb⟩
  have HKv1 := Lib.hid (below_join HKW.out bb HKW.out.size)
  clear bb
  cases rf
  · skip
    go_wp2_with (fail)
    go_at_call 9
    refine (HLV.out v1).mono ?_
    rintro e v102 ⟨rfl, bb⟩
    have HKv102 := Lib.hid (below_join HKv1.out bb HKv1.out.size)
    clear bb
    go_wp2_with (fail)
    go_ret
    exact ⟨rfl, below_join HB.out HKv102.out hle⟩
  have C1 := Lib.hid (fun (X : World) (hX : Below W.heap.size W X) => c_neDistanceTo p s a b d HD.out X (HA.out X hX))
  have C5 := Lib.hid (fun (X : World) (hX : Below W.heap.size W X) => c_neWayTo p s a b wl HW.out X (HA.out X hX))
  obtain ⟨f0, f1, f2, f3, f4, f5, f6⟩ := HF.out v1 HKv1.out
  go_wp2_with (fail)
  go_region_held3 (fun X => X.cell? ⟨B, 0, none⟩ = some (.slice p.a1 s.feeds.length p.c1) ∧ X.cell? ⟨B, 1, none⟩ = some (.slice p.a2 s.brks.length p.c2) ∧ X.cell? ⟨B, 2, none⟩ = some (.slice p.a3 s.loops.length p.c3) ∧ X.cell? ⟨B, 3, none⟩ = some (.slice p.a4 s.racks.length p.c4) ∧ X.cell? ⟨B, 4, none⟩ = some (.int .i64 s.sw) ∧ X.cell? ⟨B, 5, none⟩ = some (.slice p.a5 s.links.length p.c5) ∧ X.cell? ⟨B, 6, none⟩ = some (.slice p.a6 s.hosts.length p.c6))
    (first | exact HF.out v154 HKv154.out | exact HF.out v153 HKv153.out | exact HF.out v1 HKv1.out | fail)
    (first
      | (go_at_call 15; (with_reducible refine (C5.out v1.drew HKv1.out.drew).mono ?_); rintro e v153 ⟨A1, q1, rfl, hy, bb0⟩; have bb := below_join (Below.refl v1.heap.size v1).drew bb0 (Nat.le_refl _); have HKv153 := Lib.hid (below_join HKv1.out bb HKv1.out.size); have HY1v153 := Lib.hid hy; clear hy; clear bb bb0)
      | (go_at_call 10; (with_reducible refine (C1.out v153 HKv153.out).mono ?_); rintro e v154 ⟨rfl, bb0⟩; have bb := below_join (Below.refl v153.heap.size v153) bb0 (Nat.le_refl _); have HKv154 := Lib.hid (below_join HKv153.out bb HKv153.out.size); have HY1v154 := Lib.hid (HY1v153.out.on bb (Nat.le_refl _)); clear bb bb0)
      | fail)
  rcases hd0 : decide (d < 0) with _ | _
  rotate_left
  · skip
    have hd1 := of_decide_eq_true hd0
    obtain rfl : [] = wl := by rw [← HW.out]; unfold wyI; rw [HD.out, if_neg (by omega)]; rfl
    go_wp2_with (fail)
    go_at_call 9
    refine (HLV.out v154).mono ?_
    rintro e v255 ⟨rfl, bb⟩
    have HKv255 := Lib.hid (below_join HKv154.out bb HKv154.out.size)
    have HY1v255 := Lib.hid (HY1v154.out.on bb (Nat.le_refl _))
    clear bb
    go_wp2_with (fail)
    go_ret
    exact ⟨rfl, below_join HB.out HKv255.out hle⟩
  have hd1 : 0 ≤ d := by have := of_decide_eq_false hd0; omega
  obtain ⟨hs, ga, gb, gd⟩ := distI_ok (s := s) (a := a) (b := b) (by rw [HD.out]; exact hd1)
  rw [HD.out] at gd
  rw [ixB_iff] at ga gb
  obtain ⟨ua, rfl⟩ : ∃ u : Nat, a = u := ⟨a.toNat, by omega⟩
  obtain ⟨ub, rfl⟩ : ∃ u : Nat, b = u := ⟨b.toNat, by omega⟩
  have hsk := sk hs
  have hn3 := hsk.2.2.1
  have HLO := Lib.hid hsk.1
  have gd' : d = dS s ua ub := gd
  obtain ⟨k1, k2, k3⟩ := way_ok hsk.1 (a := ua) (b := ub) (by omega) (by omega) (show 0 ≤ dS s ua ub by omega)
  obtain ⟨Wy, hWy⟩ : ∃ l, wayV (nS s) (lkN s) ua ub = l := ⟨_, rfl⟩
  rw [hWy] at k1 k2 k3
  have k3' : wlen (lkN s) ua Wy = d := by rw [k3, gd']; rfl
  obtain rfl : nats (ua :: Wy) = wl := by
    rw [← HW.out]
    unfold wyI
    rw [HD.out, if_pos hd1]
    show nats (ua :: Wy) = nats (ua :: wayV (nS s) (lkN s) ua ub)
    rw [hWy]
  have HOK := Lib.hid k1
  have HEND := Lib.hid k2
  have HLEN := Lib.hid k3'
  have hwl : (Wy.length : Int) ≤ d := by rw [← k3']; exact wlen_pos hsk.1.pos k1
  have hnl : (nats (ua :: Wy)).length = Wy.length + 1 := by rw [nats_len]; rfl
  have HNL := Lib.hid hnl
  have HN := Lib.hid (fun (k : Nat) (hk : k ≤ Wy.length) => (by unfold nats; rw [List.getElem?_map, node_at hk]; rfl : (nats (ua :: Wy))[k]? = some ((wend ua (Wy.take k) : Nat) : Int)))
  obtain ⟨nw, hnw⟩ : ∃ n, Wy.length = n := ⟨_, rfl⟩
  obtain ⟨m, hm⟩ : ∃ m, m = nw + 1 := ⟨_, rfl⟩
  obtain ⟨lb, lo, hlA, -, -⟩ := (HY1v154.out).at_ (HN.out 0 (Nat.zero_le _))
  subst hlA
  have HLC := Lib.hid (fun (X : World) (hX : Below v154.heap.size v154 X) (k : Nat) (hk : k ≤ nw) => (inRw (HY1v154.out.on hX (Nat.le_refl _)) (HN.out k (by omega)) : X.cell? ⟨lb, lo + k, none⟩ = some (.int .i64 ((wend ua (Wy.take k) : Nat) : Int))))
  have hqb := HY1v154.out.2.1
  unfold maxLen at hqb
  have e0 := HLC.out v154 (Below.refl _ _) 0 (by omega)
  have e1 := HLC.out v154 (Below.refl _ _) nw (Nat.le_refl _)
  rw [Nat.add_zero, show wend ua (Wy.take 0) = ua from rfl] at e0
  rw [show wend ua (Wy.take nw) = ub by rw [← hnw, List.take_length]; exact HEND.out] at e1
  rw [hnl, hnw, ← hm]
  have hm1 : IntKind.i64.wrap ((m : Int) - 1) = (nw : Int) := by rw [hm, show ((nw + 1 : Nat) : Int) - 1 = (nw : Int) by omega]; exact wrap_in (by omega) (by omega)
  have hm2 : (nw : Int) < (m : Int) := by omega
  have hm3 : (0 : Int) < (m : Int) := by omega
  have hm4 : decide ((m : Int) < 1) = false := decide_eq_false (by omega)
  have hm5 : ((nw : Nat) : Int).toNat = nw := by omega
  have hm6 : (0 : Int) ≤ (nw : Int) := by omega
  rw [hnw] at hwl
  have HMM := Lib.hid hm
  have HNW := Lib.hid hnw
  have HS := Lib.hid hs
  clear hm hnw hnl hWy k1 k2 k3 k3' gd gd' hsk hn3 ga gb hs f0 f1 f2 f3 f4 f5 f6
  go_wp2_with (fail)
  clear e0 e1 hm1 hm4
  go_loopw [9, 10] (fun v i wr => ∃ k : Nat, k ≤ nw ∧ i = .int .i64 ((k + 1 : Nat) : Int) ∧ v = .int .i64 (wlen (lkN s) ua (Wy.take k)) ∧ Hid (Below v154.heap.size v154 wr)) (fun _ i _ => nw + 1 - (intOf i).toNat)
  case atStart => exact ⟨0, Nat.zero_le _, rfl, rfl, Lib.hid (Below.refl _ _)⟩
  case round =>
    obtain ⟨k, hk, rfl, rfl, hB⟩ := hrel
    obtain ⟨j, hj⟩ : ∃ j, j = k + 1 := ⟨_, rfl⟩
    rw [← hj]
    have HJ := Lib.hid hj
    have hji : ((j : Nat) : Int).toNat = j := by omega
    have hj1 : IntKind.i64.wrap ((j : Int) - 1) = (k : Int) := by rw [hj, show ((k + 1 : Nat) : Int) - 1 = (k : Int) by omega]; exact wrap_in (by omega) (by omega)
    have hki : ((k : Nat) : Int).toNat = k := by omega
    obtain ⟨sm, hsm⟩ : ∃ z, wlen (lkN s) ua (Wy.take k) = z := ⟨_, rfl⟩
    rw [hsm]
    have HSM := Lib.hid hsm
    by_cases hlt : k < nw
    · have hjm : (j : Int) < (m : Int) := by have := HMM.out; omega
      have hkm : (k : Int) < (m : Int) := by have := HMM.out; omega
      have hk0 : (0 : Int) ≤ (k : Int) := by omega
      obtain ⟨z, hz⟩ : ∃ z, Wy[k]? = some z := ⟨_, List.getElem?_eq_getElem (by rw [HNW.out]; exact hlt)⟩
      obtain ⟨q1, q2, q3, q4⟩ := walk_at HOK.out hz HLO.out.pos
      have c0 := fun (X : World) (hX : Below v154.heap.size v154 X) => HLC.out X hX k (by omega)
      have c1 := fun (X : World) (hX : Below v154.heap.size v154 X) => HLC.out X hX (k + 1) (by omega)
      have hzz : wend ua (Wy.take (k + 1)) = z := by rw [List.take_add_one, hz]; show wend ua (Wy.take k ++ [z]) = z; rw [wend_app]; rfl
      rw [hzz] at c1
      rw [← hj] at c1
      rw [HLEN.out] at q3
      obtain ⟨y, hy⟩ : ∃ y, wend ua (Wy.take k) = y := ⟨_, rfl⟩
      rw [hy] at c0 q1 q2
      rw [hsm] at q2 q4
      have HC0 := Lib.hid c0
      have HC1 := Lib.hid c1
      have HQ2 := Lib.hid q2
      obtain ⟨st, hst⟩ : ∃ t, lnk s.links (y : Int) (z : Int) = t := ⟨_, rfl⟩
      have HST := Lib.hid hst
      have hst0 : 0 ≤ st := by rw [← hst]; exact q1
      have hst1 : st ≤ 1000000 := by rw [← hst]; exact HLO.out.top y z
      have hsm1 : sm ≤ 7000000 := by rw [q2] at q3; have : 0 ≤ lkN s y z := q1; omega
      have hsm0 : 0 ≤ sm := q4
      clear c0 c1 hj hz q1 q2 q3 q4 hzz hy hst hsm
      go_wp2_with (fail)
      go_loopw [11, 12] (fun v i wr => ∃ t : Nat, t ≤ s.links.length ∧ i = .int .i64 (t : Int) ∧ v = .int .i64 (lnk (s.links.take t) (y : Int) (z : Int)) ∧ Hid (Below v154.heap.size v154 wr)) (fun _ i _ => s.links.length - (intOf i).toNat)
      case atStart => exact ⟨0, Nat.zero_le _, rfl, rfl, hB⟩
      case round =>
        obtain ⟨t, ht, rfl, rfl, hB⟩ := hrel
        have hti : ((t : Nat) : Int).toNat = t := by omega
        have HKwr := Lib.hid (below_join HKv154.out hB.out HKv154.out.size)
        obtain ⟨f0, f1, f2, f3, f4, f5, f6⟩ := HF.out wr HKwr.out
        by_cases htl : t < s.links.length
        · have htl2 : (t : Int) < (s.links.length : Int) := by omega
          obtain ⟨⟨xa, xb, lat⟩, hx⟩ : ∃ x, s.links[t]? = some x := ⟨_, List.getElem?_eq_getElem htl⟩
          have HLL := (HA.out wr HKwr.out).links
          obtain ⟨pb, po, hpe, -, -⟩ := HLL.at_ hx
          rw [hpe] at HLL f5
          obtain ⟨y0, y1, y2⟩ := rwLink HLL hx
          have HU := Lib.hid (lnk_take hx (y : Int) (z : Int))
          obtain ⟨be, hbe⟩ : ∃ q, lnk (s.links.take t) (y : Int) (z : Int) = q := ⟨_, rfl⟩
          rw [hbe] at HU ⊢
          obtain ⟨V, hV⟩ : ∃ V, V = wr.alloc (.cells #[.int .i64 xa, .int .i64 xb, .int .i64 lat] 39) := ⟨_, rfl⟩
          obtain ⟨Nb, hNb⟩ : ∃ n, wr.heap.size = n := ⟨_, rfl⟩
          have HBV := Lib.hid (show Below v154.heap.size v154 V by rw [hV]; exact hB.out.alloc hB.out.size _)
          have bx : V.heap[Nb]? = some (.cells #[.int .i64 xa, .int .i64 xb, .int .i64 lat] 39 (0, 0)) := by rw [hV, ← hNb]; exact box_new _ _ _
          have v0 : V.cell? ⟨Nb, 0, none⟩ = some (.int .i64 xa) := cell_of bx rfl
          have v1 : V.cell? ⟨Nb, 1, none⟩ = some (.int .i64 xb) := cell_of bx rfl
          have v2 : V.cell? ⟨Nb, 2, none⟩ = some (.int .i64 lat) := cell_of bx rfl
          have v3 := HC0.out V HBV.out
          have v4 := HC1.out V HBV.out
          have HVV := Lib.hid (And.intro v0 (And.intro v1 (And.intro v2 (And.intro v3 v4))))
          have HNB := Lib.hid hNb
          clear HLL hx hpe hbe bx v0 v1 v2 v3 v4 hNb
          go_wp2_with (fail)
          rw [← hV, HNB.out]
          clear hV y0 y1 y2 f0 f1 f2 f3 f4 f5 f6
          obtain ⟨v0, v1, v2, v3, v4⟩ := HVV.out
          rcases h1 : (xa == (y : Int)) with _ | _
          · have h1' : ¬ xa = (y : Int) := by simpa using h1
            rcases h3 : (xb == (y : Int)) with _ | _
            · have h3' : ¬ xb = (y : Int) := by simpa using h3
              have HN2 := Lib.hid (show lnk (s.links.take (t + 1)) (y : Int) (z : Int) = be by rw [HU.out]; unfold upd; rw [if_neg (by rintro ⟨⟨g1, g2⟩ | ⟨g1, g2⟩, -⟩; exact h1' g1; exact h3' g2)])
              go_quiet (fail)
              go_wp2_with (fail)
              first
                | (go_roundw
                   case rel => exact ⟨t + 1, by omega, by go_num, by rw [HN2.out], Lib.hid (below_drewN HBV.out)⟩
                   case measure => simp only [intOf]; omega)
                | (go_roundw
                   exact ⟨⟨t + 1, by omega, by go_num, by rw [HN2.out], Lib.hid (below_drewN HBV.out)⟩, by simp only [intOf]; omega⟩)
            · rcases h4 : (xa == (z : Int)) with _ | _
              · have h4' : ¬ xa = (z : Int) := by simpa using h4
                have HN2 := Lib.hid (show lnk (s.links.take (t + 1)) (y : Int) (z : Int) = be by rw [HU.out]; unfold upd; rw [if_neg (by rintro ⟨⟨g1, g2⟩ | ⟨g1, g2⟩, -⟩; exact h1' g1; exact h4' g1)])
                go_quiet (fail)
                go_wp2_with (fail)
                first
                  | (go_roundw
                     case rel => exact ⟨t + 1, by omega, by go_num, by rw [HN2.out], Lib.hid (below_drewN HBV.out)⟩
                     case measure => simp only [intOf]; omega)
                  | (go_roundw
                     exact ⟨⟨t + 1, by omega, by go_num, by rw [HN2.out], Lib.hid (below_drewN HBV.out)⟩, by simp only [intOf]; omega⟩)
              · skip
                rcases h5 : decide (be < 0) with _ | _
                · rcases h6 : decide (lat < be) with _ | _
                  · have h5' := of_decide_eq_false h5
                    have h6' := of_decide_eq_false h6
                    have HN2 := Lib.hid (show lnk (s.links.take (t + 1)) (y : Int) (z : Int) = be by rw [HU.out]; unfold upd; rw [if_neg (by rintro ⟨-, h | h⟩; exact h5' h; exact h6' h)])
                    go_quiet (fail)
                    go_wp2_with (fail)
                    first
                      | (go_roundw
                         case rel => exact ⟨t + 1, by omega, by go_num, by rw [HN2.out], Lib.hid (below_drewN HBV.out)⟩
                         case measure => simp only [intOf]; omega)
                      | (go_roundw
                         exact ⟨⟨t + 1, by omega, by go_num, by rw [HN2.out], Lib.hid (below_drewN HBV.out)⟩, by simp only [intOf]; omega⟩)
                  · have h6' := of_decide_eq_true h6
                    have HN2 := Lib.hid (show lnk (s.links.take (t + 1)) (y : Int) (z : Int) = lat by rw [HU.out]; unfold upd; rw [if_pos ⟨.inr ⟨by simpa using h4, by simpa using h3⟩, .inr h6'⟩])
                    go_quiet (fail)
                    go_wp2_with (fail)
                    first
                      | (go_roundw
                         case rel => exact ⟨t + 1, by omega, by go_num, by rw [HN2.out], Lib.hid (below_drewN HBV.out)⟩
                         case measure => simp only [intOf]; omega)
                      | (go_roundw
                         exact ⟨⟨t + 1, by omega, by go_num, by rw [HN2.out], Lib.hid (below_drewN HBV.out)⟩, by simp only [intOf]; omega⟩)
                · have h5' := of_decide_eq_true h5
                  have HN2 := Lib.hid (show lnk (s.links.take (t + 1)) (y : Int) (z : Int) = lat by rw [HU.out]; unfold upd; rw [if_pos ⟨.inr ⟨by simpa using h4, by simpa using h3⟩, .inl h5'⟩])
                  go_quiet (fail)
                  go_wp2_with (fail)
                  first
                    | (go_roundw
                       case rel => exact ⟨t + 1, by omega, by go_num, by rw [HN2.out], Lib.hid (below_drewN HBV.out)⟩
                       case measure => simp only [intOf]; omega)
                    | (go_roundw
                       exact ⟨⟨t + 1, by omega, by go_num, by rw [HN2.out], Lib.hid (below_drewN HBV.out)⟩, by simp only [intOf]; omega⟩)
          · rcases h2 : (xb == (z : Int)) with _ | _
            · have h2' : ¬ xb = (z : Int) := by simpa using h2
              rcases h3 : (xb == (y : Int)) with _ | _
              · have h3' : ¬ xb = (y : Int) := by simpa using h3
                have HN2 := Lib.hid (show lnk (s.links.take (t + 1)) (y : Int) (z : Int) = be by rw [HU.out]; unfold upd; rw [if_neg (by rintro ⟨⟨g1, g2⟩ | ⟨g1, g2⟩, -⟩; exact h2' g2; exact h3' g2)])
                go_quiet (fail)
                go_wp2_with (fail)
                first
                  | (go_roundw
                     case rel => exact ⟨t + 1, by omega, by go_num, by rw [HN2.out], Lib.hid (below_drewN HBV.out)⟩
                     case measure => simp only [intOf]; omega)
                  | (go_roundw
                     exact ⟨⟨t + 1, by omega, by go_num, by rw [HN2.out], Lib.hid (below_drewN HBV.out)⟩, by simp only [intOf]; omega⟩)
              · rcases h4 : (xa == (z : Int)) with _ | _
                · have h4' : ¬ xa = (z : Int) := by simpa using h4
                  have HN2 := Lib.hid (show lnk (s.links.take (t + 1)) (y : Int) (z : Int) = be by rw [HU.out]; unfold upd; rw [if_neg (by rintro ⟨⟨g1, g2⟩ | ⟨g1, g2⟩, -⟩; exact h2' g2; exact h4' g1)])
                  go_quiet (fail)
                  go_wp2_with (fail)
                  first
                    | (go_roundw
                       case rel => exact ⟨t + 1, by omega, by go_num, by rw [HN2.out], Lib.hid (below_drewN HBV.out)⟩
                       case measure => simp only [intOf]; omega)
                    | (go_roundw
                       exact ⟨⟨t + 1, by omega, by go_num, by rw [HN2.out], Lib.hid (below_drewN HBV.out)⟩, by simp only [intOf]; omega⟩)
                · skip
                  rcases h5 : decide (be < 0) with _ | _
                  · rcases h6 : decide (lat < be) with _ | _
                    · have h5' := of_decide_eq_false h5
                      have h6' := of_decide_eq_false h6
                      have HN2 := Lib.hid (show lnk (s.links.take (t + 1)) (y : Int) (z : Int) = be by rw [HU.out]; unfold upd; rw [if_neg (by rintro ⟨-, h | h⟩; exact h5' h; exact h6' h)])
                      go_quiet (fail)
                      go_wp2_with (fail)
                      first
                        | (go_roundw
                           case rel => exact ⟨t + 1, by omega, by go_num, by rw [HN2.out], Lib.hid (below_drewN HBV.out)⟩
                           case measure => simp only [intOf]; omega)
                        | (go_roundw
                           exact ⟨⟨t + 1, by omega, by go_num, by rw [HN2.out], Lib.hid (below_drewN HBV.out)⟩, by simp only [intOf]; omega⟩)
                    · have h6' := of_decide_eq_true h6
                      have HN2 := Lib.hid (show lnk (s.links.take (t + 1)) (y : Int) (z : Int) = lat by rw [HU.out]; unfold upd; rw [if_pos ⟨.inr ⟨by simpa using h4, by simpa using h3⟩, .inr h6'⟩])
                      go_quiet (fail)
                      go_wp2_with (fail)
                      first
                        | (go_roundw
                           case rel => exact ⟨t + 1, by omega, by go_num, by rw [HN2.out], Lib.hid (below_drewN HBV.out)⟩
                           case measure => simp only [intOf]; omega)
                        | (go_roundw
                           exact ⟨⟨t + 1, by omega, by go_num, by rw [HN2.out], Lib.hid (below_drewN HBV.out)⟩, by simp only [intOf]; omega⟩)
                  · have h5' := of_decide_eq_true h5
                    have HN2 := Lib.hid (show lnk (s.links.take (t + 1)) (y : Int) (z : Int) = lat by rw [HU.out]; unfold upd; rw [if_pos ⟨.inr ⟨by simpa using h4, by simpa using h3⟩, .inl h5'⟩])
                    go_quiet (fail)
                    go_wp2_with (fail)
                    first
                      | (go_roundw
                         case rel => exact ⟨t + 1, by omega, by go_num, by rw [HN2.out], Lib.hid (below_drewN HBV.out)⟩
                         case measure => simp only [intOf]; omega)
                      | (go_roundw
                         exact ⟨⟨t + 1, by omega, by go_num, by rw [HN2.out], Lib.hid (below_drewN HBV.out)⟩, by simp only [intOf]; omega⟩)
            · skip
              rcases h5 : decide (be < 0) with _ | _
              · rcases h6 : decide (lat < be) with _ | _
                · have h5' := of_decide_eq_false h5
                  have h6' := of_decide_eq_false h6
                  have HN2 := Lib.hid (show lnk (s.links.take (t + 1)) (y : Int) (z : Int) = be by rw [HU.out]; unfold upd; rw [if_neg (by rintro ⟨-, h | h⟩; exact h5' h; exact h6' h)])
                  go_quiet (fail)
                  go_wp2_with (fail)
                  first
                    | (go_roundw
                       case rel => exact ⟨t + 1, by omega, by go_num, by rw [HN2.out], Lib.hid (below_drewN HBV.out)⟩
                       case measure => simp only [intOf]; omega)
                    | (go_roundw
                       exact ⟨⟨t + 1, by omega, by go_num, by rw [HN2.out], Lib.hid (below_drewN HBV.out)⟩, by simp only [intOf]; omega⟩)
                · have h6' := of_decide_eq_true h6
                  have HN2 := Lib.hid (show lnk (s.links.take (t + 1)) (y : Int) (z : Int) = lat by rw [HU.out]; unfold upd; rw [if_pos ⟨.inl ⟨by simpa using h1, by simpa using h2⟩, .inr h6'⟩])
                  go_quiet (fail)
                  go_wp2_with (fail)
                  first
                    | (go_roundw
                       case rel => exact ⟨t + 1, by omega, by go_num, by rw [HN2.out], Lib.hid (below_drewN HBV.out)⟩
                       case measure => simp only [intOf]; omega)
                    | (go_roundw
                       exact ⟨⟨t + 1, by omega, by go_num, by rw [HN2.out], Lib.hid (below_drewN HBV.out)⟩, by simp only [intOf]; omega⟩)
              · have h5' := of_decide_eq_true h5
                have HN2 := Lib.hid (show lnk (s.links.take (t + 1)) (y : Int) (z : Int) = lat by rw [HU.out]; unfold upd; rw [if_pos ⟨.inl ⟨by simpa using h1, by simpa using h2⟩, .inl h5'⟩])
                go_quiet (fail)
                go_wp2_with (fail)
                first
                  | (go_roundw
                     case rel => exact ⟨t + 1, by omega, by go_num, by rw [HN2.out], Lib.hid (below_drewN HBV.out)⟩
                     case measure => simp only [intOf]; omega)
                  | (go_roundw
                     exact ⟨⟨t + 1, by omega, by go_num, by rw [HN2.out], Lib.hid (below_drewN HBV.out)⟩, by simp only [intOf]; omega⟩)
        · obtain rfl : t = s.links.length := by omega
          have HE := Lib.hid (show lnk (s.links.take s.links.length) (y : Int) (z : Int) = st by rw [List.take_length]; exact HST.out)
          rw [HE.out]
          have g1 : decide (st < 0) = false := decide_eq_false (by omega)
          have g2 : IntKind.i64.wrap (sm + st) = sm + st := wrap_in (by omega) (by omega)
          have HN3 := Lib.hid (show wlen (lkN s) ua (Wy.take (k + 1)) = sm + st by rw [HQ2.out, ← HST.out]; rfl)
          have hj2 := HJ.out
          go_wp2_with (fail)
          go_roundw
          case rel => exact ⟨k + 1, by omega, by go_num, by rw [HN3.out], hB⟩
          case measure => simp only [intOf]; omega
    · have hkn : k = nw := by omega
      have hsd : sm = d := by rw [← HSM.out, hkn, ← HNW.out, List.take_length, HLEN.out]
      have hjm : (m : Int) ≤ (j : Int) := by have := HMM.out; have := HJ.out; omega
      subst hsd
      have HKwr := Lib.hid (below_join HKv154.out hB.out HKv154.out.size)
      clear hkn
      go_wp2_with (fail)
      go_at_call 9
      refine (HLV.out wr).mono ?_
      rintro e v306 ⟨rfl, bb⟩
      have HKv306 := Lib.hid (below_join HKwr.out bb HKwr.out.size)
      clear bb
      go_wp2_with (fail)
      go_ret
      exact ⟨rfl, below_join HB.out HKv306.out hle⟩
end Go.Proofs.Ytacdpklgnibkeaa
