/-
  DERIVED. Stop of the specification (written by gen/world_FI.py).
-/
import Derived.Test.YtplncglgolhfaaaFH
import Derived.Test.YtplncglgolhfaaaFA
namespace Go.Proofs.Ytplncglgolhfaaa
open Go.RowKit
set_option maxRecDepth 100000
set_option linter.unusedVariables false
set_option linter.unusedSimpArgs false

/-- A box at g: a world whose replicas a walk is making. -/
def OutAt (g : Nat) (V wr : World) (hs : Value) (A : Option Addr) (c : Nat) (l : List Rep) : Prop :=
  Below g V wr ∧ wr.heap[g]? = some (.cells #[hs, .slice A l.length c] 36 (0, 0)) ∧ wr.ownsRow (g + 1) 41 2 (.slice A l.length c) l.length (cellsV 2 repV l)
theorem OutAt.drew {g : Nat} {V wr : World} {hs : Value} {A : Option Addr} {c : Nat} {l : List Rep} (h : OutAt g V wr hs A c l) : OutAt g V wr.drew hs A c l := ⟨h.1.drew, h.2.1, h.2.2⟩
theorem OutAt.drewN {g : Nat} {V wr : World} {hs : Value} {A : Option Addr} {c : Nat} {l : List Rep} (h : OutAt g V wr hs A c l) (n : Nat) : OutAt g V (wr.drewN n) hs A c l := ⟨below_drewN h.1, h.2.1, h.2.2⟩
theorem OutAt.push {g : Nat} {V wr Z : World} {hs : Value} {A : Option Addr} {c g4 cap : Nat} {l : List Rep} (h : OutAt g V wr hs A c l) (x : Rep)
    (hown : Z.ownsRow (g + 1) 41 2 (.slice (some ⟨g4, 0, none⟩) (l.length + 1) cap) (l.length + 1) (cellsV 2 repV l ++ [.int .i64 x.svc, .int .i64 x.host]))
    (hgrow : (wr.alloc (.cells #[.int .i64 x.svc, .int .i64 x.host] 41)).grownBy Z (Value.ownBlock (.slice A l.length c))) :
    OutAt g V (Z.setCell ⟨g, 1, none⟩ (.slice (some ⟨g4, 0, none⟩) (l.length + 1) cap)) hs (some ⟨g4, 0, none⟩) cap (l ++ [x]) := by
  have hlt := at_lt h.2.1
  have hZ : Below (g + 1) wr Z := ((Below.refl (g + 1) wr).alloc (by omega) _).grown hgrow (by simp; omega) (fun k hk => (ownsRow_lt h.2.2 hk).1)
  have e : (l ++ [x]).length = l.length + 1 := by simp
  have hZ' : Below g wr Z := hZ.mono (Nat.le_succ g)
  refine ⟨h.1.trans (hZ'.setCell (p := ⟨g, 1, none⟩) (Nat.le_refl _) _), ?_, ?_⟩
  · rw [e]
    exact set_field (o := 1) ((hZ.block g (by omega)).trans h.2.1) _
  · rw [e, cellsV_append]
    exact ownsRow_setCell_below hown (a := ⟨g, 1, none⟩) (by show g < g + 1; omega) _
theorem filter_take {l : List Rep} {k : Nat} {x z : Rep} (h : l[k]? = some z) : (l.take (k + 1)).filter (fun y => decide (y ≠ x)) = (l.take k).filter (fun y => decide (y ≠ x)) ++ if z = x then [] else [z] := by
  rw [List.take_add_one, h, List.filter_append]
  by_cases e : z = x <;> simp [e]
theorem filter_take_len (l : List Rep) (k : Nat) (x : Rep) : ((l.take k).filter (fun y => decide (y ≠ x))).length ≤ l.length :=
  Nat.le_trans (List.length_filter_le _ _) (by rw [List.length_take]; omega)
set_option maxHeartbeats 16000000 in
theorem c_wrStop (p : WP) (d : WorldD) (x : Rep) (hm : d.reps.length ≤ 1000) (hm2 : d.hosts.length ≤ 1000) (w : World) (h : WoAt w p d) :
    Calls Try.prog 30 #[.agg (woA p d), .agg #[.int .i64 x.svc, .int .i64 x.host]] w (ResW w (stopP d x)) := by
  unfold woA
  obtain ⟨W1, h1⟩ : ∃ W, W = w.alloc (.cells (woA p d) 36) := ⟨_, rfl⟩
  obtain ⟨W2, h2⟩ : ∃ W, W = W1.alloc (.cells #[.int .i64 x.svc, .int .i64 x.host] 41) := ⟨_, rfl⟩
  obtain ⟨W, h3⟩ : ∃ W, W = W2.alloc (.cells #[.slice none 0 0, .slice none 0 0] 36) := ⟨_, rfl⟩
  obtain ⟨B0, b1, b2, b3⟩ := three_boxes h1 h2 h3
  have HB := Lib.hid B0
  have hle := B0.size
  have HF := Lib.hid (fun (X : World) (hX : Below W.heap.size W X) => (⟨cell_of (box_on b1 hX (Nat.le_refl _)) rfl, cell_of (box_on b1 hX (Nat.le_refl _)) rfl, cell_of (box_on b2 hX (Nat.le_refl _)) rfl, cell_of (box_on b2 hX (Nat.le_refl _)) rfl, cell_of (box_on b3 hX (Nat.le_refl _)) rfl, cell_of (box_on b3 hX (Nat.le_refl _)) rfl, frz (box_on b3 hX (Nat.le_refl _)) 0, frz (box_on b3 hX (Nat.le_refl _)) 1⟩ : X.cell? ⟨w.heap.size, 0, none⟩ = some (.slice p.a1 d.hosts.length p.c1) ∧ X.cell? ⟨w.heap.size, 1, none⟩ = some (.slice p.a2 d.reps.length p.c2) ∧ X.cell? ⟨w.heap.size + 1, 0, none⟩ = some (.int .i64 x.svc) ∧ X.cell? ⟨w.heap.size + 1, 1, none⟩ = some (.int .i64 x.host) ∧ X.cell? ⟨w.heap.size + 1 + 1, 0, none⟩ = some (.slice none 0 0) ∧ X.cell? ⟨w.heap.size + 1 + 1, 1, none⟩ = some (.slice none 0 0) ∧ X.frozen? ⟨w.heap.size + 1 + 1, 0, none⟩ = false ∧ X.frozen? ⟨w.heap.size + 1 + 1, 1, none⟩ = false))
  have HV := Lib.hid (fun (X : World) (hX : Below W.heap.size W X) => box_on b3 hX (Nat.le_refl _))
  have H := Lib.hid (h.on B0 (Nat.le_refl _))
  have n1 := h.hosts.1; have n2 := h.hosts.2.1; have n3 := h.reps.1; have n4 := h.reps.2.1
  unfold maxLen at n2 n4
  have KW := Lib.hid (Below.refl W.heap.size W)
  obtain ⟨f0, f1, y0, y1, v0, v1, u0, u1⟩ := HF.out W KW.out
  clear h B0 b1 b2 b3
  unfold woA at h1
  rw [h3, h2, h1] at f0 f1 y0 y1 v0 v1 u0 u1
  have HZZ := Lib.hid (show ∀ (n : Int) (X : World), stopP d x = (zeroD, n) → Below W.heap.size W X → ResW w (stopP d x) (.returned (.tuple #[.agg #[.slice none 0 0, .slice none 0 0], .int .i64 n])) ((X.setCell ⟨w.heap.size + 1 + 1, 0, none⟩ (.slice none 0 0)).setCell ⟨w.heap.size + 1 + 1, 1, none⟩ (.slice none 0 0)) from fun n X hq hX => resW_zero hq (ends2 (below_join HB.out hX HB.out.size) (by omega) _ _))
  obtain ⟨R, hR⟩ : ∃ R, R = ResW w (stopP d x) := ⟨_, rfl⟩
  rw [← hR] at HZZ ⊢
  have HRR := Lib.hid hR
  clear hR
  obtain ⟨r1, hr1⟩ : ∃ b, ascB d.reps = b := ⟨_, rfl⟩
  have Q1 := Lib.hid hr1
  clear hr1
  generalize hA : w.heap.size = B at *
  go_enter Try.func30, Try.ntmps30
  go_wp2_with (fail)
  rw [← h1, ← h2, ← h3] at f0 f1 y0 y1 v0 v1 u0 u1 ⊢
  clear h1 h2 h3
  go_at_call 50
  refine (c_Ascending p.a2 p.c2 d.reps r1 Q1.out W H.out.reps).mono ?_
  rintro e w1 ⟨rfl, b1⟩
  have K1 := Lib.hid b1
  clear b1 f0 f1 y0 y1 v0 v1 u0 u1
  obtain ⟨f0, f1, y0, y1, v0, v1, u0, u1⟩ := HF.out w1 K1.out
  cases r1
  · go_wp2_with (fail)
    refine ret2t (i := 4) (b := B + 1 + 1) (j := 5) rfl rfl rfl rfl (row_store2 (HV.out w1 K1.out) _ _) ?_
    exact HZZ.out 1 w1 (by unfold stopP; rw [Q1.out]; rfl) K1.out
  go_wp2_with (fail)
  obtain ⟨r2, hr2⟩ : ∃ b, hasB d.reps x = b := ⟨_, rfl⟩
  have Q2 := Lib.hid hr2
  clear hr2
  go_at_call 22
  refine (show Calls Try.prog 22 #[.agg #[.slice p.a1 d.hosts.length p.c1, .slice p.a2 d.reps.length p.c2], .agg #[.int .i64 x.svc, .int .i64 x.host]] w1 _ from c_wrHas p d x r2 Q2.out w1 (H.out.on K1.out (Nat.le_refl _))).mono ?_
  rintro e w2 ⟨rfl, b2⟩
  have K2 := Lib.hid (below_join K1.out b2 K1.out.size)
  clear b2 f0 f1 y0 y1 v0 v1 u0 u1
  obtain ⟨f0, f1, y0, y1, v0, v1, u0, u1⟩ := HF.out w2 K2.out
  cases r2
  · go_wp2_with (fail)
    refine ret2t (i := 4) (b := B + 1 + 1) (j := 5) rfl rfl rfl rfl (row_store2 (HV.out w2 K2.out) _ _) ?_
    exact HZZ.out 7 w2 (by unfold stopP; rw [Q1.out, Q2.out]; rfl) K2.out
  go_wp2_with (fail)
  go_at_call 25
  refine (c_CopyTo p d hm hm2 w2 (H.out.on K2.out (Nat.le_refl _))).mono ?_
  rintro e w3 ⟨A1, c1, A2, c2, rfl, o3, b3⟩
  have K3 := Lib.hid (below_join K2.out b3 K2.out.size)
  have O3 := Lib.hid o3.1
  have HLT := Lib.hid (at_lt (HV.out w2 K2.out))
  have HW23 := Lib.hid b3.size
  have HWW2 := Lib.hid (show W.heap.size ≤ w2.heap.size from K2.out.size)
  clear b3 o3 f0 f1 y0 y1 v0 v1 u0 u1
  obtain ⟨f0, f1, y0, y1, v0, v1, u0, u1⟩ := HF.out w3 K3.out
  obtain ⟨ir, hir, hr0, hr1, hr2⟩ := info_parts rep_info
  obtain ⟨g, hg⟩ : ∃ g, w3.heap.size = g := ⟨_, rfl⟩
  have HGE := Lib.hid hg
  have HO0 := Lib.hid (show OutAt g w3 (w3.alloc (.cells #[.slice A1 d.hosts.length c1, .slice none 0 0] 36)) (.slice A1 d.hosts.length c1) none 0 ([] : List Rep) from ⟨by rw [← hg]; exact (Below.refl _ _).alloc (Nat.le_refl _) _, by rw [← hg]; exact box_new _ _ _, World.ownsRow_nil _ _ _ _⟩)
  go_wp2_with (fail)
  clear hg f0 f1 y0 y1 v0 v1 u0 u1
  go_loopw [7] (fun i wr => ∃ k : Nat, k ≤ d.reps.length ∧ i = .int .i64 (k : Int) ∧ ∃ A c, Hid (OutAt g w3 wr (.slice A1 d.hosts.length c1) A c ((d.reps.take k).filter (fun y => decide (y ≠ x))))) (fun i _ => d.reps.length - (intOf i).toNat)
  case atStart => exact ⟨0, Nat.zero_le _, rfl, _, _, HO0⟩
  case round =>
    obtain ⟨k, hk, rfl, A, c, hO⟩ := hrel
    have hki : ((k : Nat) : Int).toNat = k := by omega
    have hK := Lib.hid (below_join K3.out hO.out.1 (by rw [← HGE.out]; exact K3.out.size))
    obtain ⟨f0, f1, y0, y1, v0, v1, u0, u1⟩ := HF.out wr hK.out
    by_cases hlt : k < d.reps.length
    · obtain ⟨z, hz⟩ : ∃ z, d.reps[k]? = some z := ⟨_, List.getElem?_eq_getElem hlt⟩
      have HK := (H.out.on hK.out (Nat.le_refl _)).reps
      obtain ⟨b, oo, e0, -, -⟩ := HK.at_ hz
      rw [e0] at HK f1
      obtain ⟨z0, z1⟩ := rep_at HK hz
      have HZ := Lib.hid hz
      have hkl : (k : Int) < ((d.reps.length : Nat) : Int) := by omega
      have hln := filter_take_len d.reps k x
      have hft := Lib.hid (filter_take (x := x) hz)
      have HE0 := Lib.hid e0
      clear hz HK e0
      have g1 := guardRp
      have g2 := neqRp
      rcases hxz : ((z.svc == x.svc) && (z.host == x.host)) with _ | _
      · have hne : z ≠ x := by rintro rfl; simp at hxz
        have hO2 := Lib.hid (show (d.reps.take (k + 1)).filter (fun y => decide (y ≠ x)) = (d.reps.take k).filter (fun y => decide (y ≠ x)) ++ [z] by rw [hft.out, if_neg hne])
        obtain ⟨l, hl⟩ : ∃ l, (d.reps.take k).filter (fun y => decide (y ≠ x)) = l := ⟨_, rfl⟩
        rw [hl] at hO2 hO hln
        clear hl hne
        have m0 := cell_of hO.out.2.1 (o := 0) rfl
        have m1 := cell_of hO.out.2.1 (o := 1) rfl
        have q0 := frz hO.out.2.1 0
        have q1 := frz hO.out.2.1 1
        have hgl := at_lt hO.out.2.1
        go_wp2_with (fail)
        go_quiet (fail)
        go_wp2_with (fail)
        have hOD := Lib.hid (hO.out.drewN (nq + 1))
        have ma : ((wr.drewN (nq + 1)).alloc (.cells #[.int .i64 z.svc, .int .i64 z.host] 41)).cell? ⟨g, 1, none⟩ = some (.slice A l.length c) := cell_of (old_heap _ hOD.out.2.1) rfl
        clear f0 v0 v1 u0 u1 y0 y1
        go_region_law (refine step_append_lies _ rfl (.tmp 36) (.tmp 42) 34 rfl (g + 1) 41 ir (.agg #[.int .i64 0, .int .i64 0]) 2 16 Try.underlying34 hir hr0 hr1 hr2 rfl (by decide) (.slice A l.length c) l.length (cellsV 2 repV l) (by simp [Act.eval, Act.put]) (hOD.out.2.2.alloc _) ⟨wr.heap.size, 0, none⟩ 1 1 [.int .i64 z.svc, .int .i64 z.host] (by simp [Act.eval, Act.put]) rfl (World.news_of_block (heap_alloc_new _ _)) (by intro u hu; simp at hu; rcases hu with rfl | rfl <;> rfl) (by omega) (by unfold maxLen; omega) (by omega) (by (try simp) <;> omega) _ rfl ?_; intro g4 cap4 Z hown hgrow _ _; have HP := Lib.hid (hOD.out.push z hown hgrow); have k6 := (hgrow.block g (by (try simp) <;> omega) (fun e => by have := (ownsRow_lt hOD.out.2.2 e.symm).1; omega)).trans (old_heap _ hOD.out.2.1); have d0 := cell_of k6 (o := 1) rfl; have d1 := frz k6 1; clear hown hgrow k6)
        all_goals go_wp2_with (fail)
        all_goals (refine ⟨⟨k + 1, by omega, by go_num, some ⟨g4, 0, none⟩, cap4, Lib.hid ?_⟩, by simp only [intOf]; omega⟩; rw [hO2.out]; exact HP.out)
      · have hzx : z = x := by rw [rep_beq] at hxz; exact of_decide_eq_true hxz
        have hO2 := Lib.hid (show OutAt g w3 wr (.slice A1 d.hosts.length c1) A c ((d.reps.take (k + 1)).filter (fun y => decide (y ≠ x))) by rw [hft.out, if_pos hzx, List.append_nil]; exact hO.out)
        go_wp2_with (fail)
        go_quiet (fail)
        go_wp2_with (fail)
        go_roundw
        case rel => exact ⟨k + 1, by omega, by go_num, A, c, Lib.hid (hO2.out.drewN _)⟩
        case measure => simp only [intOf]; omega
    · obtain rfl : k = d.reps.length := by omega
      have hO2 := Lib.hid (show OutAt g w3 wr (.slice A1 d.hosts.length c1) A c (stopL d.reps x) by
        have := hO.out
        rwa [List.take_length, stopL_filter (asc_iff.1 Q1.out) (of_decide_eq_true (show decide (x ∈ d.reps) = true from Q2.out))] at this)
      have m0 := cell_of hO2.out.2.1 (o := 0) rfl
      have m1 := cell_of hO2.out.2.1 (o := 1) rfl
      go_wp2_with (fail)
      refine ret2t (i := 4) (b := B + 1 + 1) (j := 5) rfl rfl rfl rfl (row_store2 (HV.out wr hK.out) _ _) ?_
      rw [HRR.out]
      have hq : stopP d x = (⟨d.hosts, stopL d.reps x⟩, 0) := by unfold stopP; rw [Q1.out, Q2.out, if_pos (by rfl), if_pos (by rfl)]
      rw [hq]
      have e1 := HLT.out
      have e2 := HW23.out
      have e3 := HWW2.out
      have e5 := HGE.out
      have e6 : World.ownsRow wr w2.heap.size 51 2 (.slice A1 d.hosts.length c1) d.hosts.length (cellsV 2 hstV d.hosts) := own_on O3.out hO2.out.1 (by omega)
      refine ⟨⟨A1, c1, A, c⟩, rfl, ⟨?_, ?_⟩, ?_⟩
      · exact own_mono (ownsRow_setCell_below (ownsRow_setCell_below e6 (a := ⟨B + 1 + 1, 0, none⟩) (by show B + 1 + 1 < _; omega) _) (a := ⟨B + 1 + 1, 1, none⟩) (by show B + 1 + 1 < _; omega) _) (by omega)
      · exact own_mono (ownsRow_setCell_below (ownsRow_setCell_below hO2.out.2.2 (a := ⟨B + 1 + 1, 0, none⟩) (by show B + 1 + 1 < _; omega) _) (a := ⟨B + 1 + 1, 1, none⟩) (by show B + 1 + 1 < _; omega) _) (by omega)
      · rw [hA]; exact ends2 (below_join HB.out hK.out hle) (by omega) _ _
end Go.Proofs.Ytplncglgolhfaaa
