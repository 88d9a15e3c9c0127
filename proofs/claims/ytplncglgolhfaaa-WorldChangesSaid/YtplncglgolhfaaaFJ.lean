/-
  DERIVED. Start of the specification (written by gen/world_FJ.py).
-/
import Derived.Test.YtplncglgolhfaaaFI
namespace Go.Proofs.Ytplncglgolhfaaa
open Go.RowKit
set_option maxRecDepth 100000
set_option linter.unusedVariables false
set_option linter.unusedSimpArgs false

theorem OutAt.on {g : Nat} {V wr X : World} {hs : Value} {A : Option Addr} {c : Nat} {l : List Rep} (h : OutAt g V wr hs A c l) (hb : Below wr.heap.size wr X) : OutAt g V X hs A c l :=
  ⟨below_join h.1 hb (by have := at_lt h.2.1; omega), box_on h.2.1 hb (Nat.le_refl _), own_on h.2.2 hb (Nat.le_refl _)⟩
theorem OutAt.eq {g : Nat} {V wr : World} {hs : Value} {A : Option Addr} {c : Nat} {l m : List Rep} (h : OutAt g V wr hs A c l) (e : l = m) : OutAt g V wr hs A c m := e ▸ h
theorem mid_take {l : List Rep} {P t : Nat} {x z : Rep} (h : l[P + t]? = some z) : l.take P ++ x :: (l.drop P).take (t + 1) = (l.take P ++ x :: (l.drop P).take t) ++ [z] := by
  rw [List.take_add_one, List.getElem?_drop, h]; simp
set_option maxHeartbeats 16000000 in
theorem c_wrStart (p : WP) (d : WorldD) (x : Rep) (hm : d.reps.length ≤ 1000) (hm2 : d.hosts.length ≤ 1000) (w : World) (h : WoAt w p d) :
    Calls Try.prog 27 #[.agg (woA p d), .agg #[.int .i64 x.svc, .int .i64 x.host]] w (ResW w (startP d x)) := by
  unfold woA
  obtain ⟨W1, h1⟩ : ∃ W, W = w.alloc (.cells (woA p d) 36) := ⟨_, rfl⟩
  obtain ⟨W2, h2⟩ : ∃ W, W = W1.alloc (.cells #[.int .i64 x.svc, .int .i64 x.host] 41) := ⟨_, rfl⟩
  obtain ⟨W, h3⟩ : ∃ W, W = W2.alloc (.cells #[.slice none 0 0, .slice none 0 0] 36) := ⟨_, rfl⟩
  obtain ⟨B0, b1, b2, b3⟩ := three_boxes h1 h2 h3
  have HB := Lib.hid B0
  have hle := B0.size
  have HF := Lib.hid (fun (X : World) (hX : Below W.heap.size W X) => (⟨cell_of (box_on b1 hX (Nat.le_refl _)) rfl, cell_of (box_on b1 hX (Nat.le_refl _)) rfl, cell_of (box_on b2 hX (Nat.le_refl _)) rfl, cell_of (box_on b2 hX (Nat.le_refl _)) rfl, cell_of (box_on b3 hX (Nat.le_refl _)) rfl, cell_of (box_on b3 hX (Nat.le_refl _)) rfl, frz (box_on b3 hX (Nat.le_refl _)) 0, frz (box_on b3 hX (Nat.le_refl _)) 1⟩ : X.cell? ⟨w.heap.size, 0, none⟩ = some (.slice p.a1 d.hosts.length p.c1) ∧ X.cell? ⟨w.heap.size, 1, none⟩ = some (.slice p.a2 d.reps.length p.c2) ∧ X.cell? ⟨w.heap.size + 1, 0, none⟩ = some (.int .i64 x.svc) ∧ X.cell? ⟨w.heap.size + 1, 1, none⟩ = some (.int .i64 x.host) ∧ X.cell? ⟨w.heap.size + 1 + 1, 0, none⟩ = some (.slice none 0 0) ∧ X.cell? ⟨w.heap.size + 1 + 1, 1, none⟩ = some (.slice none 0 0) ∧ X.frozen? ⟨w.heap.size + 1 + 1, 0, none⟩ = false ∧ X.frozen? ⟨w.heap.size + 1 + 1, 1, none⟩ = false))
  have HV := Lib.hid (fun (X : World) (hX : Below W.heap.size W X) => box_on b3 hX (Nat.le_refl _))
  have H := Lib.hid (h.on B0 (Nat.le_refl _))
  have n1 := h.hosts.1; have n2 := h.hosts.2.1; have n3 := h.reps.1; have n4 := h.reps.2.1
  unfold maxLen at n2 n4
  have KW := Lib.hid (Below.refl W.heap.size W)
  obtain ⟨f0, f1, y0, y1, v0, v1, u0, u1⟩ := HF.out W KW.out
  clear h B0 b1 b2 b3
  unfold woA at h1
  rw [h3, h2, h1] at f0 f1 y0 y1 v0 v1 u0 u1
  have HZZ := Lib.hid (show ∀ (n : Int) (X : World), startP d x = (zeroD, n) → Below W.heap.size W X → ResW w (startP d x) (.returned (.tuple #[.agg #[.slice none 0 0, .slice none 0 0], .int .i64 n])) ((X.setCell ⟨w.heap.size + 1 + 1, 0, none⟩ (.slice none 0 0)).setCell ⟨w.heap.size + 1 + 1, 1, none⟩ (.slice none 0 0)) from fun n X hq hX => resW_zero hq (ends2 (below_join HB.out hX HB.out.size) (by omega) _ _))
  obtain ⟨R, hR⟩ : ∃ R, R = ResW w (startP d x) := ⟨_, rfl⟩
  rw [← hR] at HZZ ⊢
  have HRR := Lib.hid hR
  clear hR
  obtain ⟨r1, hr1⟩ : ∃ b, ascB d.reps = b := ⟨_, rfl⟩
  have Q1 := Lib.hid hr1
  clear hr1
  generalize hA : w.heap.size = B at *
  go_enter Try.func27, Try.ntmps27
  go_wp2_with (fail)
  rw [← h1, ← h2, ← h3] at f0 f1 y0 y1 v0 v1 u0 u1 ⊢
  clear h1 h2 h3
  go_at_call 50
  refine (c_Ascending p.a2 p.c2 d.reps r1 Q1.out W H.out.reps).mono ?_
  rintro e w1 ⟨rfl, b1⟩
  have K1 := Lib.hid b1
  clear b1 f0 f1 y0 y1 v0 v1 u0 u1
  obtain ⟨f0, f1, y0, y1, v0, v1, u0, u1⟩ := HF.out w1 K1.out
  cases r1
  · go_wp2_with (fail)
    refine ret2t (i := 4) (b := B + 1 + 1) (j := 5) rfl rfl rfl rfl (row_store2 (HV.out w1 K1.out) _ _) ?_
    exact HZZ.out 1 w1 (by unfold startP; rw [Q1.out]; rfl) K1.out
  rcases hs : decide (x.svc < 0) with _ | _
  rotate_left
  · have HS := Lib.hid hs
    go_wp2_with (fail)
    refine ret2t (i := 4) (b := B + 1 + 1) (j := 5) rfl rfl rfl rfl (row_store2 (HV.out w1 K1.out) _ _) ?_
    exact HZZ.out 1 w1 (by unfold startP; rw [HS.out, Q1.out]; rfl) K1.out
  rcases ht : decide (x.host < 0) with _ | _
  rotate_left
  · have HT := Lib.hid ht
    go_wp2_with (fail)
    refine ret2t (i := 4) (b := B + 1 + 1) (j := 5) rfl rfl rfl rfl (row_store2 (HV.out w1 K1.out) _ _) ?_
    exact HZZ.out 1 w1 (by unfold startP; rw [HT.out]; simp) K1.out
  have HS := Lib.hid hs
  have HT := Lib.hid ht
  go_wp2_with (fail)
  clear hs ht
  obtain ⟨r2, hr2⟩ : ∃ b, hasB d.reps x = b := ⟨_, rfl⟩
  have Q2 := Lib.hid hr2
  clear hr2
  go_at_call 22
  refine (show Calls Try.prog 22 #[.agg #[.slice p.a1 d.hosts.length p.c1, .slice p.a2 d.reps.length p.c2], .agg #[.int .i64 x.svc, .int .i64 x.host]] w1 _ from c_wrHas p d x r2 Q2.out w1 (H.out.on K1.out (Nat.le_refl _))).mono ?_
  rintro e w2 ⟨rfl, b2⟩
  have K2 := Lib.hid (below_join K1.out b2 K1.out.size)
  clear b2 f0 f1 y0 y1 v0 v1 u0 u1
  obtain ⟨f0, f1, y0, y1, v0, v1, u0, u1⟩ := HF.out w2 K2.out
  cases r2
  rotate_left
  · go_wp2_with (fail)
    refine ret2t (i := 4) (b := B + 1 + 1) (j := 5) rfl rfl rfl rfl (row_store2 (HV.out w2 K2.out) _ _) ?_
    exact HZZ.out 6 w2 (by unfold startP; rw [Q1.out, Q2.out, HS.out, HT.out]; rfl) K2.out
  by_cases hl : 24 ≤ d.reps.length
  · have hd : decide ((24 : Int) ≤ (d.reps.length : Int)) = true := decide_eq_true (by omega)
    have HL := Lib.hid hl
    clear hl
    go_wp2_with (fail)
    refine ret2t (i := 4) (b := B + 1 + 1) (j := 5) rfl rfl rfl rfl (row_store2 (HV.out w2 K2.out) _ _) ?_
    exact HZZ.out 9 w2 (by unfold startP; rw [Q1.out, Q2.out, HS.out, HT.out, if_pos (by rfl), if_neg (by simp), if_pos HL.out]) K2.out
  have hd : decide ((24 : Int) ≤ (d.reps.length : Int)) = false := decide_eq_false (by omega)
  have HL := Lib.hid hl
  clear hl
  go_wp2_with (fail)
  go_at_call 25
  refine (c_CopyTo p d hm hm2 w2 (H.out.on K2.out (Nat.le_refl _))).mono ?_
  rintro e w3 ⟨A1, c1, A2, c2, rfl, o3, b3⟩
  have K3 := Lib.hid (below_join K2.out b3 K2.out.size)
  have O3 := Lib.hid o3.1
  have HLT := Lib.hid (at_lt (HV.out w2 K2.out))
  have HW23 := Lib.hid b3.size
  have HWW2 := Lib.hid (show W.heap.size ≤ w2.heap.size from K2.out.size)
  clear b3 o3 f0 f1 y0 y1 v0 v1 u0 u1 hd
  obtain ⟨f0, f1, y0, y1, v0, v1, u0, u1⟩ := HF.out w3 K3.out
  obtain ⟨ir, hir, hr0, hr1, hr2⟩ := info_parts rep_info
  obtain ⟨g, hg⟩ : ∃ g, w3.heap.size = g := ⟨_, rfl⟩
  have HGE := Lib.hid hg
  have HO0 := Lib.hid (show OutAt g w3 (w3.alloc (.cells #[.slice A1 d.hosts.length c1, .slice none 0 0] 36)) (.slice A1 d.hosts.length c1) none 0 ([] : List Rep) from ⟨by rw [← hg]; exact (Below.refl _ _).alloc (Nat.le_refl _) _, by rw [← hg]; exact box_new _ _ _, World.ownsRow_nil _ _ _ _⟩)
  go_wp2_with (fail)
  clear hg f0 f1 y0 y1 v0 v1 u0 u1
  obtain ⟨P, hPD⟩ : ∃ P, plc d.reps x = P := ⟨_, rfl⟩
  have hPl : P ≤ d.reps.length := by rw [← hPD]; exact plc_le _ _
  have HPD := Lib.hid hPD
  have HPB := Lib.hid (show ∀ (k : Nat) (z : Rep), d.reps[k]? = some z → k ≤ P → lessR z x = decide (k < P) from fun k z hz hk => by
    by_cases h : k < P
    · rw [decide_eq_true h]; exact plc_below (by rw [hPD]; exact h) hz
    · rw [decide_eq_false h]; exact plc_above (asc_iff.1 Q1.out) (by rw [hPD]; omega) hz)
  clear hPD
  go_loopw [7] (fun i wr => ∃ k : Nat, k ≤ P ∧ i = .int .i64 (k : Int) ∧ ∃ A c, Hid (OutAt g w3 wr (.slice A1 d.hosts.length c1) A c (d.reps.take k))) (fun i _ => d.reps.length - (intOf i).toNat)
  case atStart => exact ⟨0, Nat.zero_le _, rfl, _, _, HO0⟩
  case round =>
    obtain ⟨k, hk, rfl, A, c, hO⟩ := hrel
    have hki : ((k : Nat) : Int).toNat = k := by omega
    have hK := Lib.hid (below_join K3.out hO.out.1 (by rw [← HGE.out]; exact K3.out.size))
    obtain ⟨f0, f1, y0, y1, v0, v1, u0, u1⟩ := HF.out wr hK.out
    by_cases hlt : k < d.reps.length
    · obtain ⟨z, hz⟩ : ∃ z, d.reps[k]? = some z := ⟨_, List.getElem?_eq_getElem hlt⟩
      have HK := (H.out.on hK.out (Nat.le_refl _)).reps
      obtain ⟨b, oo, e0, -, -⟩ := HK.at_ hz
      have HRP := Lib.hid (fun (X : World) (hX : Below W.heap.size W X) => (⟨by have := (HF.out X hX).2.1; rwa [e0] at this, (rep_at (by have := (H.out.on hX (Nat.le_refl _)).reps; rwa [e0] at this) hz).1, (rep_at (by have := (H.out.on hX (Nat.le_refl _)).reps; rwa [e0] at this) hz).2, (HF.out X hX).2.2.1, (HF.out X hX).2.2.2.1⟩ : X.cell? ⟨B, 1, none⟩ = some (.slice (some ⟨b, oo, none⟩) d.reps.length p.c2) ∧ X.cell? ⟨b, oo + k * 2, none⟩ = some (.int .i64 z.svc) ∧ X.cell? ⟨b, oo + k * 2 + 1, none⟩ = some (.int .i64 z.host) ∧ X.cell? ⟨B + 1, 0, none⟩ = some (.int .i64 x.svc) ∧ X.cell? ⟨B + 1, 1, none⟩ = some (.int .i64 x.host)))
      have hkl : (k : Int) < ((d.reps.length : Nat) : Int) := by omega
      have hO2 := Lib.hid (show d.reps.take (k + 1) = d.reps.take k ++ [z] by rw [List.take_add_one, hz]; rfl)
      obtain ⟨rr, hrr⟩ : ∃ b, lessR z x = b := ⟨_, rfl⟩
      have HRD := Lib.hid (show rr = decide (k < P) by rw [← hrr]; exact HPB.out k z hz hk)
      have HRE := Lib.hid hrr
      clear hz HK e0 hrr f0 f1 y0 y1 v0 v1 u0 u1
      obtain ⟨f1, z0, z1, y0, y1⟩ := HRP.out wr hK.out
      go_wp2_with (fail)
      go_region_held3 (fun X => X.cell? ⟨B, 1, none⟩ = some (.slice (some ⟨b, oo, none⟩) d.reps.length p.c2) ∧ X.cell? ⟨b, oo + k * 2, none⟩ = some (.int .i64 z.svc) ∧ X.cell? ⟨b, oo + k * 2 + 1, none⟩ = some (.int .i64 z.host) ∧ X.cell? ⟨B + 1, 0, none⟩ = some (.int .i64 x.svc) ∧ X.cell? ⟨B + 1, 1, none⟩ = some (.int .i64 x.host))
        (first | exact HRP.out w4 HK4.out | exact HRP.out wr hK.out | fail)
        (first
          | (go_at_call 55; (with_reducible refine (c_Less z x rr HRE.out wr.drew).mono ?_); rintro e w4 ⟨rfl, bb0⟩; have bb := below_join (Below.refl wr.heap.size wr).drew bb0 (Nat.le_refl _); have HK4 := Lib.hid (below_join hK.out bb hK.out.size); have HO4 := Lib.hid (hO.out.on bb); clear bb bb0)
          | fail)
      clear f1 z0 z1 y0 y1
      cases rr
      · obtain rfl : P = k := by have := of_decide_eq_false HRD.out.symm; omega
        have hds : (World.drew wr).heap.size = wr.heap.size := rfl
        have hll : (d.reps.take P).length = P := by rw [List.length_take]; omega
        have HO1 := Lib.hid (show OutAt g w3 w4 (.slice A1 d.hosts.length c1) A c (d.reps.take P) from HO4.out)
        have HKK := Lib.hid (show Below W.heap.size W w4 from HK4.out)
        obtain ⟨lp, hlp⟩ : ∃ lp, lp = d.reps.take P := ⟨_, rfl⟩
        rw [← hlp] at HO1 hll
        have HLP := Lib.hid hlp
        have m0 := cell_of HO1.out.2.1 (o := 0) rfl
        have m1 := cell_of HO1.out.2.1 (o := 1) rfl
        rw [hll] at m1
        have q1 := frz HO1.out.2.1 1
        have hgl := at_lt HO1.out.2.1
        have HWS := Lib.hid hgl
        obtain ⟨f0, f1, y0, y1, v0, v1, u0, u1⟩ := HF.out w4 HKK.out
        clear hlp f0 f1 v0 v1 u0 u1
        go_wp2_with (at_builtin; refine wpList_append_lies _ rfl _ _ 34 rfl (g + 1) 41 ir (.agg #[.int .i64 0, .int .i64 0]) 2 16 Try.underlying34 hir hr0 hr1 hr2 rfl (by decide) (.slice A P c) P (cellsV 2 repV lp) rfl (by have := HO1.out.2.2; rw [hll] at this; exact this.alloc _) ⟨World.heap w4 |>.size, 0, none⟩ 1 1 [.int .i64 x.svc, .int .i64 x.host] rfl rfl (World.news_of_block (heap_alloc_new _ _)) (by intro u hu; simp at hu; rcases hu with rfl | rfl <;> rfl) (by decide) (by unfold maxLen; omega) (by omega) (by (try simp) <;> omega) _ rfl ?_; intro g5 cap5 Z5 hown hgrow _ _; have HP5 := Lib.hid (HO1.out.push x (by rw [hll]; exact hown) (by rw [hll]; exact hgrow)); have k6 := (hgrow.block g (by (try simp) <;> omega) (fun e => by have := (ownsRow_lt HO1.out.2.2 (by rw [hll]; exact e.symm)).1; omega)).trans (old_heap _ HO1.out.2.1); have d0 := cell_of k6 (o := 1) rfl; have d1 := frz k6 1; clear hown hgrow k6 m0 m1 q1 y0 y1)
        go_loopw [9] (fun j wr => ∃ t : Nat, P + t ≤ d.reps.length ∧ j = .int .i64 ((P + t : Nat) : Int) ∧ ∃ A c, Hid (OutAt g w3 wr (.slice A1 d.hosts.length c1) A c (d.reps.take P ++ x :: (d.reps.drop P).take t))) (fun j _ => d.reps.length - (intOf j).toNat)
        case atStart => exact ⟨0, by omega, rfl, _, _, Lib.hid (OutAt.eq (by have := HP5.out; rw [hll] at this; exact this) (by rw [HLP.out]; simp))⟩
        case round =>
          obtain ⟨t, ht, rfl, A, c, hO⟩ := hrel
          obtain ⟨k, hkt⟩ : ∃ k, P + t = k := ⟨_, rfl⟩
          have HKT := Lib.hid hkt
          rw [hkt] at ht ⊢
          clear hkt
          have hki : ((k : Nat) : Int).toNat = k := by omega
          have hK := Lib.hid (below_join K3.out hO.out.1 (by rw [← HGE.out]; exact K3.out.size))
          obtain ⟨f0, f1, y0, y1, v0, v1, u0, u1⟩ := HF.out wr hK.out
          by_cases hlt : k < d.reps.length
          · obtain ⟨z, hz⟩ : ∃ z, d.reps[k]? = some z := ⟨_, List.getElem?_eq_getElem hlt⟩
            have HK := (H.out.on hK.out (Nat.le_refl _)).reps
            obtain ⟨b, oo, e0, -, -⟩ := HK.at_ hz
            rw [e0] at HK f1
            obtain ⟨z0, z1⟩ := rep_at HK hz
            have hkl : (k : Int) < ((d.reps.length : Nat) : Int) := by omega
            have hO2 := Lib.hid (mid_take (x := x) (P := P) (t := t) (z := z) (by rw [HKT.out]; exact hz))
            obtain ⟨l, hl⟩ : ∃ l, d.reps.take P ++ x :: (d.reps.drop P).take t = l := ⟨_, rfl⟩
            have hln : l.length ≤ 2000 := by rw [← hl]; simp; omega
            rw [hl] at hO2 hO
            clear hl hz HK e0
            have m0 := cell_of hO.out.2.1 (o := 0) rfl
            have m1 := cell_of hO.out.2.1 (o := 1) rfl
            have q1 := frz hO.out.2.1 1
            have hgl := at_lt hO.out.2.1
            have hOD := Lib.hid (hO.out.drew)
            have ma : (World.drew wr |>.alloc (.cells #[.int .i64 z.svc, .int .i64 z.host] 41)).cell? ⟨g, 1, none⟩ = some (.slice A l.length c) := cell_of (old_heap _ hOD.out.2.1) rfl
            clear f0 v0 v1 u0 u1 y0 y1
            go_wp2_with (fail)
            go_region_law (refine step_append_lies _ rfl (.tmp 81) (.tmp 87) 34 rfl (g + 1) 41 ir (.agg #[.int .i64 0, .int .i64 0]) 2 16 Try.underlying34 hir hr0 hr1 hr2 rfl (by decide) (.slice A l.length c) l.length (cellsV 2 repV l) (by simp [Act.eval, Act.put]) (hOD.out.2.2.alloc _) ⟨wr.heap.size, 0, none⟩ 1 1 [.int .i64 z.svc, .int .i64 z.host] (by simp [Act.eval, Act.put]) rfl (World.news_of_block (heap_alloc_new _ _)) (by intro u hu; simp at hu; rcases hu with rfl | rfl <;> rfl) (by omega) (by unfold maxLen; omega) (by omega) (by (try simp) <;> omega) _ rfl ?_; intro g4 cap4 Z hown hgrow _ _; have HP := Lib.hid (hOD.out.push z hown hgrow); have k6 := (hgrow.block g (by (try simp) <;> omega) (fun e => by have := (ownsRow_lt hOD.out.2.2 e.symm).1; omega)).trans (old_heap _ hOD.out.2.1); have d0 := cell_of k6 (o := 1) rfl; have d1 := frz k6 1; clear hown hgrow k6)
            all_goals go_wp2_with (fail)
            all_goals (refine ⟨⟨t + 1, by have := HKT.out; omega, by have := HKT.out; go_num, some ⟨g4, 0, none⟩, cap4, Lib.hid ?_⟩, by simp only [intOf]; omega⟩; rw [hO2.out]; exact HP.out)
          · obtain rfl : k = d.reps.length := by omega
            have hO2 := Lib.hid (show OutAt g w3 wr (.slice A1 d.hosts.length c1) A c (startL d.reps x) by
              have h1 := hO.out
              have h2 := HKT.out
              refine OutAt.eq h1 ?_
              unfold startL
              rw [HPD.out, List.take_of_length_le (i := t) (by rw [List.length_drop]; omega)])
            have m0 := cell_of hO2.out.2.1 (o := 0) rfl
            have m1 := cell_of hO2.out.2.1 (o := 1) rfl
            go_wp2_with (fail)
            refine ret2t (i := 4) (b := B + 1 + 1) (j := 5) rfl rfl rfl rfl (row_store2 (HV.out wr hK.out) _ _) ?_
            rw [HRR.out]
            have hq : startP d x = (⟨d.hosts, startL d.reps x⟩, 0) := by unfold startP; rw [Q1.out, Q2.out, HS.out, HT.out, if_pos (by rfl), if_neg (by simp), if_neg HL.out]
            rw [hq]
            have e1 := HLT.out
            have e2 := HW23.out
            have e3 := HWW2.out
            have e5 := HGE.out
            have e6 : World.ownsRow wr w2.heap.size 51 2 (.slice A1 d.hosts.length c1) d.hosts.length (cellsV 2 hstV d.hosts) := own_on O3.out hO2.out.1 (by omega)
            refine ⟨⟨A1, c1, A, c⟩, rfl, ⟨?_, ?_⟩, ?_⟩
            · exact own_mono (ownsRow_setCell_below (ownsRow_setCell_below e6 (a := ⟨B + 1 + 1, 0, none⟩) (by show B + 1 + 1 < _; omega) _) (a := ⟨B + 1 + 1, 1, none⟩) (by show B + 1 + 1 < _; omega) _) (by omega)
            · exact own_mono (ownsRow_setCell_below (ownsRow_setCell_below hO2.out.2.2 (a := ⟨B + 1 + 1, 0, none⟩) (by show B + 1 + 1 < _; omega) _) (a := ⟨B + 1 + 1, 1, none⟩) (by show B + 1 + 1 < _; omega) _) (by omega)
            · rw [hA]; exact ends2 (below_join HB.out hK.out hle) (by omega) _ _
      · have hkP : k < P := of_decide_eq_true HRD.out.symm
        obtain ⟨l, hl⟩ : ∃ l, d.reps.take k = l := ⟨_, rfl⟩
        have hln : l.length ≤ 2000 := by rw [← hl, List.length_take]; omega
        rw [hl] at hO2 HO4
        clear hl
        obtain ⟨f1, z0, z1, y0, y1⟩ := HRP.out w4 HK4.out
        have m0 := cell_of HO4.out.2.1 (o := 0) rfl
        have m1 := cell_of HO4.out.2.1 (o := 1) rfl
        have q1 := frz HO4.out.2.1 1
        have hgl := at_lt HO4.out.2.1
        have hOD := Lib.hid (HO4.out.drew)
        have ma : (World.drew w4 |>.alloc (.cells #[.int .i64 z.svc, .int .i64 z.host] 41)).cell? ⟨g, 1, none⟩ = some (.slice A l.length c) := cell_of (old_heap _ hOD.out.2.1) rfl
        clear y0 y1
        go_wp2_with (fail)
        go_region_law (refine step_append_lies _ rfl (.tmp 54) (.tmp 60) 34 rfl (g + 1) 41 ir (.agg #[.int .i64 0, .int .i64 0]) 2 16 Try.underlying34 hir hr0 hr1 hr2 rfl (by decide) (.slice A l.length c) l.length (cellsV 2 repV l) (by simp [Act.eval, Act.put]) (hOD.out.2.2.alloc _) ⟨w4.heap.size, 0, none⟩ 1 1 [.int .i64 z.svc, .int .i64 z.host] (by simp [Act.eval, Act.put]) rfl (World.news_of_block (heap_alloc_new _ _)) (by intro u hu; simp at hu; rcases hu with rfl | rfl <;> rfl) (by omega) (by unfold maxLen; omega) (by omega) (by (try simp) <;> omega) _ rfl ?_; intro g4 cap4 Z hown hgrow _ _; have HP := Lib.hid (hOD.out.push z hown hgrow); have k6 := (hgrow.block g (by (try simp) <;> omega) (fun e => by have := (ownsRow_lt hOD.out.2.2 e.symm).1; omega)).trans (old_heap _ hOD.out.2.1); have d0 := cell_of k6 (o := 1) rfl; have d1 := frz k6 1; clear hown hgrow k6)
        all_goals go_wp2_with (fail)
        all_goals (refine ⟨⟨k + 1, by omega, by go_num, some ⟨g4, 0, none⟩, cap4, Lib.hid ?_⟩, by simp only [intOf]; omega⟩; rw [hO2.out]; exact HP.out)
    · obtain rfl : P = k := by omega
      have hkl : decide ((P : Int) < ((d.reps.length : Nat) : Int)) = false := decide_eq_false (by omega)
      clear f0 y0 y1 v0 v1 u0 u1
      go_wp2_with (fail)
      go_region
      have hds : (World.drew wr).heap.size = wr.heap.size := rfl
      have hll : (d.reps.take P).length = P := by rw [List.length_take]; omega
      have HO1 := Lib.hid (show OutAt g w3 (World.drew wr) (.slice A1 d.hosts.length c1) A c (d.reps.take P) from hO.out.drew)
      have HKK := Lib.hid (show Below W.heap.size W (World.drew wr) from hK.out.drew)
      obtain ⟨lp, hlp⟩ : ∃ lp, lp = d.reps.take P := ⟨_, rfl⟩
      rw [← hlp] at HO1 hll
      have HLP := Lib.hid hlp
      have m0 := cell_of HO1.out.2.1 (o := 0) rfl
      have m1 := cell_of HO1.out.2.1 (o := 1) rfl
      rw [hll] at m1
      have q1 := frz HO1.out.2.1 1
      have hgl := at_lt HO1.out.2.1
      have HWS := Lib.hid hgl
      obtain ⟨f0, f1, y0, y1, v0, v1, u0, u1⟩ := HF.out (World.drew wr) HKK.out
      clear hlp f0 f1 v0 v1 u0 u1
      go_wp2_with (at_builtin; refine wpList_append_lies _ rfl _ _ 34 rfl (g + 1) 41 ir (.agg #[.int .i64 0, .int .i64 0]) 2 16 Try.underlying34 hir hr0 hr1 hr2 rfl (by decide) (.slice A P c) P (cellsV 2 repV lp) rfl (by have := HO1.out.2.2; rw [hll] at this; exact this.alloc _) ⟨World.heap (World.drew wr) |>.size, 0, none⟩ 1 1 [.int .i64 x.svc, .int .i64 x.host] rfl rfl (World.news_of_block (heap_alloc_new _ _)) (by intro u hu; simp at hu; rcases hu with rfl | rfl <;> rfl) (by decide) (by unfold maxLen; omega) (by omega) (by (try simp) <;> omega) _ rfl ?_; intro g5 cap5 Z5 hown hgrow _ _; have HP5 := Lib.hid (HO1.out.push x (by rw [hll]; exact hown) (by rw [hll]; exact hgrow)); have k6 := (hgrow.block g (by (try simp) <;> omega) (fun e => by have := (ownsRow_lt HO1.out.2.2 (by rw [hll]; exact e.symm)).1; omega)).trans (old_heap _ HO1.out.2.1); have d0 := cell_of k6 (o := 1) rfl; have d1 := frz k6 1; clear hown hgrow k6 m0 m1 q1 y0 y1)
      go_loopw [9] (fun j wr => ∃ t : Nat, P + t ≤ d.reps.length ∧ j = .int .i64 ((P + t : Nat) : Int) ∧ ∃ A c, Hid (OutAt g w3 wr (.slice A1 d.hosts.length c1) A c (d.reps.take P ++ x :: (d.reps.drop P).take t))) (fun j _ => d.reps.length - (intOf j).toNat)
      case atStart => exact ⟨0, by omega, rfl, _, _, Lib.hid (OutAt.eq (by have := HP5.out; rw [hll] at this; exact this) (by rw [HLP.out]; simp))⟩
      case round =>
        obtain ⟨t, ht, rfl, A, c, hO⟩ := hrel
        obtain ⟨k, hkt⟩ : ∃ k, P + t = k := ⟨_, rfl⟩
        have HKT := Lib.hid hkt
        rw [hkt] at ht ⊢
        clear hkt
        have hki : ((k : Nat) : Int).toNat = k := by omega
        have hK := Lib.hid (below_join K3.out hO.out.1 (by rw [← HGE.out]; exact K3.out.size))
        obtain ⟨f0, f1, y0, y1, v0, v1, u0, u1⟩ := HF.out wr hK.out
        by_cases hlt : k < d.reps.length
        · obtain ⟨z, hz⟩ : ∃ z, d.reps[k]? = some z := ⟨_, List.getElem?_eq_getElem hlt⟩
          have HK := (H.out.on hK.out (Nat.le_refl _)).reps
          obtain ⟨b, oo, e0, -, -⟩ := HK.at_ hz
          rw [e0] at HK f1
          obtain ⟨z0, z1⟩ := rep_at HK hz
          have hkl : (k : Int) < ((d.reps.length : Nat) : Int) := by omega
          have hO2 := Lib.hid (mid_take (x := x) (P := P) (t := t) (z := z) (by rw [HKT.out]; exact hz))
          obtain ⟨l, hl⟩ : ∃ l, d.reps.take P ++ x :: (d.reps.drop P).take t = l := ⟨_, rfl⟩
          have hln : l.length ≤ 2000 := by rw [← hl]; simp; omega
          rw [hl] at hO2 hO
          clear hl hz HK e0
          have m0 := cell_of hO.out.2.1 (o := 0) rfl
          have m1 := cell_of hO.out.2.1 (o := 1) rfl
          have q1 := frz hO.out.2.1 1
          have hgl := at_lt hO.out.2.1
          have hOD := Lib.hid (hO.out.drew)
          have ma : (World.drew wr |>.alloc (.cells #[.int .i64 z.svc, .int .i64 z.host] 41)).cell? ⟨g, 1, none⟩ = some (.slice A l.length c) := cell_of (old_heap _ hOD.out.2.1) rfl
          clear f0 v0 v1 u0 u1 y0 y1
          go_wp2_with (fail)
          go_region_law (refine step_append_lies _ rfl (.tmp 81) (.tmp 87) 34 rfl (g + 1) 41 ir (.agg #[.int .i64 0, .int .i64 0]) 2 16 Try.underlying34 hir hr0 hr1 hr2 rfl (by decide) (.slice A l.length c) l.length (cellsV 2 repV l) (by simp [Act.eval, Act.put]) (hOD.out.2.2.alloc _) ⟨wr.heap.size, 0, none⟩ 1 1 [.int .i64 z.svc, .int .i64 z.host] (by simp [Act.eval, Act.put]) rfl (World.news_of_block (heap_alloc_new _ _)) (by intro u hu; simp at hu; rcases hu with rfl | rfl <;> rfl) (by omega) (by unfold maxLen; omega) (by omega) (by (try simp) <;> omega) _ rfl ?_; intro g4 cap4 Z hown hgrow _ _; have HP := Lib.hid (hOD.out.push z hown hgrow); have k6 := (hgrow.block g (by (try simp) <;> omega) (fun e => by have := (ownsRow_lt hOD.out.2.2 e.symm).1; omega)).trans (old_heap _ hOD.out.2.1); have d0 := cell_of k6 (o := 1) rfl; have d1 := frz k6 1; clear hown hgrow k6)
          all_goals go_wp2_with (fail)
          all_goals (refine ⟨⟨t + 1, by have := HKT.out; omega, by have := HKT.out; go_num, some ⟨g4, 0, none⟩, cap4, Lib.hid ?_⟩, by simp only [intOf]; omega⟩; rw [hO2.out]; exact HP.out)
        · obtain rfl : k = d.reps.length := by omega
          have hO2 := Lib.hid (show OutAt g w3 wr (.slice A1 d.hosts.length c1) A c (startL d.reps x) by
            have h1 := hO.out
            have h2 := HKT.out
            refine OutAt.eq h1 ?_
            unfold startL
            rw [HPD.out, List.take_of_length_le (i := t) (by rw [List.length_drop]; omega)])
          have m0 := cell_of hO2.out.2.1 (o := 0) rfl
          have m1 := cell_of hO2.out.2.1 (o := 1) rfl
          go_wp2_with (fail)
          refine ret2t (i := 4) (b := B + 1 + 1) (j := 5) rfl rfl rfl rfl (row_store2 (HV.out wr hK.out) _ _) ?_
          rw [HRR.out]
          have hq : startP d x = (⟨d.hosts, startL d.reps x⟩, 0) := by unfold startP; rw [Q1.out, Q2.out, HS.out, HT.out, if_pos (by rfl), if_neg (by simp), if_neg HL.out]
          rw [hq]
          have e1 := HLT.out
          have e2 := HW23.out
          have e3 := HWW2.out
          have e5 := HGE.out
          have e6 : World.ownsRow wr w2.heap.size 51 2 (.slice A1 d.hosts.length c1) d.hosts.length (cellsV 2 hstV d.hosts) := own_on O3.out hO2.out.1 (by omega)
          refine ⟨⟨A1, c1, A, c⟩, rfl, ⟨?_, ?_⟩, ?_⟩
          · exact own_mono (ownsRow_setCell_below (ownsRow_setCell_below e6 (a := ⟨B + 1 + 1, 0, none⟩) (by show B + 1 + 1 < _; omega) _) (a := ⟨B + 1 + 1, 1, none⟩) (by show B + 1 + 1 < _; omega) _) (by omega)
          · exact own_mono (ownsRow_setCell_below (ownsRow_setCell_below hO2.out.2.2 (a := ⟨B + 1 + 1, 0, none⟩) (by show B + 1 + 1 < _; omega) _) (a := ⟨B + 1 + 1, 1, none⟩) (by show B + 1 + 1 < _; omega) _) (by omega)
          · rw [hA]; exact ends2 (below_join HB.out hK.out hle) (by omega) _ _
end Go.Proofs.Ytplncglgolhfaaa
