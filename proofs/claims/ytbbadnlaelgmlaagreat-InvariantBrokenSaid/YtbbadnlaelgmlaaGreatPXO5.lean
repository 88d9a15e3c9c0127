/-
  DERIVED. Several texts in one.
-/
import Derived.Test.YtbbadnlaelgmlaaGreatPXO4
import Derived.Test.YtbbadnlaelgmlaaGreatPXO3
import Derived.Test.YtbbadnlaelgmlaaGreatPXB1
set_option linter.unusedVariables false
set_option linter.unusedSimpArgs false

namespace Go.Proofs.YtbbadnlaelgmlaaGreat
open Go.RowKit
set_option maxRecDepth 100000
set_option linter.unusedVariables false
set_option linter.unusedSimpArgs false

/-- A row of numbers that is not in the list's block. -/
structure Rwk (v : Value) (A : Option Addr) (c : Nat) (l : List Int) (X : World) : Prop where
  row : X.ownsRow 0 3 1 (.slice A l.length c) l.length (ints l)
  off : ∀ g, (Value.slice A l.length c).ownBlock = some g → v.ownBlock ≠ some g
theorem Rwk.on {v : Value} {A : Option Addr} {c C : Nat} {l : List Int} {X Y : World} (h : Rwk v A c l X) (hb : Below C X Y) (hC : X.heap.size ≤ C) : Rwk v A c l Y := ⟨own_on h.row hb hC, h.off⟩
theorem Rwk.add {v v' : Value} {A : Option Addr} {c : Nat} {l : List Int} {X Y : World} (h : Rwk v A c l X) (k : AddFr v v' X Y) : Rwk v' A c l Y := by
  refine ⟨?_, fun g hg e => ?_⟩
  · obtain ⟨k1, h0 | ⟨g', cap, cur, e1, k3, k4, k5⟩⟩ := h.row
    · exact ⟨k1, .inl h0⟩
    · exact ⟨k1, .inr ⟨g', cap, cur, e1, k3, k.1 g' _ (h.off g' (by rw [e1]; rfl)) k4, k5⟩⟩
  · have hlt := (ownsRow_lt h.row hg).2
    rcases k.2 with h4 | ⟨b, h4, h5⟩
    · exact h.off g hg (h4 ▸ e)
    · rw [h4] at e
      injection e with e
      omega
theorem rk_new {B c : Nat} {v : Value} {m : List Bn} {A : Option Addr} {l : List Int} {X Y : World} (h : Ow B v m X) (ho : Y.ownsRow X.heap.size 3 1 (.slice A l.length c) l.length (ints l)) : Rwk v A c l Y :=
  ⟨own_mono ho (Nat.zero_le _), fun g hg e => by
    have h1 := (ownsRow_lt ho hg).1
    have h2 := (ownsRow_lt h.row e).2
    omega⟩
set_option maxHeartbeats 64000000 in
theorem c_irServices (z : Sn) (ok : z.Ok) (w : World) (hz : SnAt w z) :
    Calls Tryz.prog 31 #[.agg #[.slice z.p.a1 z.s.feeds.length z.p.c1, .slice z.p.a2 z.s.brks.length z.p.c2, .slice z.p.a3 z.s.loops.length z.p.c3, .slice z.p.a4 z.s.racks.length z.p.c4, .int .i64 z.s.sw, .slice z.p.a5 z.s.links.length z.p.c5, .slice z.p.a6 z.s.hosts.length z.p.c6], .agg #[.slice z.A z.xs.length z.c], .agg #[.slice z.q.a1 z.d.hosts.length z.q.c1, .slice z.q.a2 z.d.reps.length z.q.c2]] w fun e w' => ∃ v, e = .returned v ∧ Ow w.heap.size v ((((bnK z.s z.ss z.d 3 ++ bnK z.s z.ss z.d 4) ++ bnK z.s z.ss z.d 5) ++ bnK z.s z.ss z.d 6) ++ bnK z.s z.ss z.d 7) w' ∧ Below w.heap.size w w' := by
  have hn16 := few_hosts ok
  have hn8 := few_svcs ok
  have hnb := few_brks ok
  have hnf := few_feeds ok
  have hnl := few_loops ok
  have hrp := few_reps ok
  have hsm := hosts_same ok
  have HSM := Lib.hid hsm
  have HOK := Lib.hid ok
  clear hsm ok
  obtain ⟨W1, h1⟩ : ∃ W, W = w.alloc (.cells #[.slice z.p.a1 z.s.feeds.length z.p.c1, .slice z.p.a2 z.s.brks.length z.p.c2, .slice z.p.a3 z.s.loops.length z.p.c3, .slice z.p.a4 z.s.racks.length z.p.c4, .int .i64 z.s.sw, .slice z.p.a5 z.s.links.length z.p.c5, .slice z.p.a6 z.s.hosts.length z.p.c6] 29) := ⟨_, rfl⟩
  obtain ⟨W2, h2⟩ : ∃ W, W = W1.alloc (.cells #[.slice z.A z.xs.length z.c] 32) := ⟨_, rfl⟩
  obtain ⟨W, h3⟩ : ∃ W, W = W2.alloc (.cells #[.slice z.q.a1 z.d.hosts.length z.q.c1, .slice z.q.a2 z.d.reps.length z.q.c2] 36) := ⟨_, rfl⟩
  obtain ⟨B0, X1⟩ := sn_boxes h1 h2 h3
  have z3 : W.heap.size = w.heap.size + 1 + 1 + 1 := sn_size h1 h2 h3
  have HB := Lib.hid B0
  have Z0 := hz.on B0 (Nat.le_refl _)
  have HZ := Lib.hid (fun (X : World) (hX : Below W.heap.size W X) => Z0.on hX (Nat.le_refl _))
  have HF := Lib.hid (fun (X : World) (hX : Below W.heap.size W X) => ((X1.on hX (Nat.le_refl _)).cells : X.cell? ⟨w.heap.size, 0, none⟩ = some (.slice z.p.a1 z.s.feeds.length z.p.c1) ∧ X.cell? ⟨w.heap.size, 1, none⟩ = some (.slice z.p.a2 z.s.brks.length z.p.c2) ∧ X.cell? ⟨w.heap.size, 2, none⟩ = some (.slice z.p.a3 z.s.loops.length z.p.c3) ∧ X.cell? ⟨w.heap.size, 3, none⟩ = some (.slice z.p.a4 z.s.racks.length z.p.c4) ∧ X.cell? ⟨w.heap.size, 4, none⟩ = some (.int .i64 z.s.sw) ∧ X.cell? ⟨w.heap.size, 5, none⟩ = some (.slice z.p.a5 z.s.links.length z.p.c5) ∧ X.cell? ⟨w.heap.size, 6, none⟩ = some (.slice z.p.a6 z.s.hosts.length z.p.c6) ∧ X.cell? ⟨w.heap.size + 1, 0, none⟩ = some (.slice z.A z.xs.length z.c) ∧ X.cell? ⟨w.heap.size + 1 + 1, 0, none⟩ = some (.slice z.q.a1 z.d.hosts.length z.q.c1) ∧ X.cell? ⟨w.heap.size + 1 + 1, 1, none⟩ = some (.slice z.q.a2 z.d.reps.length z.q.c2)))
  have HX := Lib.hid (fun (X : World) (hX : Below W.heap.size W X) => X1.on hX (Nat.le_refl _))
  have HKW := Lib.hid (Below.refl W.heap.size W)
  have hle := HB.out.size
  obtain ⟨n1, n2, n3, n4, n5, n6, n7, n8⟩ := hz.bounds
  clear hz B0 X1 z3 Z0
  obtain ⟨f0, f1, f2, f3, f4, f5, f6, g0, g1, g2⟩ := HF.out W HKW.out
  rw [h3, h2, h1] at f0 f1 f2 f3 f4 f5 f6 g0 g1 g2
  generalize hBB : w.heap.size = B at *
  go_enter Tryz.func31, Tryz.ntmps31
  go_wp2_with (fail)
  rw [← h1, ← h2, ← h3]
  clear h1 h2 h3 f0 f1 f2 f3 f4 f5 f6 g0 g1 g2
  have hl0 : ∃ l0 : List Bn, [] = l0 := ⟨_, rfl⟩
  obtain ⟨l0, hl0⟩ := hl0
  have HL0 := Lib.hid hl0
  have hnl0 : l0.length = 0 := by rw [← hl0]; rfl
  have OW0 := Lib.hid (show Ow W.heap.size (.slice none 0 0) l0 W from by rw [← hl0]; exact ⟨World.ownsRow_nil _ _ _ _, Nat.le_refl _⟩)
  clear hl0
  go_loopw [7, 8] (fun v i wr => ∃ k : Nat, k ≤ z.xs.length ∧ i = .int .i64 (k : Int) ∧ Hid (Below W.heap.size W wr) ∧ Hid (Ow W.heap.size v (l0 ++ bk1 3 (bnLea z.ss z.d) k) wr)) (fun _ i _ => z.xs.length - (intOf i).toNat)
  case atStart => exact ⟨0, Nat.zero_le _, rfl, HKW, Lib.hid (by rw [bk1_zero, List.append_nil]; exact OW0.out)⟩
  case round =>
    obtain ⟨k, hk, rfl, HKwr, OWwr⟩ := hrel
    have hki : ((k : Nat) : Int).toNat = k := by omega
    by_cases hlt : k < z.xs.length
    · obtain ⟨x, hx⟩ : ∃ x, z.xs[k]? = some x := ⟨_, List.getElem?_eq_getElem (by have := HSM.out; omega)⟩
      have hki2 : (k : Int) < (z.xs.length : Int) := by omega
      obtain ⟨m, hm⟩ : ∃ m, l0 ++ bk1 3 (bnLea z.ss z.d) k = m := ⟨_, rfl⟩
      have HSU := Lib.hid (show l0 ++ bk1 3 (bnLea z.ss z.d) (k + 1) = addL m ((bnLea z.ss z.d) k) ⟨3, (k : Int), 0⟩ by rw [bk1_succ, ← List.append_assoc, hm]; rfl)
      have HML := Lib.hid (show m.length ≤ 10000 by
        rw [← hm, List.length_append]
        have h1 := bk1_len 3 (bnLea z.ss z.d) k
        omega)
      rw [hm] at OWwr
      clear hm
      obtain ⟨pb, po, e6, hpb, x0, x1, x2, x3, x4, x5, x6, x7⟩ := sv_of (HZ.out W HKW.out) hx
      have xcell : ∀ X, Below W.heap.size W X → X.cell? ⟨pb, po + k * 8 + 2, none⟩ = some (.int .i64 x.1.least) := fun X hX => (hX.cell (p := ⟨pb, po + k * 8 + 2, none⟩) hpb).trans x2
      obtain ⟨u, hu⟩ : ∃ u, (((whereD z.d.reps (k : Int)).length : Nat) : Int) = u := ⟨_, rfl⟩
      have HU := Lib.hid hu
      have HX1 := Lib.hid hx
      clear hu hx x0 x1 x2 x3 x4 x5 x6 x7
      have HC := Lib.hid (fun (X : World) (hX : Below W.heap.size W X) => (by
        obtain ⟨f0, f1, f2, f3, f4, f5, f6, g0, g1, g2⟩ := HF.out X hX
        rw [e6] at g0
        exact ⟨f0, f1, f2, f3, f4, f5, f6, g0, g1, g2, xcell X hX⟩ : X.cell? ⟨B, 0, none⟩ = some (.slice z.p.a1 z.s.feeds.length z.p.c1) ∧ X.cell? ⟨B, 1, none⟩ = some (.slice z.p.a2 z.s.brks.length z.p.c2) ∧ X.cell? ⟨B, 2, none⟩ = some (.slice z.p.a3 z.s.loops.length z.p.c3) ∧ X.cell? ⟨B, 3, none⟩ = some (.slice z.p.a4 z.s.racks.length z.p.c4) ∧ X.cell? ⟨B, 4, none⟩ = some (.int .i64 z.s.sw) ∧ X.cell? ⟨B, 5, none⟩ = some (.slice z.p.a5 z.s.links.length z.p.c5) ∧ X.cell? ⟨B, 6, none⟩ = some (.slice z.p.a6 z.s.hosts.length z.p.c6) ∧ X.cell? ⟨B + 1, 0, none⟩ = some (.slice (some ⟨pb, po, none⟩) z.xs.length z.c) ∧ X.cell? ⟨B + 1 + 1, 0, none⟩ = some (.slice z.q.a1 z.d.hosts.length z.q.c1) ∧ X.cell? ⟨B + 1 + 1, 1, none⟩ = some (.slice z.q.a2 z.d.reps.length z.q.c2) ∧ X.cell? ⟨pb, po + k * 8 + 2, none⟩ = some (.int .i64 x.1.least)))
      obtain ⟨is, his⟩ : ∃ b, decide (u < x.1.least) = b := ⟨_, rfl⟩
      have HSK := Lib.hid (show l0 ++ bk1 3 (bnLea z.ss z.d) (k + 1) = addL m is ⟨3, (k : Int), 0⟩ by rw [HSU.out, show (bnLea z.ss z.d) k = is from (by unfold bnLea; rw [svAt_eq (show z.ss[k]? = some x.1 from svs_at HX1.out), HU.out]; exact his)])
      obtain ⟨f0, f1, f2, f3, f4, f5, f6, g0, g1, g2, c0⟩ := HC.out wr HKwr.out
      clear e6 xcell
      go_wp2_with (fail)
      clear f0 f1 f2 f3 f4 f5 f6 g0 g1 g2 c0
      go_region_held3 (fun X => X.cell? ⟨B, 0, none⟩ = some (.slice z.p.a1 z.s.feeds.length z.p.c1) ∧ X.cell? ⟨B, 1, none⟩ = some (.slice z.p.a2 z.s.brks.length z.p.c2) ∧ X.cell? ⟨B, 2, none⟩ = some (.slice z.p.a3 z.s.loops.length z.p.c3) ∧ X.cell? ⟨B, 3, none⟩ = some (.slice z.p.a4 z.s.racks.length z.p.c4) ∧ X.cell? ⟨B, 4, none⟩ = some (.int .i64 z.s.sw) ∧ X.cell? ⟨B, 5, none⟩ = some (.slice z.p.a5 z.s.links.length z.p.c5) ∧ X.cell? ⟨B, 6, none⟩ = some (.slice z.p.a6 z.s.hosts.length z.p.c6) ∧ X.cell? ⟨B + 1, 0, none⟩ = some (.slice (some ⟨pb, po, none⟩) z.xs.length z.c) ∧ X.cell? ⟨B + 1 + 1, 0, none⟩ = some (.slice z.q.a1 z.d.hosts.length z.q.c1) ∧ X.cell? ⟨B + 1 + 1, 1, none⟩ = some (.slice z.q.a2 z.d.reps.length z.q.c2) ∧ X.cell? ⟨pb, po + k * 8 + 2, none⟩ = some (.int .i64 x.1.least))
        (first | exact HC.out v202 HKv202.out | exact HC.out v201 HKv201.out | exact HC.out wr HKwr.out | fail)
        (first
          | (go_at_call 61; (with_reducible refine (c_wrRunsTo z (k : Int) u HU.out (by omega) wr.drew (HZ.out _ HKwr.out.drew)).mono ?_); rintro e v201 ⟨rfl, bb0⟩; have bb := below_join (Below.refl wr.heap.size wr).drew bb0 (Nat.le_refl _); have HKv201 := Lib.hid (below_join HKwr.out bb HKwr.out.size); have OWv201 := Lib.hid (OWwr.out.on bb (Nat.le_refl _)); clear bb bb0)
          | (go_at_call 59; (with_reducible refine (c_add W.heap.size _ m is 3 3 rfl (k : Int) (0) HML.out v201 OWv201.out).mono ?_); rintro e v202 ⟨vv, rfl, ow, bb0, fr⟩; have HKv202 := Lib.hid (HKv201.out.trans bb0); have OWv202 := Lib.hid ow; clear bb0 ow fr)
          | fail)
      go_wp2_with (fail)
      go_roundw
      case rel => exact ⟨k + 1, by omega, by go_num, HKv202, Lib.hid (by rw [HSK.out]; exact OWv202.out)⟩
      case measure => simp only [intOf]; omega
    · obtain rfl : k = z.xs.length := by omega
      obtain ⟨l1, hl1⟩ : ∃ l, l0 ++ bk1 3 (bnLea z.ss z.d) z.xs.length = l := ⟨_, rfl⟩
      have HL1 := Lib.hid hl1
      have hnl1 : l1.length ≤ l0.length + 800 := by
        rw [← hl1, List.length_append]
        have h1 := bk1_len 3 (bnLea z.ss z.d) (z.xs.length)
        omega
      rw [hl1] at OWwr
      clear hl1
      obtain ⟨W90, hW9⟩ : ∃ W9, wr = W9 := ⟨_, rfl⟩
      rw [hW9] at HKwr OWwr
      rw [hW9]
      have HK1 := HKwr
      have OW1 := OWwr
      clear hW9 HKwr OWwr
      obtain ⟨f0, f1, f2, f3, f4, f5, f6, g0, g1, g2⟩ := HF.out W90 HK1.out
      go_wp2_with (fail)
      clear f0 f1 f2 f3 f4 f5 f6 g0 g1 g2
      go_loopw [7, 9] (fun v i wr => ∃ k : Nat, k ≤ z.xs.length ∧ i = .int .i64 (k : Int) ∧ Hid (Below W.heap.size W wr) ∧ Hid (Ow W.heap.size v (l1 ++ bk2 4 (bnSpr z.s z.ss z.d) k) wr)) (fun _ i _ => z.xs.length - (intOf i).toNat)
      case atStart => exact ⟨0, Nat.zero_le _, rfl, HK1, Lib.hid (by rw [bk2_zero, List.append_nil]; exact OW1.out)⟩
      case round =>
        obtain ⟨k, hk, rfl, HKwr, OWwr⟩ := hrel
        have hki : ((k : Nat) : Int).toNat = k := by omega
        by_cases hlt : k < z.xs.length
        · obtain ⟨x, hx⟩ : ∃ x, z.xs[k]? = some x := ⟨_, List.getElem?_eq_getElem hlt⟩
          have hki2 : (k : Int) < (z.xs.length : Int) := by omega
          obtain ⟨m, hm⟩ : ∃ m, l1 ++ bk2 4 (bnSpr z.s z.ss z.d) k = m := ⟨_, rfl⟩
          have HSV := Lib.hid (svAt_eq (show z.ss[k]? = some x.1 from svs_at hx))
          have HSU := Lib.hid (show l1 ++ bk2 4 (bnSpr z.s z.ss z.d) (k + 1) = m ++ ((bnSpr z.s z.ss z.d) k).map fun y => ⟨4, (k : Int), y⟩ by rw [bk2_succ, ← List.append_assoc, hm])
          have HML0 := Lib.hid (show m.length ≤ 6000 by
            rw [← hm, List.length_append]
            have h1 := bk2_len 4 100 (bnSpr z.s z.ss z.d) k (fun i hi => spr_len HOK.out i (by omega))
            omega)
          rw [hm] at OWwr
          clear hm
          obtain ⟨pb, po, e7, hpb, x0, x1, x2, x3, x4, x5, x6, x7⟩ := sv_of (HZ.out W HKW.out) hx
          have HXM := Lib.hid (List.mem_of_getElem? hx)
          have xcell : ∀ X, Below W.heap.size W X → (X.cell? ⟨pb, po + k * 8, none⟩ = some (.int .i64 x.1.cores) ∧ X.cell? ⟨pb, po + k * 8 + 1, none⟩ = some (.int .i64 x.1.reps) ∧ X.cell? ⟨pb, po + k * 8 + 2, none⟩ = some (.int .i64 x.1.least) ∧ X.cell? ⟨pb, po + k * 8 + 3, none⟩ = some (.int .u8 (x.1.dom : Int)) ∧ X.cell? ⟨pb, po + k * 8 + 4, none⟩ = some (.int .i64 x.1.spread) ∧ X.cell? ⟨pb, po + k * 8 + 5, none⟩ = some (.slice x.2.a1 x.1.apart.length x.2.c1) ∧ X.cell? ⟨pb, po + k * 8 + 6, none⟩ = some (.slice x.2.a2 x.1.near.length x.2.c2) ∧ X.cell? ⟨pb, po + k * 8 + 7, none⟩ = some (.int .i64 x.1.fw)) := fun X hX => ⟨(hX.cell (p := ⟨pb, po + k * 8, none⟩) hpb).trans x0, (hX.cell (p := ⟨pb, po + k * 8 + 1, none⟩) hpb).trans x1, (hX.cell (p := ⟨pb, po + k * 8 + 2, none⟩) hpb).trans x2, (hX.cell (p := ⟨pb, po + k * 8 + 3, none⟩) hpb).trans x3, (hX.cell (p := ⟨pb, po + k * 8 + 4, none⟩) hpb).trans x4, (hX.cell (p := ⟨pb, po + k * 8 + 5, none⟩) hpb).trans x5, (hX.cell (p := ⟨pb, po + k * 8 + 6, none⟩) hpb).trans x6, (hX.cell (p := ⟨pb, po + k * 8 + 7, none⟩) hpb).trans x7⟩
          obtain ⟨wl, hwl⟩ : ∃ wl, whereD z.d.reps (k : Int) = wl := ⟨_, rfl⟩
          have HWL := Lib.hid hwl
          have hwn : wl.length ≤ 100 := by rw [← hwl]; exact Nat.le_trans (where_len _ _) (by omega)
          clear hwl x0 x1 x2 x3 x4 x5 x6 x7 hx
          have HC := Lib.hid (fun (X : World) (hX : Below W.heap.size W X) => (by
            obtain ⟨f0, f1, f2, f3, f4, f5, f6, g0, g1, g2⟩ := HF.out X hX
            rw [e7] at g0
            exact ⟨f0, f1, f2, f3, f4, f5, f6, g0, g1, g2, xcell X hX⟩ : X.cell? ⟨B, 0, none⟩ = some (.slice z.p.a1 z.s.feeds.length z.p.c1) ∧ X.cell? ⟨B, 1, none⟩ = some (.slice z.p.a2 z.s.brks.length z.p.c2) ∧ X.cell? ⟨B, 2, none⟩ = some (.slice z.p.a3 z.s.loops.length z.p.c3) ∧ X.cell? ⟨B, 3, none⟩ = some (.slice z.p.a4 z.s.racks.length z.p.c4) ∧ X.cell? ⟨B, 4, none⟩ = some (.int .i64 z.s.sw) ∧ X.cell? ⟨B, 5, none⟩ = some (.slice z.p.a5 z.s.links.length z.p.c5) ∧ X.cell? ⟨B, 6, none⟩ = some (.slice z.p.a6 z.s.hosts.length z.p.c6) ∧ X.cell? ⟨B + 1, 0, none⟩ = some (.slice (some ⟨pb, po, none⟩) z.xs.length z.c) ∧ X.cell? ⟨B + 1 + 1, 0, none⟩ = some (.slice z.q.a1 z.d.hosts.length z.q.c1) ∧ X.cell? ⟨B + 1 + 1, 1, none⟩ = some (.slice z.q.a2 z.d.reps.length z.q.c2) ∧ X.cell? ⟨pb, po + k * 8, none⟩ = some (.int .i64 x.1.cores) ∧ X.cell? ⟨pb, po + k * 8 + 1, none⟩ = some (.int .i64 x.1.reps) ∧ X.cell? ⟨pb, po + k * 8 + 2, none⟩ = some (.int .i64 x.1.least) ∧ X.cell? ⟨pb, po + k * 8 + 3, none⟩ = some (.int .u8 (x.1.dom : Int)) ∧ X.cell? ⟨pb, po + k * 8 + 4, none⟩ = some (.int .i64 x.1.spread) ∧ X.cell? ⟨pb, po + k * 8 + 5, none⟩ = some (.slice x.2.a1 x.1.apart.length x.2.c1) ∧ X.cell? ⟨pb, po + k * 8 + 6, none⟩ = some (.slice x.2.a2 x.1.near.length x.2.c2) ∧ X.cell? ⟨pb, po + k * 8 + 7, none⟩ = some (.int .i64 x.1.fw)))
          clear xcell
          obtain ⟨c, hc⟩ : ∃ c : Nat, cntD z.s x.1.dom = (c : Int) := ⟨(cntD z.s x.1.dom).toNat, by have := (cnt_few HOK.out x.1.dom).1; omega⟩
          have hc16 : c ≤ 16 := by have := (cnt_few HOK.out x.1.dom).2; omega
          have HCN := Lib.hid hc
          have hd5 : x.1.dom < 256 := by have := svc_dom HOK.out hlt; rw [HSV.out] at this; omega
          have HSK := Lib.hid (show l1 ++ bk2 4 (bnSpr z.s z.ss z.d) (k + 1) = m ++ (sprL z.s x.1 wl c).map fun y => ⟨4, (k : Int), y⟩ by rw [HSU.out]; unfold bnSpr; rw [HSV.out, HWL.out, hc, Int.toNat_natCast])
          obtain ⟨f0, f1, f2, f3, f4, f5, f6, g0, g1, g2, x0, x1, x2, x3, x4, x5, x6, x7⟩ := HC.out wr HKwr.out
          obtain ⟨V, hV⟩ : ∃ X, X = wr.alloc (.cells #[.int .i64 x.1.cores, .int .i64 x.1.reps, .int .i64 x.1.least, .int .u8 (x.1.dom : Int), .int .i64 x.1.spread, .slice x.2.a1 x.1.apart.length x.2.c1, .slice x.2.a2 x.1.near.length x.2.c2, .int .i64 x.1.fw] 94) := ⟨_, rfl⟩
          have bV : Below wr.heap.size wr V := by rw [hV]; exact (Below.refl _ _).alloc (Nat.le_refl _) _
          have HKV := Lib.hid (below_join HKwr.out bV HKwr.out.size)
          have OWV := Lib.hid (OWwr.out.on bV (Nat.le_refl _))
          have LBV := Lib.hid (show Lv _ V wr.heap.size (.cells #[.int .i64 x.1.cores, .int .i64 x.1.reps, .int .i64 x.1.least, .int .u8 (x.1.dom : Int), .int .i64 x.1.spread, .slice x.2.a1 x.1.apart.length x.2.c1, .slice x.2.a2 x.1.near.length x.2.c2, .int .i64 x.1.fw] 94 (0, 0)) from OWwr.out.new (Nat.le_refl _) (by rw [hV]; exact box_new _ _ _))
          clear hc e7
          go_wp2_with (fail)
          rw [← hV]
          clear hV bV f0 f1 f2 f3 f4 f5 f6 g0 g1 g2 x0 x1 x2 x3 x4 x5 x6 x7
          generalize hsb : wr.heap.size = sb at *
          have HS := Lib.hid (fun (X : World) (v : Value) (hX : Below W.heap.size W X) (hL : Lv v X sb (.cells #[.int .i64 x.1.cores, .int .i64 x.1.reps, .int .i64 x.1.least, .int .u8 (x.1.dom : Int), .int .i64 x.1.spread, .slice x.2.a1 x.1.apart.length x.2.c1, .slice x.2.a2 x.1.near.length x.2.c2, .int .i64 x.1.fw] 94 (0, 0))) => (by
            obtain ⟨f0, f1, f2, f3, f4, f5, f6, g0, g1, g2⟩ := HF.out X hX
            exact ⟨f0, f1, f2, f3, f4, f5, f6, g0, g1, g2, cell_of hL.1 rfl, cell_of hL.1 rfl, cell_of hL.1 rfl, cell_of hL.1 rfl, cell_of hL.1 rfl, cell_of hL.1 rfl, cell_of hL.1 rfl, cell_of hL.1 rfl⟩ : X.cell? ⟨B, 0, none⟩ = some (.slice z.p.a1 z.s.feeds.length z.p.c1) ∧ X.cell? ⟨B, 1, none⟩ = some (.slice z.p.a2 z.s.brks.length z.p.c2) ∧ X.cell? ⟨B, 2, none⟩ = some (.slice z.p.a3 z.s.loops.length z.p.c3) ∧ X.cell? ⟨B, 3, none⟩ = some (.slice z.p.a4 z.s.racks.length z.p.c4) ∧ X.cell? ⟨B, 4, none⟩ = some (.int .i64 z.s.sw) ∧ X.cell? ⟨B, 5, none⟩ = some (.slice z.p.a5 z.s.links.length z.p.c5) ∧ X.cell? ⟨B, 6, none⟩ = some (.slice z.p.a6 z.s.hosts.length z.p.c6) ∧ X.cell? ⟨B + 1, 0, none⟩ = some (.slice z.A z.xs.length z.c) ∧ X.cell? ⟨B + 1 + 1, 0, none⟩ = some (.slice z.q.a1 z.d.hosts.length z.q.c1) ∧ X.cell? ⟨B + 1 + 1, 1, none⟩ = some (.slice z.q.a2 z.d.reps.length z.q.c2) ∧ X.cell? ⟨sb, 0, none⟩ = some (.int .i64 x.1.cores) ∧ X.cell? ⟨sb, 1, none⟩ = some (.int .i64 x.1.reps) ∧ X.cell? ⟨sb, 2, none⟩ = some (.int .i64 x.1.least) ∧ X.cell? ⟨sb, 3, none⟩ = some (.int .u8 (x.1.dom : Int)) ∧ X.cell? ⟨sb, 4, none⟩ = some (.int .i64 x.1.spread) ∧ X.cell? ⟨sb, 5, none⟩ = some (.slice x.2.a1 x.1.apart.length x.2.c1) ∧ X.cell? ⟨sb, 6, none⟩ = some (.slice x.2.a2 x.1.near.length x.2.c2) ∧ X.cell? ⟨sb, 7, none⟩ = some (.int .i64 x.1.fw)))
          go_loopw [7, 11] (fun v i wr => ∃ q : Nat, q ≤ c ∧ i = .int .i64 (q : Int) ∧ Hid (Below W.heap.size W wr) ∧ Hid (Ow W.heap.size v (m ++ (sprL z.s x.1 wl q).map fun y => ⟨4, (k : Int), y⟩) wr) ∧ Hid (Lv v wr sb (.cells #[.int .i64 x.1.cores, .int .i64 x.1.reps, .int .i64 x.1.least, .int .u8 (x.1.dom : Int), .int .i64 x.1.spread, .slice x.2.a1 x.1.apart.length x.2.c1, .slice x.2.a2 x.1.near.length x.2.c2, .int .i64 x.1.fw] 94 (0, 0)))) (fun _ i _ => c - (intOf i).toNat)
          case atStart => exact ⟨0, Nat.zero_le _, rfl, HKV, Lib.hid (by rw [show sprL z.s x.1 wl 0 = [] from rfl, List.map_nil, List.append_nil]; exact OWV.out), LBV⟩
          case round =>
            obtain ⟨q, hq, rfl, HKwr, OWwr, LBwr⟩ := hrel
            have hqi : ((q : Nat) : Int).toNat = q := by omega
            obtain ⟨f0, f1, f2, f3, f4, f5, f6, g0, g1, g2, x0, x1, x2, x3, x4, x5, x6, x7⟩ := HS.out wr _ HKwr.out LBwr.out
            by_cases hql : q < c
            · have hqi2 : (q : Int) < (c : Int) := by omega
              go_wp2_with (fail)
              clear f0 f1 f2 f3 f4 f5 f6 g0 g1 g2 x0 x1 x2 x3 x4 x5 x6 x7
              go_at_call 62
              refine (c_srCountTo z x.1.dom hd5 (c : Int) HCN.out wr (HZ.out wr HKwr.out)).mono ?_
              rintro e v1 ⟨rfl, bb⟩
              have HKv1 := Lib.hid (below_join HKwr.out bb HKwr.out.size)
              have OWv1 := Lib.hid (OWwr.out.on bb (Nat.le_refl _))
              have LBv1 := Lib.hid (LBwr.out.on bb (Nat.le_refl _))
              clear bb
              obtain ⟨mm, hmm⟩ : ∃ mm, m ++ (sprL z.s x.1 wl q).map (fun y => (⟨4, (k : Int), y⟩ : Bn)) = mm := ⟨_, rfl⟩
              obtain ⟨u, hu⟩ : ∃ u : Int, ((inDm z.s x.1.dom wl q : Nat) : Int) = u := ⟨_, rfl⟩
              obtain ⟨is, his⟩ : ∃ b, decide (x.1.spread < u) = b := ⟨_, rfl⟩
              have HSI := Lib.hid (show m ++ (sprL z.s x.1 wl (q + 1)).map (fun y => (⟨4, (k : Int), y⟩ : Bn)) = addL mm is ⟨4, (k : Int), (q : Int)⟩ by
                rw [sprL_succ, List.map_append, ← List.append_assoc, hmm, hu, ← his]
                unfold addL
                congr 1
                by_cases e : x.1.spread < u
                · rw [if_pos e, decide_eq_true e]; rfl
                · rw [if_neg e, decide_eq_false e]; rfl)
              have HML := Lib.hid (show mm.length ≤ 10000 by
                rw [← hmm, List.length_append, List.length_map]
                have h1 := sprL_len z.s x.1 wl q
                have := HML0.out; omega)
              have HU := Lib.hid hu
              rw [hmm] at OWv1
              clear hmm hu OWwr LBwr
              obtain ⟨f0, f1, f2, f3, f4, f5, f6, g0, g1, g2, x0, x1, x2, x3, x4, x5, x6, x7⟩ := HS.out v1 _ HKv1.out LBv1.out
              go_wp2_with (fail)
              clear f0 f1 f2 f3 f4 f5 f6 g0 g1 g2 x0 x1 x2 x3 x4 x5 x6 x7
              go_region_held3 (fun X => X.cell? ⟨B, 0, none⟩ = some (.slice z.p.a1 z.s.feeds.length z.p.c1) ∧ X.cell? ⟨B, 1, none⟩ = some (.slice z.p.a2 z.s.brks.length z.p.c2) ∧ X.cell? ⟨B, 2, none⟩ = some (.slice z.p.a3 z.s.loops.length z.p.c3) ∧ X.cell? ⟨B, 3, none⟩ = some (.slice z.p.a4 z.s.racks.length z.p.c4) ∧ X.cell? ⟨B, 4, none⟩ = some (.int .i64 z.s.sw) ∧ X.cell? ⟨B, 5, none⟩ = some (.slice z.p.a5 z.s.links.length z.p.c5) ∧ X.cell? ⟨B, 6, none⟩ = some (.slice z.p.a6 z.s.hosts.length z.p.c6) ∧ X.cell? ⟨B + 1, 0, none⟩ = some (.slice z.A z.xs.length z.c) ∧ X.cell? ⟨B + 1 + 1, 0, none⟩ = some (.slice z.q.a1 z.d.hosts.length z.q.c1) ∧ X.cell? ⟨B + 1 + 1, 1, none⟩ = some (.slice z.q.a2 z.d.reps.length z.q.c2) ∧ X.cell? ⟨sb, 0, none⟩ = some (.int .i64 x.1.cores) ∧ X.cell? ⟨sb, 1, none⟩ = some (.int .i64 x.1.reps) ∧ X.cell? ⟨sb, 2, none⟩ = some (.int .i64 x.1.least) ∧ X.cell? ⟨sb, 3, none⟩ = some (.int .u8 (x.1.dom : Int)) ∧ X.cell? ⟨sb, 4, none⟩ = some (.int .i64 x.1.spread) ∧ X.cell? ⟨sb, 5, none⟩ = some (.slice x.2.a1 x.1.apart.length x.2.c1) ∧ X.cell? ⟨sb, 6, none⟩ = some (.slice x.2.a2 x.1.near.length x.2.c2) ∧ X.cell? ⟨sb, 7, none⟩ = some (.int .i64 x.1.fw))
                (first | exact HS.out v302 _ HKv302.out LBv302.out | exact HS.out v301 _ HKv301.out LBv301.out | exact HS.out v1 _ HKv1.out LBv1.out | fail)
                (first
                  | (go_at_call 63; (with_reducible refine (c_inDomain z (k : Int) x.1.dom hd5 q wl HWL.out (by omega) u HU.out v1.drew (HZ.out _ HKv1.out.drew)).mono ?_); rintro e v301 ⟨rfl, bb0⟩; have bb := below_join (Below.refl v1.heap.size v1).drew bb0 (Nat.le_refl _); have HKv301 := Lib.hid (below_join HKv1.out bb HKv1.out.size); have OWv301 := Lib.hid (OWv1.out.on bb (Nat.le_refl _)); have LBv301 := Lib.hid (LBv1.out.on bb (Nat.le_refl _)); clear bb bb0)
                  | (go_at_call 59; (with_reducible refine (c_add W.heap.size _ mm is 4 4 rfl (k : Int) (q : Int) HML.out v301 OWv301.out).mono ?_); rintro e v302 ⟨vv, rfl, ow, bb0, fr⟩; have HKv302 := Lib.hid (HKv301.out.trans bb0); have OWv302 := Lib.hid ow; have LBv302 := Lib.hid (LBv301.out.add fr); clear bb0 ow fr)
                  | fail)
              go_wp2_with (fail)
              go_roundw
              case rel => exact ⟨q + 1, by omega, by go_num, HKv302, Lib.hid (by rw [HSI.out]; exact OWv302.out), LBv302⟩
              case measure => simp only [intOf]; omega
            · obtain rfl : q = c := by omega
              go_wp2_with (fail)
              clear f0 f1 f2 f3 f4 f5 f6 g0 g1 g2 x0 x1 x2 x3 x4 x5 x6 x7
              go_at_call 62
              refine (c_srCountTo z x.1.dom hd5 (q : Int) HCN.out wr (HZ.out wr HKwr.out)).mono ?_
              rintro e v1 ⟨rfl, bb⟩
              have HKv1 := Lib.hid (below_join HKwr.out bb HKwr.out.size)
              have OWv1 := Lib.hid (show Ow W.heap.size _ (l1 ++ bk2 4 (bnSpr z.s z.ss z.d) (k + 1)) v1 by rw [HSK.out]; exact OWwr.out.on bb (Nat.le_refl _))
              clear bb
              go_wp2_with (fail)
              go_roundw
              case rel => exact ⟨k + 1, by omega, by go_num, HKv1, OWv1⟩
              case measure => simp only [intOf]; omega
        · obtain rfl : k = z.xs.length := by omega
          obtain ⟨l2, hl2⟩ : ∃ l, l1 ++ bk2 4 (bnSpr z.s z.ss z.d) z.xs.length = l := ⟨_, rfl⟩
          have HL2 := Lib.hid hl2
          have hnl2 : l2.length ≤ l1.length + 800 := by
            rw [← hl2, List.length_append]
            have h1 := bk2_len 4 100 (bnSpr z.s z.ss z.d) (z.xs.length) (fun i hi => spr_len HOK.out i hi)
            omega
          rw [hl2] at OWwr
          clear hl2
          obtain ⟨W91, hW9⟩ : ∃ W9, wr = W9 := ⟨_, rfl⟩
          rw [hW9] at HKwr OWwr
          rw [hW9]
          have HK2 := HKwr
          have OW2 := OWwr
          clear hW9 HKwr OWwr
          obtain ⟨f0, f1, f2, f3, f4, f5, f6, g0, g1, g2⟩ := HF.out W91 HK2.out
          go_wp2_with (fail)
          clear f0 f1 f2 f3 f4 f5 f6 g0 g1 g2
          go_loopw [7, 12] (fun v i wr => ∃ k : Nat, k ≤ z.xs.length ∧ i = .int .i64 (k : Int) ∧ Hid (Below W.heap.size W wr) ∧ Hid (Ow W.heap.size v (l2 ++ bk2 5 (bnApt z.ss z.d) k) wr)) (fun _ i _ => z.xs.length - (intOf i).toNat)
          case atStart => exact ⟨0, Nat.zero_le _, rfl, HK2, Lib.hid (by rw [bk2_zero, List.append_nil]; exact OW2.out)⟩
          case round =>
            obtain ⟨k, hk, rfl, HKwr, OWwr⟩ := hrel
            have hki : ((k : Nat) : Int).toNat = k := by omega
            by_cases hlt : k < z.xs.length
            · obtain ⟨x, hx⟩ : ∃ x, z.xs[k]? = some x := ⟨_, List.getElem?_eq_getElem hlt⟩
              have hki2 : (k : Int) < (z.xs.length : Int) := by omega
              obtain ⟨m, hm⟩ : ∃ m, l2 ++ bk2 5 (bnApt z.ss z.d) k = m := ⟨_, rfl⟩
              have HSV := Lib.hid (svAt_eq (show z.ss[k]? = some x.1 from svs_at hx))
              have HSU := Lib.hid (show l2 ++ bk2 5 (bnApt z.ss z.d) (k + 1) = m ++ ((bnApt z.ss z.d) k).map fun y => ⟨5, (k : Int), y⟩ by rw [bk2_succ, ← List.append_assoc, hm])
              have HML0 := Lib.hid (show m.length ≤ 6000 by
                rw [← hm, List.length_append]
                have h1 := bk2_len 5 100 (bnApt z.ss z.d) k (fun i hi => apt_len HOK.out i (by omega))
                omega)
              rw [hm] at OWwr
              clear hm
              obtain ⟨pb, po, e7, hpb, x0, x1, x2, x3, x4, x5, x6, x7⟩ := sv_of (HZ.out W HKW.out) hx
              have HXM := Lib.hid (List.mem_of_getElem? hx)
              have xcell : ∀ X, Below W.heap.size W X → (X.cell? ⟨pb, po + k * 8, none⟩ = some (.int .i64 x.1.cores) ∧ X.cell? ⟨pb, po + k * 8 + 1, none⟩ = some (.int .i64 x.1.reps) ∧ X.cell? ⟨pb, po + k * 8 + 2, none⟩ = some (.int .i64 x.1.least) ∧ X.cell? ⟨pb, po + k * 8 + 3, none⟩ = some (.int .u8 (x.1.dom : Int)) ∧ X.cell? ⟨pb, po + k * 8 + 4, none⟩ = some (.int .i64 x.1.spread) ∧ X.cell? ⟨pb, po + k * 8 + 5, none⟩ = some (.slice x.2.a1 x.1.apart.length x.2.c1) ∧ X.cell? ⟨pb, po + k * 8 + 6, none⟩ = some (.slice x.2.a2 x.1.near.length x.2.c2) ∧ X.cell? ⟨pb, po + k * 8 + 7, none⟩ = some (.int .i64 x.1.fw)) := fun X hX => ⟨(hX.cell (p := ⟨pb, po + k * 8, none⟩) hpb).trans x0, (hX.cell (p := ⟨pb, po + k * 8 + 1, none⟩) hpb).trans x1, (hX.cell (p := ⟨pb, po + k * 8 + 2, none⟩) hpb).trans x2, (hX.cell (p := ⟨pb, po + k * 8 + 3, none⟩) hpb).trans x3, (hX.cell (p := ⟨pb, po + k * 8 + 4, none⟩) hpb).trans x4, (hX.cell (p := ⟨pb, po + k * 8 + 5, none⟩) hpb).trans x5, (hX.cell (p := ⟨pb, po + k * 8 + 6, none⟩) hpb).trans x6, (hX.cell (p := ⟨pb, po + k * 8 + 7, none⟩) hpb).trans x7⟩
              obtain ⟨wl, hwl⟩ : ∃ wl, whereD z.d.reps (k : Int) = wl := ⟨_, rfl⟩
              have HWL := Lib.hid hwl
              have hwn : wl.length ≤ 100 := by rw [← hwl]; exact Nat.le_trans (where_len _ _) (by omega)
              clear hwl x0 x1 x2 x3 x4 x5 x6 x7 hx
              have HC := Lib.hid (fun (X : World) (hX : Below W.heap.size W X) => (by
                obtain ⟨f0, f1, f2, f3, f4, f5, f6, g0, g1, g2⟩ := HF.out X hX
                rw [e7] at g0
                exact ⟨f0, f1, f2, f3, f4, f5, f6, g0, g1, g2, xcell X hX⟩ : X.cell? ⟨B, 0, none⟩ = some (.slice z.p.a1 z.s.feeds.length z.p.c1) ∧ X.cell? ⟨B, 1, none⟩ = some (.slice z.p.a2 z.s.brks.length z.p.c2) ∧ X.cell? ⟨B, 2, none⟩ = some (.slice z.p.a3 z.s.loops.length z.p.c3) ∧ X.cell? ⟨B, 3, none⟩ = some (.slice z.p.a4 z.s.racks.length z.p.c4) ∧ X.cell? ⟨B, 4, none⟩ = some (.int .i64 z.s.sw) ∧ X.cell? ⟨B, 5, none⟩ = some (.slice z.p.a5 z.s.links.length z.p.c5) ∧ X.cell? ⟨B, 6, none⟩ = some (.slice z.p.a6 z.s.hosts.length z.p.c6) ∧ X.cell? ⟨B + 1, 0, none⟩ = some (.slice (some ⟨pb, po, none⟩) z.xs.length z.c) ∧ X.cell? ⟨B + 1 + 1, 0, none⟩ = some (.slice z.q.a1 z.d.hosts.length z.q.c1) ∧ X.cell? ⟨B + 1 + 1, 1, none⟩ = some (.slice z.q.a2 z.d.reps.length z.q.c2) ∧ X.cell? ⟨pb, po + k * 8, none⟩ = some (.int .i64 x.1.cores) ∧ X.cell? ⟨pb, po + k * 8 + 1, none⟩ = some (.int .i64 x.1.reps) ∧ X.cell? ⟨pb, po + k * 8 + 2, none⟩ = some (.int .i64 x.1.least) ∧ X.cell? ⟨pb, po + k * 8 + 3, none⟩ = some (.int .u8 (x.1.dom : Int)) ∧ X.cell? ⟨pb, po + k * 8 + 4, none⟩ = some (.int .i64 x.1.spread) ∧ X.cell? ⟨pb, po + k * 8 + 5, none⟩ = some (.slice x.2.a1 x.1.apart.length x.2.c1) ∧ X.cell? ⟨pb, po + k * 8 + 6, none⟩ = some (.slice x.2.a2 x.1.near.length x.2.c2) ∧ X.cell? ⟨pb, po + k * 8 + 7, none⟩ = some (.int .i64 x.1.fw)))
              clear xcell
              have HSK := Lib.hid (show l2 ++ bk2 5 (bnApt z.ss z.d) (k + 1) = m ++ (x.1.apart.filter (shrB z.d wl)).map fun y => ⟨5, (k : Int), y⟩ by rw [HSU.out]; unfold bnApt; rw [HSV.out, HWL.out])
              have HFL := Lib.hid (show (x.1.apart.filter (shrB z.d wl)).length ≤ 100 by
                have h1 := apt_len HOK.out k hlt
                unfold bnApt at h1
                rw [HSV.out, HWL.out] at h1; exact h1)
              obtain ⟨f0, f1, f2, f3, f4, f5, f6, g0, g1, g2, x0, x1, x2, x3, x4, x5, x6, x7⟩ := HC.out wr HKwr.out
              have hsv := (HZ.out W HKW.out).wi.each x HXM.out
              have hcap := hsv.apart.1
              have hcap2 := hsv.apart.2.1
              unfold maxLen at hcap2
              have HROW := Lib.hid (fun (X : World) (hX : Below W.heap.size W X) => hsv.apart.on hX (Nat.le_refl _))
              clear hsv
              clear e7
              go_wp2_with (fail)
              clear f0 f1 f2 f3 f4 f5 f6 g0 g1 g2 x0 x1 x2 x3 x4 x5 x6 x7
              go_loopw [7, 14] (fun v i wr => ∃ q : Nat, q ≤ x.1.apart.length ∧ i = .int .i64 (q : Int) ∧ Hid (Below W.heap.size W wr) ∧ Hid (Ow W.heap.size v (m ++ ((x.1.apart.take q).filter (shrB z.d wl)).map fun y => ⟨5, (k : Int), y⟩) wr)) (fun _ i _ => x.1.apart.length - (intOf i).toNat)
              case atStart => exact ⟨0, Nat.zero_le _, rfl, HKwr, Lib.hid (by simp only [List.take_zero, List.filter_nil, List.map_nil, List.append_nil]; exact OWwr.out)⟩
              case round =>
                obtain ⟨q, hq, rfl, HKwr, OWwr⟩ := hrel
                have hqi : ((q : Nat) : Int).toNat = q := by omega
                by_cases hql : q < x.1.apart.length
                · obtain ⟨y, hy⟩ : ∃ y, x.1.apart[q]? = some y := ⟨_, List.getElem?_eq_getElem hql⟩
                  have hqi2 : (q : Int) < ((x.1.apart.length : Nat) : Int) := by omega
                  obtain ⟨mm, hmm⟩ : ∃ mm, m ++ ((x.1.apart.take q).filter (shrB z.d wl)).map (fun y => (⟨5, (k : Int), y⟩ : Bn)) = mm := ⟨_, rfl⟩
                  obtain ⟨b, hb⟩ : ∃ b, (shrB z.d wl) y = b := ⟨_, rfl⟩
                  have HSI := Lib.hid (show m ++ ((x.1.apart.take (q + 1)).filter (shrB z.d wl)).map (fun y => (⟨5, (k : Int), y⟩ : Bn)) = addL mm b ⟨5, (k : Int), y⟩ by
                    rw [filt_take hy, List.map_append, ← List.append_assoc, hmm, hb]
                    unfold addL
                    congr 1
                    cases b <;> rfl)
                  have HML := Lib.hid (show mm.length ≤ 10000 by
                    rw [← hmm, List.length_append, List.length_map]
                    have h1 := List.Sublist.length_le ((List.take_sublist q x.1.apart).filter (shrB z.d wl))
                    have := HFL.out; have := HML0.out; omega)
                  rw [hmm] at OWwr
                  have HBB := Lib.hid hb
                  clear hmm hb
                  obtain ⟨ab, ao, ea, -, -⟩ := (HROW.out W HKW.out).at_ hy
                  have ycell : ∀ X, Below W.heap.size W X → X.cell? ⟨ab, ao + q, none⟩ = some (.int .i64 y) := fun X hX => by
                    have h := HROW.out X hX
                    rw [ea] at h
                    exact int_at h hy
                  have HS := Lib.hid (fun (X : World) (hX : Below W.heap.size W X) => (by
                    obtain ⟨f0, f1, f2, f3, f4, f5, f6, g0, g1, g2, x0, x1, x2, x3, x4, x5, x6, x7⟩ := HC.out X hX
                    exact ⟨f0, f1, f2, f3, f4, f5, f6, g0, g1, g2, ycell X hX⟩ : X.cell? ⟨B, 0, none⟩ = some (.slice z.p.a1 z.s.feeds.length z.p.c1) ∧ X.cell? ⟨B, 1, none⟩ = some (.slice z.p.a2 z.s.brks.length z.p.c2) ∧ X.cell? ⟨B, 2, none⟩ = some (.slice z.p.a3 z.s.loops.length z.p.c3) ∧ X.cell? ⟨B, 3, none⟩ = some (.slice z.p.a4 z.s.racks.length z.p.c4) ∧ X.cell? ⟨B, 4, none⟩ = some (.int .i64 z.s.sw) ∧ X.cell? ⟨B, 5, none⟩ = some (.slice z.p.a5 z.s.links.length z.p.c5) ∧ X.cell? ⟨B, 6, none⟩ = some (.slice z.p.a6 z.s.hosts.length z.p.c6) ∧ X.cell? ⟨B + 1, 0, none⟩ = some (.slice (some ⟨pb, po, none⟩) z.xs.length z.c) ∧ X.cell? ⟨B + 1 + 1, 0, none⟩ = some (.slice z.q.a1 z.d.hosts.length z.q.c1) ∧ X.cell? ⟨B + 1 + 1, 1, none⟩ = some (.slice z.q.a2 z.d.reps.length z.q.c2) ∧ X.cell? ⟨ab, ao + q, none⟩ = some (.int .i64 y)))
                  clear ycell
                  obtain ⟨f0, f1, f2, f3, f4, f5, f6, g0, g1, g2, y0⟩ := HS.out wr HKwr.out
                  rw [ea]
                  clear hy
                  go_wp2_with (fail)
                  clear f0 f1 f2 f3 f4 f5 f6 g0 g1 g2 y0
                  go_region_held3 (fun X => X.cell? ⟨B, 0, none⟩ = some (.slice z.p.a1 z.s.feeds.length z.p.c1) ∧ X.cell? ⟨B, 1, none⟩ = some (.slice z.p.a2 z.s.brks.length z.p.c2) ∧ X.cell? ⟨B, 2, none⟩ = some (.slice z.p.a3 z.s.loops.length z.p.c3) ∧ X.cell? ⟨B, 3, none⟩ = some (.slice z.p.a4 z.s.racks.length z.p.c4) ∧ X.cell? ⟨B, 4, none⟩ = some (.int .i64 z.s.sw) ∧ X.cell? ⟨B, 5, none⟩ = some (.slice z.p.a5 z.s.links.length z.p.c5) ∧ X.cell? ⟨B, 6, none⟩ = some (.slice z.p.a6 z.s.hosts.length z.p.c6) ∧ X.cell? ⟨B + 1, 0, none⟩ = some (.slice (some ⟨pb, po, none⟩) z.xs.length z.c) ∧ X.cell? ⟨B + 1 + 1, 0, none⟩ = some (.slice z.q.a1 z.d.hosts.length z.q.c1) ∧ X.cell? ⟨B + 1 + 1, 1, none⟩ = some (.slice z.q.a2 z.d.reps.length z.q.c2) ∧ X.cell? ⟨ab, ao + q, none⟩ = some (.int .i64 y))
                    (first | exact HS.out v442 HKv442.out | exact HS.out v441 HKv441.out | exact HS.out wr HKwr.out | fail)
                    (first
                      | (go_at_call 64; (with_reducible refine (c_share z (k : Int) y wl HWL.out (by omega) b HBB.out wr.drew (HZ.out _ HKwr.out.drew)).mono ?_); rintro e v441 ⟨rfl, bb0⟩; have bb := below_join (Below.refl wr.heap.size wr).drew bb0 (Nat.le_refl _); have HKv441 := Lib.hid (below_join HKwr.out bb HKwr.out.size); have OWv441 := Lib.hid (OWwr.out.on bb (Nat.le_refl _)); clear bb bb0)
                      | (go_at_call 59; (with_reducible refine (c_add W.heap.size _ mm b 5 5 rfl (k : Int) (y) HML.out v441 OWv441.out).mono ?_); rintro e v442 ⟨vv, rfl, ow, bb0, fr⟩; have HKv442 := Lib.hid (HKv441.out.trans bb0); have OWv442 := Lib.hid ow; clear bb0 ow fr)
                      | fail)
                  go_wp2_with (fail)
                  go_roundw
                  case rel => exact ⟨q + 1, by omega, by go_num, HKv442, Lib.hid (by rw [HSI.out]; exact OWv442.out)⟩
                  case measure => simp only [intOf]; omega
                · obtain rfl : q = x.1.apart.length := by omega
                  have OWX := Lib.hid (show Ow W.heap.size _ (l2 ++ bk2 5 (bnApt z.ss z.d) (k + 1)) wr by
                    have := OWwr.out
                    rw [List.take_length] at this
                    rw [HSK.out]; exact this)
                  go_wp2_with (fail)
                  go_roundw
                  case rel => exact ⟨k + 1, by omega, by go_num, HKwr, OWX⟩
                  case measure => simp only [intOf]; omega
            · obtain rfl : k = z.xs.length := by omega
              obtain ⟨l3, hl3⟩ : ∃ l, l2 ++ bk2 5 (bnApt z.ss z.d) z.xs.length = l := ⟨_, rfl⟩
              have HL3 := Lib.hid hl3
              have hnl3 : l3.length ≤ l2.length + 800 := by
                rw [← hl3, List.length_append]
                have h1 := bk2_len 5 100 (bnApt z.ss z.d) (z.xs.length) (fun i hi => apt_len HOK.out i hi)
                omega
              rw [hl3] at OWwr
              clear hl3
              obtain ⟨W92, hW9⟩ : ∃ W9, wr = W9 := ⟨_, rfl⟩
              rw [hW9] at HKwr OWwr
              rw [hW9]
              have HK3 := HKwr
              have OW3 := OWwr
              clear hW9 HKwr OWwr
              obtain ⟨f0, f1, f2, f3, f4, f5, f6, g0, g1, g2⟩ := HF.out W92 HK3.out
              go_wp2_with (fail)
              clear f0 f1 f2 f3 f4 f5 f6 g0 g1 g2
              go_loopw [7, 15] (fun v i wr => ∃ k : Nat, k ≤ z.xs.length ∧ i = .int .i64 (k : Int) ∧ Hid (Below W.heap.size W wr) ∧ Hid (Ow W.heap.size v (l3 ++ bk2 6 (bnNea z.s z.ss z.d) k) wr)) (fun _ i _ => z.xs.length - (intOf i).toNat)
              case atStart => exact ⟨0, Nat.zero_le _, rfl, HK3, Lib.hid (by rw [bk2_zero, List.append_nil]; exact OW3.out)⟩
              case round =>
                obtain ⟨k, hk, rfl, HKwr, OWwr⟩ := hrel
                have hki : ((k : Nat) : Int).toNat = k := by omega
                by_cases hlt : k < z.xs.length
                · obtain ⟨x, hx⟩ : ∃ x, z.xs[k]? = some x := ⟨_, List.getElem?_eq_getElem hlt⟩
                  have hki2 : (k : Int) < (z.xs.length : Int) := by omega
                  obtain ⟨m, hm⟩ : ∃ m, l3 ++ bk2 6 (bnNea z.s z.ss z.d) k = m := ⟨_, rfl⟩
                  have HSV := Lib.hid (svAt_eq (show z.ss[k]? = some x.1 from svs_at hx))
                  have HSU := Lib.hid (show l3 ++ bk2 6 (bnNea z.s z.ss z.d) (k + 1) = m ++ ((bnNea z.s z.ss z.d) k).map fun y => ⟨6, (k : Int), y⟩ by rw [bk2_succ, ← List.append_assoc, hm])
                  have HML0 := Lib.hid (show m.length ≤ 6000 by
                    rw [← hm, List.length_append]
                    have h1 := bk2_len 6 100 (bnNea z.s z.ss z.d) k (fun i hi => nea_len HOK.out i (by omega))
                    omega)
                  rw [hm] at OWwr
                  clear hm
                  obtain ⟨pb, po, e7, hpb, x0, x1, x2, x3, x4, x5, x6, x7⟩ := sv_of (HZ.out W HKW.out) hx
                  have HXM := Lib.hid (List.mem_of_getElem? hx)
                  have xcell : ∀ X, Below W.heap.size W X → (X.cell? ⟨pb, po + k * 8, none⟩ = some (.int .i64 x.1.cores) ∧ X.cell? ⟨pb, po + k * 8 + 1, none⟩ = some (.int .i64 x.1.reps) ∧ X.cell? ⟨pb, po + k * 8 + 2, none⟩ = some (.int .i64 x.1.least) ∧ X.cell? ⟨pb, po + k * 8 + 3, none⟩ = some (.int .u8 (x.1.dom : Int)) ∧ X.cell? ⟨pb, po + k * 8 + 4, none⟩ = some (.int .i64 x.1.spread) ∧ X.cell? ⟨pb, po + k * 8 + 5, none⟩ = some (.slice x.2.a1 x.1.apart.length x.2.c1) ∧ X.cell? ⟨pb, po + k * 8 + 6, none⟩ = some (.slice x.2.a2 x.1.near.length x.2.c2) ∧ X.cell? ⟨pb, po + k * 8 + 7, none⟩ = some (.int .i64 x.1.fw)) := fun X hX => ⟨(hX.cell (p := ⟨pb, po + k * 8, none⟩) hpb).trans x0, (hX.cell (p := ⟨pb, po + k * 8 + 1, none⟩) hpb).trans x1, (hX.cell (p := ⟨pb, po + k * 8 + 2, none⟩) hpb).trans x2, (hX.cell (p := ⟨pb, po + k * 8 + 3, none⟩) hpb).trans x3, (hX.cell (p := ⟨pb, po + k * 8 + 4, none⟩) hpb).trans x4, (hX.cell (p := ⟨pb, po + k * 8 + 5, none⟩) hpb).trans x5, (hX.cell (p := ⟨pb, po + k * 8 + 6, none⟩) hpb).trans x6, (hX.cell (p := ⟨pb, po + k * 8 + 7, none⟩) hpb).trans x7⟩
                  obtain ⟨wl, hwl⟩ : ∃ wl, whereD z.d.reps (k : Int) = wl := ⟨_, rfl⟩
                  have HWL := Lib.hid hwl
                  have hwn : wl.length ≤ 100 := by rw [← hwl]; exact Nat.le_trans (where_len _ _) (by omega)
                  clear hwl x0 x1 x2 x3 x4 x5 x6 x7 hx
                  have HC := Lib.hid (fun (X : World) (hX : Below W.heap.size W X) => (by
                    obtain ⟨f0, f1, f2, f3, f4, f5, f6, g0, g1, g2⟩ := HF.out X hX
                    rw [e7] at g0
                    exact ⟨f0, f1, f2, f3, f4, f5, f6, g0, g1, g2, xcell X hX⟩ : X.cell? ⟨B, 0, none⟩ = some (.slice z.p.a1 z.s.feeds.length z.p.c1) ∧ X.cell? ⟨B, 1, none⟩ = some (.slice z.p.a2 z.s.brks.length z.p.c2) ∧ X.cell? ⟨B, 2, none⟩ = some (.slice z.p.a3 z.s.loops.length z.p.c3) ∧ X.cell? ⟨B, 3, none⟩ = some (.slice z.p.a4 z.s.racks.length z.p.c4) ∧ X.cell? ⟨B, 4, none⟩ = some (.int .i64 z.s.sw) ∧ X.cell? ⟨B, 5, none⟩ = some (.slice z.p.a5 z.s.links.length z.p.c5) ∧ X.cell? ⟨B, 6, none⟩ = some (.slice z.p.a6 z.s.hosts.length z.p.c6) ∧ X.cell? ⟨B + 1, 0, none⟩ = some (.slice (some ⟨pb, po, none⟩) z.xs.length z.c) ∧ X.cell? ⟨B + 1 + 1, 0, none⟩ = some (.slice z.q.a1 z.d.hosts.length z.q.c1) ∧ X.cell? ⟨B + 1 + 1, 1, none⟩ = some (.slice z.q.a2 z.d.reps.length z.q.c2) ∧ X.cell? ⟨pb, po + k * 8, none⟩ = some (.int .i64 x.1.cores) ∧ X.cell? ⟨pb, po + k * 8 + 1, none⟩ = some (.int .i64 x.1.reps) ∧ X.cell? ⟨pb, po + k * 8 + 2, none⟩ = some (.int .i64 x.1.least) ∧ X.cell? ⟨pb, po + k * 8 + 3, none⟩ = some (.int .u8 (x.1.dom : Int)) ∧ X.cell? ⟨pb, po + k * 8 + 4, none⟩ = some (.int .i64 x.1.spread) ∧ X.cell? ⟨pb, po + k * 8 + 5, none⟩ = some (.slice x.2.a1 x.1.apart.length x.2.c1) ∧ X.cell? ⟨pb, po + k * 8 + 6, none⟩ = some (.slice x.2.a2 x.1.near.length x.2.c2) ∧ X.cell? ⟨pb, po + k * 8 + 7, none⟩ = some (.int .i64 x.1.fw)))
                  clear xcell
                  have HSK := Lib.hid (show l3 ++ bk2 6 (bnNea z.s z.ss z.d) (k + 1) = m ++ (x.1.near.filter (lonB z.s z.d wl)).map fun y => ⟨6, (k : Int), y.svc⟩ by rw [HSU.out]; unfold bnNea; rw [HSV.out, HWL.out, List.map_map]; rfl)
                  have HFL := Lib.hid (show (x.1.near.filter (lonB z.s z.d wl)).length ≤ 100 by
                    have h1 := nea_len HOK.out k hlt
                    unfold bnNea at h1; rw [List.length_map] at h1
                    rw [HSV.out, HWL.out] at h1; exact h1)
                  obtain ⟨f0, f1, f2, f3, f4, f5, f6, g0, g1, g2, x0, x1, x2, x3, x4, x5, x6, x7⟩ := HC.out wr HKwr.out
                  have hsv := (HZ.out W HKW.out).wi.each x HXM.out
                  have hcap := hsv.near.1
                  have hcap2 := hsv.near.2.1
                  unfold maxLen at hcap2
                  have HROW := Lib.hid (fun (X : World) (hX : Below W.heap.size W X) => hsv.near.on hX (Nat.le_refl _))
                  clear hsv
                  clear e7
                  go_wp2_with (fail)
                  clear f0 f1 f2 f3 f4 f5 f6 g0 g1 g2 x0 x1 x2 x3 x4 x5 x6 x7
                  go_loopw [7, 17] (fun v i wr => ∃ q : Nat, q ≤ x.1.near.length ∧ i = .int .i64 (q : Int) ∧ Hid (Below W.heap.size W wr) ∧ Hid (Ow W.heap.size v (m ++ ((x.1.near.take q).filter (lonB z.s z.d wl)).map fun y => ⟨6, (k : Int), y.svc⟩) wr)) (fun _ i _ => x.1.near.length - (intOf i).toNat)
                  case atStart => exact ⟨0, Nat.zero_le _, rfl, HKwr, Lib.hid (by simp only [List.take_zero, List.filter_nil, List.map_nil, List.append_nil]; exact OWwr.out)⟩
                  case round =>
                    obtain ⟨q, hq, rfl, HKwr, OWwr⟩ := hrel
                    have hqi : ((q : Nat) : Int).toNat = q := by omega
                    by_cases hql : q < x.1.near.length
                    · obtain ⟨y, hy⟩ : ∃ y, x.1.near[q]? = some y := ⟨_, List.getElem?_eq_getElem hql⟩
                      have hqi2 : (q : Int) < ((x.1.near.length : Nat) : Int) := by omega
                      obtain ⟨mm, hmm⟩ : ∃ mm, m ++ ((x.1.near.take q).filter (lonB z.s z.d wl)).map (fun y => (⟨6, (k : Int), y.svc⟩ : Bn)) = mm := ⟨_, rfl⟩
                      obtain ⟨b, hb⟩ : ∃ b, (lonB z.s z.d wl) y = b := ⟨_, rfl⟩
                      have HSI := Lib.hid (show m ++ ((x.1.near.take (q + 1)).filter (lonB z.s z.d wl)).map (fun y => (⟨6, (k : Int), y.svc⟩ : Bn)) = addL mm b ⟨6, (k : Int), y.svc⟩ by
                        rw [filt_take hy, List.map_append, ← List.append_assoc, hmm, hb]
                        unfold addL
                        congr 1
                        cases b <;> rfl)
                      have HML := Lib.hid (show mm.length ≤ 10000 by
                        rw [← hmm, List.length_append, List.length_map]
                        have h1 := List.Sublist.length_le ((List.take_sublist q x.1.near).filter (lonB z.s z.d wl))
                        have := HFL.out; have := HML0.out; omega)
                      rw [hmm] at OWwr
                      have HBB := Lib.hid hb
                      clear hmm hb
                      obtain ⟨ab, ao, ea, -, -⟩ := (HROW.out W HKW.out).at_ hy
                      have ycell : ∀ X, Below W.heap.size W X → X.cell? ⟨ab, ao + q * 2, none⟩ = some (.int .i64 y.svc) ∧ X.cell? ⟨ab, ao + q * 2 + 1, none⟩ = some (.int .i64 y.lat) := fun X hX => by
                        have h := HROW.out X hX
                        rw [ea] at h
                        exact near_at h hy
                      have HS := Lib.hid (fun (X : World) (hX : Below W.heap.size W X) => (by
                        obtain ⟨f0, f1, f2, f3, f4, f5, f6, g0, g1, g2, x0, x1, x2, x3, x4, x5, x6, x7⟩ := HC.out X hX
                        exact ⟨f0, f1, f2, f3, f4, f5, f6, g0, g1, g2, ycell X hX⟩ : X.cell? ⟨B, 0, none⟩ = some (.slice z.p.a1 z.s.feeds.length z.p.c1) ∧ X.cell? ⟨B, 1, none⟩ = some (.slice z.p.a2 z.s.brks.length z.p.c2) ∧ X.cell? ⟨B, 2, none⟩ = some (.slice z.p.a3 z.s.loops.length z.p.c3) ∧ X.cell? ⟨B, 3, none⟩ = some (.slice z.p.a4 z.s.racks.length z.p.c4) ∧ X.cell? ⟨B, 4, none⟩ = some (.int .i64 z.s.sw) ∧ X.cell? ⟨B, 5, none⟩ = some (.slice z.p.a5 z.s.links.length z.p.c5) ∧ X.cell? ⟨B, 6, none⟩ = some (.slice z.p.a6 z.s.hosts.length z.p.c6) ∧ X.cell? ⟨B + 1, 0, none⟩ = some (.slice (some ⟨pb, po, none⟩) z.xs.length z.c) ∧ X.cell? ⟨B + 1 + 1, 0, none⟩ = some (.slice z.q.a1 z.d.hosts.length z.q.c1) ∧ X.cell? ⟨B + 1 + 1, 1, none⟩ = some (.slice z.q.a2 z.d.reps.length z.q.c2) ∧ X.cell? ⟨ab, ao + q * 2, none⟩ = some (.int .i64 y.svc) ∧ X.cell? ⟨ab, ao + q * 2 + 1, none⟩ = some (.int .i64 y.lat)))
                      clear ycell
                      obtain ⟨f0, f1, f2, f3, f4, f5, f6, g0, g1, g2, y0, y1⟩ := HS.out wr HKwr.out
                      rw [ea]
                      clear hy
                      go_wp2_with (fail)
                      clear f0 f1 f2 f3 f4 f5 f6 g0 g1 g2 y0 y1
                      go_region_held3 (fun X => X.cell? ⟨B, 0, none⟩ = some (.slice z.p.a1 z.s.feeds.length z.p.c1) ∧ X.cell? ⟨B, 1, none⟩ = some (.slice z.p.a2 z.s.brks.length z.p.c2) ∧ X.cell? ⟨B, 2, none⟩ = some (.slice z.p.a3 z.s.loops.length z.p.c3) ∧ X.cell? ⟨B, 3, none⟩ = some (.slice z.p.a4 z.s.racks.length z.p.c4) ∧ X.cell? ⟨B, 4, none⟩ = some (.int .i64 z.s.sw) ∧ X.cell? ⟨B, 5, none⟩ = some (.slice z.p.a5 z.s.links.length z.p.c5) ∧ X.cell? ⟨B, 6, none⟩ = some (.slice z.p.a6 z.s.hosts.length z.p.c6) ∧ X.cell? ⟨B + 1, 0, none⟩ = some (.slice (some ⟨pb, po, none⟩) z.xs.length z.c) ∧ X.cell? ⟨B + 1 + 1, 0, none⟩ = some (.slice z.q.a1 z.d.hosts.length z.q.c1) ∧ X.cell? ⟨B + 1 + 1, 1, none⟩ = some (.slice z.q.a2 z.d.reps.length z.q.c2) ∧ X.cell? ⟨ab, ao + q * 2, none⟩ = some (.int .i64 y.svc) ∧ X.cell? ⟨ab, ao + q * 2 + 1, none⟩ = some (.int .i64 y.lat))
                        (first | exact HS.out v462 HKv462.out | exact HS.out v461 HKv461.out | exact HS.out wr HKwr.out | fail)
                        (first
                          | (go_at_call 65; (with_reducible refine (c_lonely z HOK.out (k : Int) y wl HWL.out (by omega) b HBB.out wr.drew (HZ.out _ HKwr.out.drew)).mono ?_); rintro e v461 ⟨rfl, bb0⟩; have bb := below_join (Below.refl wr.heap.size wr).drew bb0 (Nat.le_refl _); have HKv461 := Lib.hid (below_join HKwr.out bb HKwr.out.size); have OWv461 := Lib.hid (OWwr.out.on bb (Nat.le_refl _)); clear bb bb0)
                          | (go_at_call 59; (with_reducible refine (c_add W.heap.size _ mm b 6 6 rfl (k : Int) (y.svc) HML.out v461 OWv461.out).mono ?_); rintro e v462 ⟨vv, rfl, ow, bb0, fr⟩; have HKv462 := Lib.hid (HKv461.out.trans bb0); have OWv462 := Lib.hid ow; clear bb0 ow fr)
                          | fail)
                      go_wp2_with (fail)
                      go_roundw
                      case rel => exact ⟨q + 1, by omega, by go_num, HKv462, Lib.hid (by rw [HSI.out]; exact OWv462.out)⟩
                      case measure => simp only [intOf]; omega
                    · obtain rfl : q = x.1.near.length := by omega
                      have OWX := Lib.hid (show Ow W.heap.size _ (l3 ++ bk2 6 (bnNea z.s z.ss z.d) (k + 1)) wr by
                        have := OWwr.out
                        rw [List.take_length] at this
                        rw [HSK.out]; exact this)
                      go_wp2_with (fail)
                      go_roundw
                      case rel => exact ⟨k + 1, by omega, by go_num, HKwr, OWX⟩
                      case measure => simp only [intOf]; omega
                · obtain rfl : k = z.xs.length := by omega
                  obtain ⟨l4, hl4⟩ : ∃ l, l3 ++ bk2 6 (bnNea z.s z.ss z.d) z.xs.length = l := ⟨_, rfl⟩
                  have HL4 := Lib.hid hl4
                  have hnl4 : l4.length ≤ l3.length + 800 := by
                    rw [← hl4, List.length_append]
                    have h1 := bk2_len 6 100 (bnNea z.s z.ss z.d) (z.xs.length) (fun i hi => nea_len HOK.out i hi)
                    omega
                  rw [hl4] at OWwr
                  clear hl4
                  obtain ⟨W93, hW9⟩ : ∃ W9, wr = W9 := ⟨_, rfl⟩
                  rw [hW9] at HKwr OWwr
                  rw [hW9]
                  have HK4 := HKwr
                  have OW4 := OWwr
                  clear hW9 HKwr OWwr
                  obtain ⟨f0, f1, f2, f3, f4, f5, f6, g0, g1, g2⟩ := HF.out W93 HK4.out
                  go_wp2_with (fail)
                  clear f0 f1 f2 f3 f4 f5 f6 g0 g1 g2
                  go_loopw [7, 18] (fun v i wr => ∃ k : Nat, k ≤ z.xs.length ∧ i = .int .i64 (k : Int) ∧ Hid (Below W.heap.size W wr) ∧ Hid (Ow W.heap.size v (l4 ++ bk2 7 (bnFrm z.ss z.d) k) wr)) (fun _ i _ => z.xs.length - (intOf i).toNat)
                  case atStart => exact ⟨0, Nat.zero_le _, rfl, HK4, Lib.hid (by rw [bk2_zero, List.append_nil]; exact OW4.out)⟩
                  case round =>
                    obtain ⟨k, hk, rfl, HKwr, OWwr⟩ := hrel
                    have hki : ((k : Nat) : Int).toNat = k := by omega
                    by_cases hlt : k < z.xs.length
                    · obtain ⟨x, hx⟩ : ∃ x, z.xs[k]? = some x := ⟨_, List.getElem?_eq_getElem hlt⟩
                      have hki2 : (k : Int) < (z.xs.length : Int) := by omega
                      obtain ⟨m, hm⟩ : ∃ m, l4 ++ bk2 7 (bnFrm z.ss z.d) k = m := ⟨_, rfl⟩
                      have HSV := Lib.hid (svAt_eq (show z.ss[k]? = some x.1 from svs_at hx))
                      have HSU := Lib.hid (show l4 ++ bk2 7 (bnFrm z.ss z.d) (k + 1) = m ++ ((bnFrm z.ss z.d) k).map fun y => ⟨7, (k : Int), y⟩ by rw [bk2_succ, ← List.append_assoc, hm])
                      have HML0 := Lib.hid (show m.length ≤ 6000 by
                        rw [← hm, List.length_append]
                        have h1 := bk2_len 7 100 (bnFrm z.ss z.d) k (fun i hi => frm_len HOK.out i (by omega))
                        omega)
                      rw [hm] at OWwr
                      clear hm
                      obtain ⟨pb, po, e7, hpb, x0, x1, x2, x3, x4, x5, x6, x7⟩ := sv_of (HZ.out W HKW.out) hx
                      have HXM := Lib.hid (List.mem_of_getElem? hx)
                      have xcell : ∀ X, Below W.heap.size W X → (X.cell? ⟨pb, po + k * 8, none⟩ = some (.int .i64 x.1.cores) ∧ X.cell? ⟨pb, po + k * 8 + 1, none⟩ = some (.int .i64 x.1.reps) ∧ X.cell? ⟨pb, po + k * 8 + 2, none⟩ = some (.int .i64 x.1.least) ∧ X.cell? ⟨pb, po + k * 8 + 3, none⟩ = some (.int .u8 (x.1.dom : Int)) ∧ X.cell? ⟨pb, po + k * 8 + 4, none⟩ = some (.int .i64 x.1.spread) ∧ X.cell? ⟨pb, po + k * 8 + 5, none⟩ = some (.slice x.2.a1 x.1.apart.length x.2.c1) ∧ X.cell? ⟨pb, po + k * 8 + 6, none⟩ = some (.slice x.2.a2 x.1.near.length x.2.c2) ∧ X.cell? ⟨pb, po + k * 8 + 7, none⟩ = some (.int .i64 x.1.fw)) := fun X hX => ⟨(hX.cell (p := ⟨pb, po + k * 8, none⟩) hpb).trans x0, (hX.cell (p := ⟨pb, po + k * 8 + 1, none⟩) hpb).trans x1, (hX.cell (p := ⟨pb, po + k * 8 + 2, none⟩) hpb).trans x2, (hX.cell (p := ⟨pb, po + k * 8 + 3, none⟩) hpb).trans x3, (hX.cell (p := ⟨pb, po + k * 8 + 4, none⟩) hpb).trans x4, (hX.cell (p := ⟨pb, po + k * 8 + 5, none⟩) hpb).trans x5, (hX.cell (p := ⟨pb, po + k * 8 + 6, none⟩) hpb).trans x6, (hX.cell (p := ⟨pb, po + k * 8 + 7, none⟩) hpb).trans x7⟩
                      obtain ⟨wl, hwl⟩ : ∃ wl, whereD z.d.reps (k : Int) = wl := ⟨_, rfl⟩
                      have HWL := Lib.hid hwl
                      have hwn : wl.length ≤ 100 := by rw [← hwl]; exact Nat.le_trans (where_len _ _) (by omega)
                      clear hwl x0 x1 x2 x3 x4 x5 x6 x7 hx
                      have HC := Lib.hid (fun (X : World) (hX : Below W.heap.size W X) => (by
                        obtain ⟨f0, f1, f2, f3, f4, f5, f6, g0, g1, g2⟩ := HF.out X hX
                        rw [e7] at g0
                        exact ⟨f0, f1, f2, f3, f4, f5, f6, g0, g1, g2, xcell X hX⟩ : X.cell? ⟨B, 0, none⟩ = some (.slice z.p.a1 z.s.feeds.length z.p.c1) ∧ X.cell? ⟨B, 1, none⟩ = some (.slice z.p.a2 z.s.brks.length z.p.c2) ∧ X.cell? ⟨B, 2, none⟩ = some (.slice z.p.a3 z.s.loops.length z.p.c3) ∧ X.cell? ⟨B, 3, none⟩ = some (.slice z.p.a4 z.s.racks.length z.p.c4) ∧ X.cell? ⟨B, 4, none⟩ = some (.int .i64 z.s.sw) ∧ X.cell? ⟨B, 5, none⟩ = some (.slice z.p.a5 z.s.links.length z.p.c5) ∧ X.cell? ⟨B, 6, none⟩ = some (.slice z.p.a6 z.s.hosts.length z.p.c6) ∧ X.cell? ⟨B + 1, 0, none⟩ = some (.slice (some ⟨pb, po, none⟩) z.xs.length z.c) ∧ X.cell? ⟨B + 1 + 1, 0, none⟩ = some (.slice z.q.a1 z.d.hosts.length z.q.c1) ∧ X.cell? ⟨B + 1 + 1, 1, none⟩ = some (.slice z.q.a2 z.d.reps.length z.q.c2) ∧ X.cell? ⟨pb, po + k * 8, none⟩ = some (.int .i64 x.1.cores) ∧ X.cell? ⟨pb, po + k * 8 + 1, none⟩ = some (.int .i64 x.1.reps) ∧ X.cell? ⟨pb, po + k * 8 + 2, none⟩ = some (.int .i64 x.1.least) ∧ X.cell? ⟨pb, po + k * 8 + 3, none⟩ = some (.int .u8 (x.1.dom : Int)) ∧ X.cell? ⟨pb, po + k * 8 + 4, none⟩ = some (.int .i64 x.1.spread) ∧ X.cell? ⟨pb, po + k * 8 + 5, none⟩ = some (.slice x.2.a1 x.1.apart.length x.2.c1) ∧ X.cell? ⟨pb, po + k * 8 + 6, none⟩ = some (.slice x.2.a2 x.1.near.length x.2.c2) ∧ X.cell? ⟨pb, po + k * 8 + 7, none⟩ = some (.int .i64 x.1.fw)))
                      clear xcell
                      have HSK := Lib.hid (show l4 ++ bk2 7 (bnFrm z.ss z.d) (k + 1) = m ++ (wl.filter (fun h => decide (fwAt z.d h < x.1.fw))).map fun y => ⟨7, (k : Int), y⟩ by rw [HSU.out]; unfold bnFrm; rw [HSV.out, HWL.out])
                      obtain ⟨f0, f1, f2, f3, f4, f5, f6, g0, g1, g2, x0, x1, x2, x3, x4, x5, x6, x7⟩ := HC.out wr HKwr.out
                      clear e7
                      go_wp2_with (fail)
                      clear f0 f1 f2 f3 f4 f5 f6 g0 g1 g2 x0 x1 x2 x3 x4 x5 x6 x7
                      go_at_call 66
                      refine (c_wrWhereTo z (k : Int) wl HWL.out (by omega) wr (HZ.out wr HKwr.out)).mono ?_
                      rintro e v1 ⟨A1, q1, rfl, ho, bb⟩
                      have HKv1 := Lib.hid (below_join HKwr.out bb HKwr.out.size)
                      have OWv1 := Lib.hid (OWwr.out.on bb (Nat.le_refl _))
                      have RKv1 := Lib.hid (show Rwk _ A1 q1 wl v1 from rk_new OWwr.out ho)
                      clear ho bb
                      go_wp2_with (fail)
                      go_loopw [7, 20] (fun v i wr => ∃ q : Nat, q ≤ wl.length ∧ i = .int .i64 (q : Int) ∧ Hid (Below W.heap.size W wr) ∧ Hid (Ow W.heap.size v (m ++ ((wl.take q).filter (fun h => decide (fwAt z.d h < x.1.fw))).map fun y => ⟨7, (k : Int), y⟩) wr) ∧ Hid (Rwk v A1 q1 wl wr)) (fun _ i _ => wl.length - (intOf i).toNat)
                      case atStart => exact ⟨0, Nat.zero_le _, rfl, HKv1, Lib.hid (by simp only [List.take_zero, List.filter_nil, List.map_nil, List.append_nil]; exact OWv1.out), RKv1⟩
                      case round =>
                        obtain ⟨q, hq, rfl, HKwr, OWwr, RKwr⟩ := hrel
                        have hqi : ((q : Nat) : Int).toNat = q := by omega
                        by_cases hql : q < wl.length
                        · obtain ⟨y, hy⟩ : ∃ y, wl[q]? = some y := ⟨_, List.getElem?_eq_getElem hql⟩
                          have hqi2 : (q : Int) < ((wl.length : Nat) : Int) := by omega
                          have hyin := where_in (s := (k : Int)) HOK.out (h := y) (by rw [HWL.out]; exact List.mem_of_getElem? hy)
                          obtain ⟨hn, hhn⟩ : ∃ hn : Nat, y = (hn : Int) := ⟨y.toNat, by omega⟩
                          subst hhn
                          have hnn2 : hn < z.d.hosts.length := by omega
                          have hni : ((hn : Nat) : Int).toNat = hn := by omega
                          have hni2 : (hn : Int) < (z.d.hosts.length : Int) := hyin.2
                          obtain ⟨qb, qo, eq, hqb, c1⟩ := fw_at (HZ.out W HKW.out) hnn2
                          obtain ⟨fw, hfw⟩ : ∃ fw, fwAt z.d (hn : Int) = fw := ⟨_, rfl⟩
                          rw [hfw] at c1
                          obtain ⟨b, hb⟩ : ∃ b, decide (fw < x.1.fw) = b := ⟨_, rfl⟩
                          obtain ⟨mm, hmm⟩ : ∃ mm, m ++ ((wl.take q).filter (fun h => decide (fwAt z.d h < x.1.fw))).map (fun y => (⟨7, (k : Int), y⟩ : Bn)) = mm := ⟨_, rfl⟩
                          have HSI := Lib.hid (show m ++ ((wl.take (q + 1)).filter (fun h => decide (fwAt z.d h < x.1.fw))).map (fun y => (⟨7, (k : Int), y⟩ : Bn)) = addL mm b ⟨7, (k : Int), (hn : Int)⟩ by
                            rw [filt_take hy, List.map_append, ← List.append_assoc, hmm]
                            simp only [hfw, hb]
                            unfold addL
                            congr 1
                            cases b <;> rfl)
                          have HML := Lib.hid (show mm.length ≤ 10000 by
                            rw [← hmm, List.length_append, List.length_map]
                            have h1 := List.length_filter_le (fun h => decide (fwAt z.d h < x.1.fw)) (wl.take q)
                            rw [List.length_take] at h1
                            have := HML0.out; omega)
                          rw [hmm] at OWwr
                          obtain ⟨ab, ao, ea, -, -⟩ := (own_rwA RKwr.out.row).at_ hy
                          have HS := Lib.hid (fun (X : World) (v : Value) (hX : Below W.heap.size W X) (hR : Rwk v A1 q1 wl X) => (by
                            obtain ⟨f0, f1, f2, f3, f4, f5, f6, g0, g1, g2, x0, x1, x2, x3, x4, x5, x6, x7⟩ := HC.out X hX
                            rw [eq] at g1
                            have hr := own_rwA hR.row
                            rw [ea] at hr
                            exact ⟨f0, f1, f2, f3, f4, f5, f6, g0, g1, g2, x7, (hX.cell (p := ⟨qb, qo + hn * 2 + 1, none⟩) hqb).trans c1, inRw hr hy⟩ : X.cell? ⟨B, 0, none⟩ = some (.slice z.p.a1 z.s.feeds.length z.p.c1) ∧ X.cell? ⟨B, 1, none⟩ = some (.slice z.p.a2 z.s.brks.length z.p.c2) ∧ X.cell? ⟨B, 2, none⟩ = some (.slice z.p.a3 z.s.loops.length z.p.c3) ∧ X.cell? ⟨B, 3, none⟩ = some (.slice z.p.a4 z.s.racks.length z.p.c4) ∧ X.cell? ⟨B, 4, none⟩ = some (.int .i64 z.s.sw) ∧ X.cell? ⟨B, 5, none⟩ = some (.slice z.p.a5 z.s.links.length z.p.c5) ∧ X.cell? ⟨B, 6, none⟩ = some (.slice z.p.a6 z.s.hosts.length z.p.c6) ∧ X.cell? ⟨B + 1, 0, none⟩ = some (.slice (some ⟨pb, po, none⟩) z.xs.length z.c) ∧ X.cell? ⟨B + 1 + 1, 0, none⟩ = some (.slice (some ⟨qb, qo, none⟩) z.d.hosts.length z.q.c1) ∧ X.cell? ⟨B + 1 + 1, 1, none⟩ = some (.slice z.q.a2 z.d.reps.length z.q.c2) ∧ X.cell? ⟨pb, po + k * 8 + 7, none⟩ = some (.int .i64 x.1.fw) ∧ X.cell? ⟨qb, qo + hn * 2 + 1, none⟩ = some (.int .i64 fw) ∧ X.cell? ⟨ab, ao + q, none⟩ = some (.int .i64 (hn : Int))))
                          obtain ⟨f0, f1, f2, f3, f4, f5, f6, g0, g1, g2, y0, y1, y2⟩ := HS.out wr _ HKwr.out RKwr.out
                          rw [ea]
                          clear hmm hfw c1 eq hyin hy
                          go_wp2_with (fail)
                          clear f0 f1 f2 f3 f4 f5 f6 g0 g1 g2 y0 y1 y2
                          go_region_held3 (fun X => X.cell? ⟨B, 0, none⟩ = some (.slice z.p.a1 z.s.feeds.length z.p.c1) ∧ X.cell? ⟨B, 1, none⟩ = some (.slice z.p.a2 z.s.brks.length z.p.c2) ∧ X.cell? ⟨B, 2, none⟩ = some (.slice z.p.a3 z.s.loops.length z.p.c3) ∧ X.cell? ⟨B, 3, none⟩ = some (.slice z.p.a4 z.s.racks.length z.p.c4) ∧ X.cell? ⟨B, 4, none⟩ = some (.int .i64 z.s.sw) ∧ X.cell? ⟨B, 5, none⟩ = some (.slice z.p.a5 z.s.links.length z.p.c5) ∧ X.cell? ⟨B, 6, none⟩ = some (.slice z.p.a6 z.s.hosts.length z.p.c6) ∧ X.cell? ⟨B + 1, 0, none⟩ = some (.slice (some ⟨pb, po, none⟩) z.xs.length z.c) ∧ X.cell? ⟨B + 1 + 1, 0, none⟩ = some (.slice (some ⟨qb, qo, none⟩) z.d.hosts.length z.q.c1) ∧ X.cell? ⟨B + 1 + 1, 1, none⟩ = some (.slice z.q.a2 z.d.reps.length z.q.c2) ∧ X.cell? ⟨pb, po + k * 8 + 7, none⟩ = some (.int .i64 x.1.fw) ∧ X.cell? ⟨qb, qo + hn * 2 + 1, none⟩ = some (.int .i64 fw) ∧ X.cell? ⟨ab, ao + q, none⟩ = some (.int .i64 (hn : Int)))
                            (first | exact HS.out v501 _ HKv501.out RKv501.out | exact HS.out wr _ HKwr.out RKwr.out | fail)
                            (first
                              | (go_at_call 59; (with_reducible refine (c_add W.heap.size _ mm b 7 7 rfl (k : Int) (hn : Int) HML.out wr.drew (OWwr.out.on (Below.refl wr.heap.size wr).drew (Nat.le_refl _))).mono ?_); rintro e v501 ⟨vv, rfl, ow, bb0, fr⟩; have HKv501 := Lib.hid (HKwr.out.drew.trans bb0); have OWv501 := Lib.hid ow; have RKv501 := Lib.hid ((RKwr.out.on (Below.refl wr.heap.size wr).drew (Nat.le_refl _)).add fr); clear bb0 ow fr)
                              | fail)
                          go_wp2_with (fail)
                          go_roundw
                          case rel => exact ⟨q + 1, by omega, by go_num, HKv501, Lib.hid (by rw [HSI.out]; exact OWv501.out), Lib.hid (by rw [← ea]; exact RKv501.out)⟩
                          case measure => simp only [intOf]; omega
                        · obtain rfl : q = wl.length := by omega
                          have OWX := Lib.hid (show Ow W.heap.size _ (l4 ++ bk2 7 (bnFrm z.ss z.d) (k + 1)) wr by
                            have := OWwr.out
                            rw [List.take_length] at this
                            rw [HSK.out]; exact this)
                          go_wp2_with (fail)
                          go_roundw
                          case rel => exact ⟨k + 1, by omega, by go_num, HKwr, OWX⟩
                          case measure => simp only [intOf]; omega
                    · obtain rfl : k = z.xs.length := by omega
                      obtain ⟨l5, hl5⟩ : ∃ l, l4 ++ bk2 7 (bnFrm z.ss z.d) z.xs.length = l := ⟨_, rfl⟩
                      have HL5 := Lib.hid hl5
                      have hnl5 : l5.length ≤ l4.length + 800 := by
                        rw [← hl5, List.length_append]
                        have h1 := bk2_len 7 100 (bnFrm z.ss z.d) (z.xs.length) (fun i hi => frm_len HOK.out i hi)
                        omega
                      rw [hl5] at OWwr
                      clear hl5
                      obtain ⟨W94, hW9⟩ : ∃ W9, wr = W9 := ⟨_, rfl⟩
                      rw [hW9] at HKwr OWwr
                      rw [hW9]
                      have HK5 := HKwr
                      have OW5 := OWwr
                      clear hW9 HKwr OWwr
                      obtain ⟨f0, f1, f2, f3, f4, f5, f6, g0, g1, g2⟩ := HF.out W94 HK5.out
                      have HLL := Lib.hid (show l5 = (((bnK z.s z.ss z.d 3 ++ bnK z.s z.ss z.d 4) ++ bnK z.s z.ss z.d 5) ++ bnK z.s z.ss z.d 6) ++ bnK z.s z.ss z.d 7 by
                        simp only [bnK]
                        rw [show z.ss.length = z.xs.length from svs_len _, ← HL5.out, ← HL4.out, ← HL3.out, ← HL2.out, ← HL1.out, ← HL0.out]
                        rfl)
                      go_wp2_with (fail)
                      go_ret
                      exact ⟨_, rfl, ⟨own_mono (by have h := OW5.out.row; rw [HLL.out] at h; exact h) hle, Nat.le_trans hle OW5.out.le⟩, below_join HB.out HK5.out hle⟩

end Go.Proofs.YtbbadnlaelgmlaaGreat

namespace Go.Proofs.YtbbadnlaelgmlaaGreat
open Go.RowKit
set_option maxRecDepth 100000
set_option linter.unusedVariables false
set_option linter.unusedSimpArgs false

theorem bn_all {z : Sn} : ((bnK z.s z.ss z.d 1 ++ bnK z.s z.ss z.d 2) ++ ((((bnK z.s z.ss z.d 3 ++ bnK z.s z.ss z.d 4) ++ bnK z.s z.ss z.d 5) ++ bnK z.s z.ss z.d 6) ++ bnK z.s z.ss z.d 7)) ++ ((bnK z.s z.ss z.d 8 ++ bnK z.s z.ss z.d 9) ++ bnK z.s z.ss z.d 10) = bnTo z.s z.ss z.d 10 := by
  have hz : bnTo z.s z.ss z.d 0 = [] := rfl
  simp only [bnTo_succ, hz, List.nil_append, List.append_assoc, Nat.zero_add, Nat.reduceAdd]
set_option maxHeartbeats 16000000 in
theorem c_irBroken (z : Sn) (r : Bool) (hr : r = true ↔ z.Ok) (L : List Bn) (hL : bnV z.s z.ss z.d r = L) (w : World) (hz : SnAt w z) :
    Calls Tryz.prog 14 #[.agg #[.slice z.p.a1 z.s.feeds.length z.p.c1, .slice z.p.a2 z.s.brks.length z.p.c2, .slice z.p.a3 z.s.loops.length z.p.c3, .slice z.p.a4 z.s.racks.length z.p.c4, .int .i64 z.s.sw, .slice z.p.a5 z.s.links.length z.p.c5, .slice z.p.a6 z.s.hosts.length z.p.c6], .agg #[.slice z.A z.xs.length z.c], .agg #[.slice z.q.a1 z.d.hosts.length z.q.c1, .slice z.q.a2 z.d.reps.length z.q.c2]] w fun e w' => ∃ A c, e = .returned (.slice A L.length c) ∧ Rv 3 bnF w' A c L ∧ Below w.heap.size w w' := by
  obtain ⟨W1, h1⟩ : ∃ W, W = w.alloc (.cells #[.slice z.p.a1 z.s.feeds.length z.p.c1, .slice z.p.a2 z.s.brks.length z.p.c2, .slice z.p.a3 z.s.loops.length z.p.c3, .slice z.p.a4 z.s.racks.length z.p.c4, .int .i64 z.s.sw, .slice z.p.a5 z.s.links.length z.p.c5, .slice z.p.a6 z.s.hosts.length z.p.c6] 29) := ⟨_, rfl⟩
  obtain ⟨W2, h2⟩ : ∃ W, W = W1.alloc (.cells #[.slice z.A z.xs.length z.c] 32) := ⟨_, rfl⟩
  obtain ⟨W, h3⟩ : ∃ W, W = W2.alloc (.cells #[.slice z.q.a1 z.d.hosts.length z.q.c1, .slice z.q.a2 z.d.reps.length z.q.c2] 36) := ⟨_, rfl⟩
  obtain ⟨B0, X1⟩ := sn_boxes h1 h2 h3
  have z3 : W.heap.size = w.heap.size + 1 + 1 + 1 := sn_size h1 h2 h3
  have HB := Lib.hid B0
  have Z0 := hz.on B0 (Nat.le_refl _)
  have HZ := Lib.hid (fun (X : World) (hX : Below W.heap.size W X) => Z0.on hX (Nat.le_refl _))
  have HF := Lib.hid (fun (X : World) (hX : Below W.heap.size W X) => ((X1.on hX (Nat.le_refl _)).cells : X.cell? ⟨w.heap.size, 0, none⟩ = some (.slice z.p.a1 z.s.feeds.length z.p.c1) ∧ X.cell? ⟨w.heap.size, 1, none⟩ = some (.slice z.p.a2 z.s.brks.length z.p.c2) ∧ X.cell? ⟨w.heap.size, 2, none⟩ = some (.slice z.p.a3 z.s.loops.length z.p.c3) ∧ X.cell? ⟨w.heap.size, 3, none⟩ = some (.slice z.p.a4 z.s.racks.length z.p.c4) ∧ X.cell? ⟨w.heap.size, 4, none⟩ = some (.int .i64 z.s.sw) ∧ X.cell? ⟨w.heap.size, 5, none⟩ = some (.slice z.p.a5 z.s.links.length z.p.c5) ∧ X.cell? ⟨w.heap.size, 6, none⟩ = some (.slice z.p.a6 z.s.hosts.length z.p.c6) ∧ X.cell? ⟨w.heap.size + 1, 0, none⟩ = some (.slice z.A z.xs.length z.c) ∧ X.cell? ⟨w.heap.size + 1 + 1, 0, none⟩ = some (.slice z.q.a1 z.d.hosts.length z.q.c1) ∧ X.cell? ⟨w.heap.size + 1 + 1, 1, none⟩ = some (.slice z.q.a2 z.d.reps.length z.q.c2)))
  have HX := Lib.hid (fun (X : World) (hX : Below W.heap.size W X) => X1.on hX (Nat.le_refl _))
  have HKW := Lib.hid (Below.refl W.heap.size W)
  have hle := HB.out.size
  obtain ⟨n1, n2, n3, n4, n5, n6, n7, n8⟩ := hz.bounds
  have HR := Lib.hid hr
  have HLL := Lib.hid hL
  clear hr hL
  clear hz B0 X1 z3 Z0
  obtain ⟨f0, f1, f2, f3, f4, f5, f6, g0, g1, g2⟩ := HF.out W HKW.out
  rw [h3, h2, h1] at f0 f1 f2 f3 f4 f5 f6 g0 g1 g2
  generalize hBB : w.heap.size = B at *
  go_enter Tryz.func14, Tryz.ntmps14
  go_wp2_with (fail)
  rw [← h1, ← h2, ← h3]
  clear h1 h2 h3 f0 f1 f2 f3 f4 f5 f6 g0 g1 g2
  go_at_call 21
  refine (c_wvTo z r HR.out W (HZ.out W HKW.out)).mono ?_
  rintro e v1 ⟨rfl, bb⟩
  have HKv1 := Lib.hid (below_join HKW.out bb HKW.out.size)
  clear bb
  cases r
  · have HE := Lib.hid (show ([] : List Bn) = L from HLL.out)
    go_wp2_with (fail)
    go_ret
    exact ⟨none, 0, by rw [← HE.out]; rfl, by rw [← HE.out]; exact Rv.nil _, below_join HB.out HKv1.out hle⟩
  have HOK := Lib.hid (HR.out.1 rfl)
  have HE := Lib.hid (show bnTo z.s z.ss z.d 10 = L from HLL.out)
  obtain ⟨b1, b2, b3, b4, b5, b6, b7, b8, b9, b10⟩ := bnK_len HOK.out
  obtain ⟨l1, hl1⟩ : ∃ l, bnK z.s z.ss z.d 1 ++ bnK z.s z.ss z.d 2 = l := ⟨_, rfl⟩
  obtain ⟨l2, hl2⟩ : ∃ l, (((bnK z.s z.ss z.d 3 ++ bnK z.s z.ss z.d 4) ++ bnK z.s z.ss z.d 5) ++ bnK z.s z.ss z.d 6) ++ bnK z.s z.ss z.d 7 = l := ⟨_, rfl⟩
  obtain ⟨l3, hl3⟩ : ∃ l, (bnK z.s z.ss z.d 8 ++ bnK z.s z.ss z.d 9) ++ bnK z.s z.ss z.d 10 = l := ⟨_, rfl⟩
  have HEE := Lib.hid (show (l1 ++ l2) ++ l3 = L by rw [← hl1, ← hl2, ← hl3, bn_all]; exact HE.out)
  have hc1 : l1.length ≤ 32 := by rw [← hl1, List.length_append]; omega
  have hc2 : l2.length ≤ 3208 := by rw [← hl2, List.length_append, List.length_append, List.length_append, List.length_append]; omega
  have hc3 : l3.length ≤ 16 := by rw [← hl3, List.length_append, List.length_append]; omega
  have C1 := Lib.hid (fun (X : World) (h : SnAt X z) => c_irHosts z HOK.out X h)
  have C2 := Lib.hid (fun (X : World) (h : SnAt X z) => c_irServices z HOK.out X h)
  have C3 := Lib.hid (fun (X : World) (h : SnAt X z) => c_irLoads z HOK.out X h)
  rw [hl1] at C1
  rw [hl2] at C2
  rw [hl3] at C3
  obtain ⟨i1, hi1, hz1, hz2, hz3⟩ := info_parts bn_info
  clear hl1 hl2 hl3 b1 b2 b3 b4 b5 b6 b7 b8 b9 b10
  obtain ⟨f0, f1, f2, f3, f4, f5, f6, g0, g1, g2⟩ := HF.out v1 HKv1.out
  go_wp2_with (fail)
  clear f0 f1 f2 f3 f4 f5 f6 g0 g1 g2
  go_at_call 30
  refine (C1.out v1 (HZ.out v1 HKv1.out)).mono ?_
  rintro e v2 ⟨vh, rfl, ow, bb⟩
  have HKv2 := Lib.hid (below_join HKv1.out bb HKv1.out.size)
  have OW2 := Lib.hid ow
  clear ow bb
  obtain ⟨f0, f1, f2, f3, f4, f5, f6, g0, g1, g2⟩ := HF.out v2 HKv2.out
  go_wp2_with (fail)
  clear f0 f1 f2 f3 f4 f5 f6 g0 g1 g2
  go_at_call 31
  refine (C2.out v2 (HZ.out v2 HKv2.out)).mono ?_
  rintro e v3 ⟨vs, rfl, ow, bb⟩
  have HKv3 := Lib.hid (below_join HKv2.out bb HKv2.out.size)
  have OL3 := Lib.hid (OW2.out.on bb (Nat.le_refl _)).row
  obtain ⟨A2, c2, rfl, hrv⟩ := own_rv (k := 3) (F := bnF) ow.row
  have RV3 := Lib.hid hrv
  have hA3 : A2 = none → l2.length = 0 ∧ c2 = 0 := fun h => by have h1 := RV3.out; rw [h] at h1; have := h1.none_nil; exact ⟨by rw [this.1]; rfl, this.2⟩
  have hbs3 : v1.heap.size ≤ v3.heap.size := Nat.le_trans OW2.out.le bb.size
  clear ow bb hrv
  obtain ⟨f0, f1, f2, f3, f4, f5, f6, g0, g1, g2⟩ := HF.out v3 HKv3.out
  go_wp2_with (at_builtin; refine wpList_append_any _ rfl _ _ 40 rfl v1.heap.size 44 i1 (.agg #[.int .u8 0, .int .i64 0, .int .i64 0]) 3 24 Tryz.underlying40 hi1 hz1 hz2 hz3 rfl (by omega) _ _ _ rfl OL3.out A2 l2.length c2 (cellsV 3 bnF l2) rfl hA3 (cellsV_len _) (RV3.out.cells (by omega)) (cellsV_one bnF_one _) (by unfold maxLen; omega) (by omega) hbs3 ?_)
  intro v4 w4 hown hgrow
  have HK4 := Lib.hid (HKv3.out.grown hgrow HKv3.out.size (fun g hg => Nat.le_trans HKv1.out.size (ownsRow_lt OL3.out hg).1))
  have OL4 := Lib.hid (show w4.ownsRow v1.heap.size 44 3 v4 (l1 ++ l2).length (cellsV 3 bnF (l1 ++ l2)) by rw [cellsV_append, List.length_append]; exact hown)
  have hbs4 : v1.heap.size ≤ w4.heap.size := Nat.le_trans hbs3 hgrow.size
  clear hown hgrow f0 f1 f2 f3 f4 f5 f6 g0 g1 g2
  obtain ⟨l4, hl4⟩ : ∃ l, l1 ++ l2 = l := ⟨_, rfl⟩
  have hc4 : l4.length ≤ 3240 := by rw [← hl4, List.length_append]; omega
  rw [hl4] at OL4 HEE
  clear hl4
  obtain ⟨f0, f1, f2, f3, f4, f5, f6, g0, g1, g2⟩ := HF.out w4 HK4.out
  go_wp2_with (fail)
  clear f0 f1 f2 f3 f4 f5 f6 g0 g1 g2
  go_at_call 32
  refine (C3.out w4 (HZ.out w4 HK4.out)).mono ?_
  rintro e v5 ⟨vl, rfl, ow, bb⟩
  have HKv5 := Lib.hid (below_join HK4.out bb HK4.out.size)
  have OL5 := Lib.hid (own_on OL4.out bb (Nat.le_refl _))
  obtain ⟨A3, c3, rfl, hrv⟩ := own_rv (k := 3) (F := bnF) ow.row
  have RV5 := Lib.hid hrv
  have hA5 : A3 = none → l3.length = 0 ∧ c3 = 0 := fun h => by have h1 := RV5.out; rw [h] at h1; have := h1.none_nil; exact ⟨by rw [this.1]; rfl, this.2⟩
  have hbs5 : v1.heap.size ≤ v5.heap.size := Nat.le_trans hbs4 bb.size
  clear ow bb hrv
  go_wp2_with (at_builtin; refine wpList_append_any _ rfl _ _ 40 rfl v1.heap.size 44 i1 (.agg #[.int .u8 0, .int .i64 0, .int .i64 0]) 3 24 Tryz.underlying40 hi1 hz1 hz2 hz3 rfl (by omega) _ _ _ rfl OL5.out A3 l3.length c3 (cellsV 3 bnF l3) rfl hA5 (cellsV_len _) (RV5.out.cells (by omega)) (cellsV_one bnF_one _) (by unfold maxLen; omega) (by omega) hbs5 ?_)
  intro v6 w6 hown hgrow
  have HK6 := Lib.hid (HKv5.out.grown hgrow HKv5.out.size (fun g hg => Nat.le_trans HKv1.out.size (ownsRow_lt OL5.out hg).1))
  have OL6 := Lib.hid (show w6.ownsRow v1.heap.size 44 3 v6 L.length (cellsV 3 bnF L) by rw [← HEE.out, cellsV_append, List.length_append]; exact hown)
  clear hown hgrow
  go_wp2_with (fail)
  go_ret
  obtain ⟨A, c, rfl, hrv⟩ := own_rv (k := 3) (F := bnF) OL6.out
  exact ⟨A, c, rfl, hrv, below_join HB.out HK6.out hle⟩
theorem len0_iff (L : List Bn) : (((L.length : Nat) : Int) == 0) = decide (L = []) := by
  cases L with
  | nil => rfl
  | cons x l => rw [decide_eq_false (by simp), beq_eq_false_iff_ne]; simp only [List.length_cons]; omega
def holdV (z : Sn) (L : List Bn) (r : Bool) : Bool := r && decide (L = [])
set_option maxHeartbeats 16000000 in
theorem c_ivHolds (z : Sn) (r : Bool) (hr : r = true ↔ z.Ok) (L : List Bn) (hL : bnV z.s z.ss z.d r = L) (b : Bool) (hb : holdV z L r = b) (w : World) (hz : SnAt w z) :
    Calls Tryz.prog 15 #[.agg #[.slice z.p.a1 z.s.feeds.length z.p.c1, .slice z.p.a2 z.s.brks.length z.p.c2, .slice z.p.a3 z.s.loops.length z.p.c3, .slice z.p.a4 z.s.racks.length z.p.c4, .int .i64 z.s.sw, .slice z.p.a5 z.s.links.length z.p.c5, .slice z.p.a6 z.s.hosts.length z.p.c6], .agg #[.slice z.A z.xs.length z.c], .agg #[.slice z.q.a1 z.d.hosts.length z.q.c1, .slice z.q.a2 z.d.reps.length z.q.c2]] w fun e w' => e = .returned (.bool b) ∧ Below w.heap.size w w' := by
  obtain ⟨W1, h1⟩ : ∃ W, W = w.alloc (.cells #[.slice z.p.a1 z.s.feeds.length z.p.c1, .slice z.p.a2 z.s.brks.length z.p.c2, .slice z.p.a3 z.s.loops.length z.p.c3, .slice z.p.a4 z.s.racks.length z.p.c4, .int .i64 z.s.sw, .slice z.p.a5 z.s.links.length z.p.c5, .slice z.p.a6 z.s.hosts.length z.p.c6] 29) := ⟨_, rfl⟩
  obtain ⟨W2, h2⟩ : ∃ W, W = W1.alloc (.cells #[.slice z.A z.xs.length z.c] 32) := ⟨_, rfl⟩
  obtain ⟨W, h3⟩ : ∃ W, W = W2.alloc (.cells #[.slice z.q.a1 z.d.hosts.length z.q.c1, .slice z.q.a2 z.d.reps.length z.q.c2] 36) := ⟨_, rfl⟩
  obtain ⟨B0, X1⟩ := sn_boxes h1 h2 h3
  have z3 : W.heap.size = w.heap.size + 1 + 1 + 1 := sn_size h1 h2 h3
  have HB := Lib.hid B0
  have Z0 := hz.on B0 (Nat.le_refl _)
  have HZ := Lib.hid (fun (X : World) (hX : Below W.heap.size W X) => Z0.on hX (Nat.le_refl _))
  have HF := Lib.hid (fun (X : World) (hX : Below W.heap.size W X) => ((X1.on hX (Nat.le_refl _)).cells : X.cell? ⟨w.heap.size, 0, none⟩ = some (.slice z.p.a1 z.s.feeds.length z.p.c1) ∧ X.cell? ⟨w.heap.size, 1, none⟩ = some (.slice z.p.a2 z.s.brks.length z.p.c2) ∧ X.cell? ⟨w.heap.size, 2, none⟩ = some (.slice z.p.a3 z.s.loops.length z.p.c3) ∧ X.cell? ⟨w.heap.size, 3, none⟩ = some (.slice z.p.a4 z.s.racks.length z.p.c4) ∧ X.cell? ⟨w.heap.size, 4, none⟩ = some (.int .i64 z.s.sw) ∧ X.cell? ⟨w.heap.size, 5, none⟩ = some (.slice z.p.a5 z.s.links.length z.p.c5) ∧ X.cell? ⟨w.heap.size, 6, none⟩ = some (.slice z.p.a6 z.s.hosts.length z.p.c6) ∧ X.cell? ⟨w.heap.size + 1, 0, none⟩ = some (.slice z.A z.xs.length z.c) ∧ X.cell? ⟨w.heap.size + 1 + 1, 0, none⟩ = some (.slice z.q.a1 z.d.hosts.length z.q.c1) ∧ X.cell? ⟨w.heap.size + 1 + 1, 1, none⟩ = some (.slice z.q.a2 z.d.reps.length z.q.c2)))
  have HX := Lib.hid (fun (X : World) (hX : Below W.heap.size W X) => X1.on hX (Nat.le_refl _))
  have HKW := Lib.hid (Below.refl W.heap.size W)
  have hle := HB.out.size
  obtain ⟨n1, n2, n3, n4, n5, n6, n7, n8⟩ := hz.bounds
  have HR := Lib.hid hr
  have HLL := Lib.hid hL
  have HBB := Lib.hid hb
  clear hr hL hb
  clear hz B0 X1 z3 Z0
  obtain ⟨f0, f1, f2, f3, f4, f5, f6, g0, g1, g2⟩ := HF.out W HKW.out
  rw [h3, h2, h1] at f0 f1 f2 f3 f4 f5 f6 g0 g1 g2
  generalize hBB : w.heap.size = B at *
  go_enter Tryz.func15, Tryz.ntmps15
  go_wp2_with (fail)
  rw [← h1, ← h2, ← h3]
  clear h1 h2 h3 f0 f1 f2 f3 f4 f5 f6 g0 g1 g2
  go_at_call 27
  refine (c_vTo z r HR.out W (HZ.out W HKW.out)).mono ?_
  rintro e v1 ⟨rfl, bb⟩
  have HKv1 := Lib.hid (below_join HKW.out bb HKW.out.size)
  clear bb
  obtain ⟨f0, f1, f2, f3, f4, f5, f6, g0, g1, g2⟩ := HF.out v1 HKv1.out
  cases r
  · have HE := Lib.hid (show false = b from HBB.out)
    go_wp2_with (fail)
    go_ret
    exact ⟨by rw [HE.out]; rfl, below_join HB.out HKv1.out hle⟩
  have HOK := Lib.hid (HR.out.1 (by trivial))
  have HE := Lib.hid (show (((L.length : Nat) : Int) == 0) = b by rw [len0_iff]; exact HBB.out)
  go_wp2_with (fail)
  clear f0 f1 f2 f3 f4 f5 f6 g0 g1 g2
  go_at_call 13
  refine (c_Broken z true ⟨fun _ => HOK.out, fun _ => rfl⟩ L HLL.out v1 (HZ.out v1 HKv1.out)).mono ?_
  rintro e v2 ⟨A, c, rfl, hrv, bb⟩
  have HKv2 := Lib.hid (below_join HKv1.out bb HKv1.out.size)
  have hcap := hrv.1; have hcap2 := hrv.2.1
  unfold maxLen at hcap2
  clear bb hrv
  go_wp2_with (fail)
  go_ret
  exact ⟨(show Ending.returned (.bool (((L.length : Nat) : Int) == 0)) = .returned (.bool b) by rw [HE.out]), below_join HB.out HKv2.out hle⟩
set_option maxHeartbeats 16000000 in
theorem c_irHolds (z : Sn) (r : Bool) (hr : r = true ↔ z.Ok) (L : List Bn) (hL : bnV z.s z.ss z.d r = L) (b : Bool) (hb : holdV z L r = b) (w : World) (hz : SnAt w z) :
    Calls Tryz.prog 16 #[.agg #[.slice z.p.a1 z.s.feeds.length z.p.c1, .slice z.p.a2 z.s.brks.length z.p.c2, .slice z.p.a3 z.s.loops.length z.p.c3, .slice z.p.a4 z.s.racks.length z.p.c4, .int .i64 z.s.sw, .slice z.p.a5 z.s.links.length z.p.c5, .slice z.p.a6 z.s.hosts.length z.p.c6], .agg #[.slice z.A z.xs.length z.c], .agg #[.slice z.q.a1 z.d.hosts.length z.q.c1, .slice z.q.a2 z.d.reps.length z.q.c2]] w fun e w' => e = .returned (.bool b) ∧ Below w.heap.size w w' := by
  obtain ⟨W1, h1⟩ : ∃ W, W = w.alloc (.cells #[.slice z.p.a1 z.s.feeds.length z.p.c1, .slice z.p.a2 z.s.brks.length z.p.c2, .slice z.p.a3 z.s.loops.length z.p.c3, .slice z.p.a4 z.s.racks.length z.p.c4, .int .i64 z.s.sw, .slice z.p.a5 z.s.links.length z.p.c5, .slice z.p.a6 z.s.hosts.length z.p.c6] 29) := ⟨_, rfl⟩
  obtain ⟨W2, h2⟩ : ∃ W, W = W1.alloc (.cells #[.slice z.A z.xs.length z.c] 32) := ⟨_, rfl⟩
  obtain ⟨W, h3⟩ : ∃ W, W = W2.alloc (.cells #[.slice z.q.a1 z.d.hosts.length z.q.c1, .slice z.q.a2 z.d.reps.length z.q.c2] 36) := ⟨_, rfl⟩
  obtain ⟨B0, X1⟩ := sn_boxes h1 h2 h3
  have z3 : W.heap.size = w.heap.size + 1 + 1 + 1 := sn_size h1 h2 h3
  have HB := Lib.hid B0
  have Z0 := hz.on B0 (Nat.le_refl _)
  have HZ := Lib.hid (fun (X : World) (hX : Below W.heap.size W X) => Z0.on hX (Nat.le_refl _))
  have HF := Lib.hid (fun (X : World) (hX : Below W.heap.size W X) => ((X1.on hX (Nat.le_refl _)).cells : X.cell? ⟨w.heap.size, 0, none⟩ = some (.slice z.p.a1 z.s.feeds.length z.p.c1) ∧ X.cell? ⟨w.heap.size, 1, none⟩ = some (.slice z.p.a2 z.s.brks.length z.p.c2) ∧ X.cell? ⟨w.heap.size, 2, none⟩ = some (.slice z.p.a3 z.s.loops.length z.p.c3) ∧ X.cell? ⟨w.heap.size, 3, none⟩ = some (.slice z.p.a4 z.s.racks.length z.p.c4) ∧ X.cell? ⟨w.heap.size, 4, none⟩ = some (.int .i64 z.s.sw) ∧ X.cell? ⟨w.heap.size, 5, none⟩ = some (.slice z.p.a5 z.s.links.length z.p.c5) ∧ X.cell? ⟨w.heap.size, 6, none⟩ = some (.slice z.p.a6 z.s.hosts.length z.p.c6) ∧ X.cell? ⟨w.heap.size + 1, 0, none⟩ = some (.slice z.A z.xs.length z.c) ∧ X.cell? ⟨w.heap.size + 1 + 1, 0, none⟩ = some (.slice z.q.a1 z.d.hosts.length z.q.c1) ∧ X.cell? ⟨w.heap.size + 1 + 1, 1, none⟩ = some (.slice z.q.a2 z.d.reps.length z.q.c2)))
  have HX := Lib.hid (fun (X : World) (hX : Below W.heap.size W X) => X1.on hX (Nat.le_refl _))
  have HKW := Lib.hid (Below.refl W.heap.size W)
  have hle := HB.out.size
  obtain ⟨n1, n2, n3, n4, n5, n6, n7, n8⟩ := hz.bounds
  have HR := Lib.hid hr
  have HLL := Lib.hid hL
  have HBB := Lib.hid hb
  clear hr hL hb
  clear hz B0 X1 z3 Z0
  obtain ⟨f0, f1, f2, f3, f4, f5, f6, g0, g1, g2⟩ := HF.out W HKW.out
  rw [h3, h2, h1] at f0 f1 f2 f3 f4 f5 f6 g0 g1 g2
  generalize hBB : w.heap.size = B at *
  go_enter Tryz.func16, Tryz.ntmps16
  go_wp2_with (fail)
  rw [← h1, ← h2, ← h3]
  clear h1 h2 h3 f0 f1 f2 f3 f4 f5 f6 g0 g1 g2
  go_at_call 21
  refine (c_wvTo z r HR.out W (HZ.out W HKW.out)).mono ?_
  rintro e v1 ⟨rfl, bb⟩
  have HKv1 := Lib.hid (below_join HKW.out bb HKW.out.size)
  clear bb
  obtain ⟨f0, f1, f2, f3, f4, f5, f6, g0, g1, g2⟩ := HF.out v1 HKv1.out
  cases r
  · have HE := Lib.hid (show false = b from HBB.out)
    go_wp2_with (fail)
    go_ret
    exact ⟨by rw [HE.out]; rfl, below_join HB.out HKv1.out hle⟩
  have HOK := Lib.hid (HR.out.1 (by trivial))
  have HE := Lib.hid (show (((L.length : Nat) : Int) == 0) = b by rw [len0_iff]; exact HBB.out)
  go_wp2_with (fail)
  clear f0 f1 f2 f3 f4 f5 f6 g0 g1 g2
  go_at_call 14
  refine (c_irBroken z true ⟨fun _ => HOK.out, fun _ => rfl⟩ L HLL.out v1 (HZ.out v1 HKv1.out)).mono ?_
  rintro e v2 ⟨A, c, rfl, hrv, bb⟩
  have HKv2 := Lib.hid (below_join HKv1.out bb HKv1.out.size)
  have hcap := hrv.1; have hcap2 := hrv.2.1
  unfold maxLen at hcap2
  clear bb hrv
  go_wp2_with (fail)
  go_ret
  exact ⟨(show Ending.returned (.bool (((L.length : Nat) : Int) == 0)) = .returned (.bool b) by rw [HE.out]), below_join HB.out HKv2.out hle⟩
end Go.Proofs.YtbbadnlaelgmlaaGreat
