/-
  DERIVED. Several texts in one.
-/
import Derived.Test.YtbbadnlaelgmlaaGreatPXO1
import Derived.Test.YtbbadnlaelgmlaaGreatPXO2
import Derived.Laws.StructEq
import Derived.WideKeyRuns
import Derived.WideMake
import Derived.Deep.RegionWith
import Derived.Test.YtbbadnlaelgmlaaGreatPXB4
set_option linter.unusedVariables false
set_option linter.unusedSimpArgs false

namespace Go.Proofs.YtbbadnlaelgmlaaGreat
open Go.RowKit
set_option maxRecDepth 100000
set_option linter.unusedVariables false
set_option linter.unusedSimpArgs false

def kdC : Array Value := #[.int .u8 1, .func (.func 49) #[] #[], .int .u8 2, .func (.func 50) #[] #[], .int .u8 3, .func (.func 51) #[] #[], .int .u8 4, .func (.func 52) #[] #[], .int .u8 5, .func (.func 53) #[] #[], .int .u8 6, .func (.func 54) #[] #[], .int .u8 7, .func (.func 55) #[] #[], .int .u8 8, .func (.func 56) #[] #[], .int .u8 9, .func (.func 57) #[] #[], .int .u8 10, .func (.func 58) #[] #[]]
set_option maxHeartbeats 4000000 in
theorem c_kinds (w : World) : Calls Tryz.prog 28 #[] w fun e w' => e = .returned (.slice (some ⟨w.heap.size, 0, none⟩) 10 10) ∧ w'.heap[w.heap.size]? = some (.cells kdC 68 (0, 0)) ∧ Below w.heap.size w w' := by
  obtain ⟨W, h1⟩ : ∃ W, W = w.alloc (.cells #[.int .u8 1, .func (.func 49) #[] #[], .int .u8 2, .func (.func 50) #[] #[], .int .u8 3, .func (.func 51) #[] #[], .int .u8 4, .func (.func 52) #[] #[], .int .u8 5, .func (.func 53) #[] #[], .int .u8 6, .func (.func 54) #[] #[], .int .u8 7, .func (.func 55) #[] #[], .int .u8 8, .func (.func 56) #[] #[], .int .u8 9, .func (.func 57) #[] #[], .int .u8 10, .func (.func 58) #[] #[]] 68) := ⟨_, rfl⟩
  have HB := Lib.hid (show Below w.heap.size w W by rw [h1]; exact (Below.refl _ _).alloc (Nat.le_refl _) _)
  have HX := Lib.hid (show W.heap[w.heap.size]? = some (.cells kdC 68 (0, 0)) by rw [h1]; exact box_new _ _ _)
  go_enter Tryz.func28, Tryz.ntmps28
  go_wp2_with (fail)
  rw [← h1]
  clear h1
  go_ret
  exact ⟨rfl, HX.out, HB.out⟩
theorem bnK_len {z : Sn} (ok : z.Ok) : (bnK z.s z.ss z.d 1).length ≤ 16 ∧ (bnK z.s z.ss z.d 2).length ≤ 16 ∧ (bnK z.s z.ss z.d 3).length ≤ 8 ∧ (bnK z.s z.ss z.d 4).length ≤ 800 ∧ (bnK z.s z.ss z.d 5).length ≤ 800 ∧ (bnK z.s z.ss z.d 6).length ≤ 800 ∧ (bnK z.s z.ss z.d 7).length ≤ 800 ∧ (bnK z.s z.ss z.d 8).length ≤ 8 ∧ (bnK z.s z.ss z.d 9).length ≤ 4 ∧ (bnK z.s z.ss z.d 10).length ≤ 4 := by
  have h8 := few_svcs ok
  have e : z.ss.length = z.xs.length := svs_len _
  have b : ∀ (k : Nat) (f : Nat → List Int), (∀ i, i < z.xs.length → (f i).length ≤ 100) → (bk2 k f z.ss.length).length ≤ 800 := fun k f h => by
    rw [e]
    have := bk2_len k 100 f z.xs.length h
    omega
  refine ⟨Nat.le_trans (bk1_len _ _ _) (few_hosts ok), Nat.le_trans (bk1_len _ _ _) (few_hosts ok), Nat.le_trans (bk1_len _ _ _) (by omega), b _ _ (spr_len ok), b _ _ (apt_len ok), b _ _ (nea_len ok), b _ _ (frm_len ok), Nat.le_trans (bk1_len _ _ _) (few_brks ok), Nat.le_trans (bk1_len _ _ _) (few_feeds ok), Nat.le_trans (bk1_len _ _ _) (few_loops ok)⟩
theorem bnTo_len {z : Sn} (ok : z.Ok) {n : Nat} (hn : n ≤ 10) : (bnTo z.s z.ss z.d n).length ≤ 4000 := by
  obtain ⟨h1, h2, h3, h4, h5, h6, h7, h8, h9, h10⟩ := bnK_len ok
  have hz : bnTo z.s z.ss z.d 0 = [] := rfl
  rcases (by omega : n = 0 ∨ n = 1 ∨ n = 2 ∨ n = 3 ∨ n = 4 ∨ n = 5 ∨ n = 6 ∨ n = 7 ∨ n = 8 ∨ n = 9 ∨ n = 10) with rfl | rfl | rfl | rfl | rfl | rfl | rfl | rfl | rfl | rfl | rfl
  all_goals (simp only [bnTo_succ, List.length_append, hz, List.length_nil, Nat.zero_add, Nat.reduceAdd]; omega)
theorem fnd_new {z : Sn} {W0 X : World} {g kd : Nat} {fv : Value} {l : List Bn} (sn : SnAt W0 z) (be : Below W0.heap.size W0 X) (gb : W0.heap.size ≤ g) (gl : g < X.heap.size) (co : Col W0.heap.size g l X) : Fnd z W0 g X.heap.size kd fv l (X.alloc (.cells #[.int .u8 (kd : Int), fv] 68)) ∧ Kg g X (X.alloc (.cells #[.int .u8 (kd : Int), fv] 68)) := by
  have hb : Below X.heap.size X (X.alloc (.cells #[.int .u8 (kd : Int), fv] 68)) := (Below.refl _ _).alloc (Nat.le_refl _) _
  have hk := Kg.of_below hb (Nat.le_refl _) gl
  refine ⟨⟨sn, be.alloc be.size _, gb, Nat.lt_of_lt_of_le gl hb.size, co.on hb (Nat.le_refl _), ⟨heap_alloc_new _ _, by omega, fun e => ?_⟩⟩, hk⟩
  have e2 : lbk X g = some X.heap.size := by
    rw [← e]; unfold lbk; rw [Below.heap_alloc _ _ _ gl]
  have := (co.lb e2).2.1
  omega
set_option maxHeartbeats 32000000 in
theorem c_Broken (z : Sn) (r : Bool) (hr : r = true ↔ z.Ok) (L : List Bn) (hL : bnV z.s z.ss z.d r = L) (w : World) (hz : SnAt w z) :
    Calls Tryz.prog 13 #[.agg #[.slice z.p.a1 z.s.feeds.length z.p.c1, .slice z.p.a2 z.s.brks.length z.p.c2, .slice z.p.a3 z.s.loops.length z.p.c3, .slice z.p.a4 z.s.racks.length z.p.c4, .int .i64 z.s.sw, .slice z.p.a5 z.s.links.length z.p.c5, .slice z.p.a6 z.s.hosts.length z.p.c6], .agg #[.slice z.A z.xs.length z.c], .agg #[.slice z.q.a1 z.d.hosts.length z.q.c1, .slice z.q.a2 z.d.reps.length z.q.c2]] w fun e w' => ∃ A c, e = .returned (.slice A L.length c) ∧ Rv 3 bnF w' A c L ∧ Below w.heap.size w w' := by
  obtain ⟨W1, h1⟩ : ∃ W, W = w.alloc (.cells #[.slice z.p.a1 z.s.feeds.length z.p.c1, .slice z.p.a2 z.s.brks.length z.p.c2, .slice z.p.a3 z.s.loops.length z.p.c3, .slice z.p.a4 z.s.racks.length z.p.c4, .int .i64 z.s.sw, .slice z.p.a5 z.s.links.length z.p.c5, .slice z.p.a6 z.s.hosts.length z.p.c6] 29) := ⟨_, rfl⟩
  obtain ⟨W2, h2⟩ : ∃ W, W = W1.alloc (.cells #[.slice z.A z.xs.length z.c] 32) := ⟨_, rfl⟩
  obtain ⟨W, h3⟩ : ∃ W, W = W2.alloc (.cells #[.slice z.q.a1 z.d.hosts.length z.q.c1, .slice z.q.a2 z.d.reps.length z.q.c2] 36) := ⟨_, rfl⟩
  obtain ⟨B0, X1⟩ := sn_boxes h1 h2 h3
  have z3 : W.heap.size = w.heap.size + 1 + 1 + 1 := sn_size h1 h2 h3
  have HB := Lib.hid B0
  have Z0 := hz.on B0 (Nat.le_refl _)
  have HZ := Lib.hid (fun (X : World) (hX : Below W.heap.size W X) => Z0.on hX (Nat.le_refl _))
  have HF := Lib.hid (fun (X : World) (hX : Below W.heap.size W X) => ((X1.on hX (Nat.le_refl _)).cells : X.cell? ⟨w.heap.size, 0, none⟩ = some (.slice z.p.a1 z.s.feeds.length z.p.c1) ∧ X.cell? ⟨w.heap.size, 1, none⟩ = some (.slice z.p.a2 z.s.brks.length z.p.c2) ∧ X.cell? ⟨w.heap.size, 2, none⟩ = some (.slice z.p.a3 z.s.loops.length z.p.c3) ∧ X.cell? ⟨w.heap.size, 3, none⟩ = some (.slice z.p.a4 z.s.racks.length z.p.c4) ∧ X.cell? ⟨w.heap.size, 4, none⟩ = some (.int .i64 z.s.sw) ∧ X.cell? ⟨w.heap.size, 5, none⟩ = some (.slice z.p.a5 z.s.links.length z.p.c5) ∧ X.cell? ⟨w.heap.size, 6, none⟩ = some (.slice z.p.a6 z.s.hosts.length z.p.c6) ∧ X.cell? ⟨w.heap.size + 1, 0, none⟩ = some (.slice z.A z.xs.length z.c) ∧ X.cell? ⟨w.heap.size + 1 + 1, 0, none⟩ = some (.slice z.q.a1 z.d.hosts.length z.q.c1) ∧ X.cell? ⟨w.heap.size + 1 + 1, 1, none⟩ = some (.slice z.q.a2 z.d.reps.length z.q.c2)))
  have HX := Lib.hid (fun (X : World) (hX : Below W.heap.size W X) => X1.on hX (Nat.le_refl _))
  have HKW := Lib.hid (Below.refl W.heap.size W)
  have hle := HB.out.size
  obtain ⟨n1, n2, n3, n4, n5, n6, n7, n8⟩ := hz.bounds
  have HR := Lib.hid hr
  have HLL := Lib.hid hL
  clear hr hL
  clear hz B0 X1 z3 Z0
  obtain ⟨f0, f1, f2, f3, f4, f5, f6, g0, g1, g2⟩ := HF.out W HKW.out
  rw [h3, h2, h1] at f0 f1 f2 f3 f4 f5 f6 g0 g1 g2
  generalize hBB : w.heap.size = B at *
  go_enter Tryz.func13, Tryz.ntmps13
  go_wp2_with (fail)
  rw [← h1, ← h2, ← h3]
  clear h1 h2 h3 f0 f1 f2 f3 f4 f5 f6 g0 g1 g2
  go_at_call 27
  refine (c_vTo z r HR.out W (HZ.out W HKW.out)).mono ?_
  rintro e v1 ⟨rfl, bb⟩
  have HKv1 := Lib.hid (below_join HKW.out bb HKW.out.size)
  clear bb
  cases r
  · have HE := Lib.hid (show ([] : List Bn) = L from HLL.out)
    go_wp2_with (fail)
    go_ret
    exact ⟨none, 0, by rw [← HE.out]; rfl, by rw [← HE.out]; exact Rv.nil _, below_join HB.out HKv1.out hle⟩
  have HOK := Lib.hid (HR.out.1 rfl)
  have HE := Lib.hid (show bnTo z.s z.ss z.d 10 = L from HLL.out)
  have HZW := Lib.hid (HZ.out W HKW.out)
  obtain ⟨W4, hW4⟩ : ∃ X, X = v1.alloc (.cells #[.slice none 0 0] 40) := ⟨_, rfl⟩
  have b4 : Below v1.heap.size v1 W4 := by rw [hW4]; exact (Below.refl _ _).alloc (Nat.le_refl _) _
  have HK4 := Lib.hid (below_join HKv1.out b4 HKv1.out.size)
  obtain ⟨g, hg⟩ : ∃ g, g = v1.heap.size := ⟨_, rfl⟩
  have hgW : W.heap.size ≤ g := by rw [hg]; exact HKv1.out.size
  have hgl : g < W4.heap.size := by rw [hW4, World.size_alloc, hg]; omega
  have HC4 := Lib.hid (show Col W.heap.size g [] W4 from ⟨.slice none 0 0, by rw [hg, hW4]; exact box_new _ _ _, World.ownsRow_nil _ _ _ _⟩)
  have hg4 : W4.heap.size = g + 1 := by rw [hW4, World.size_alloc, hg]
  have HG4 := Lib.hid hg4
  clear b4 hg4
  go_wp2_with (fail)
  rw [← hW4]
  rw [← hg]
  clear hW4 hg
  go_at_call 28
  refine (c_kinds W4).mono ?_
  rintro e v2 ⟨rfl, hkc, b2⟩
  have HK2 := Lib.hid (below_join HK4.out b2 HK4.out.size)
  have HG2 := Lib.hid (Kg.of_below b2 (Nat.le_refl _) hgl)
  have HC2 := Lib.hid (HC4.out.on b2 (Nat.le_refl _))
  have hgl2 : g < v2.heap.size := Nat.lt_of_lt_of_le hgl b2.size
  obtain ⟨K, hK⟩ : ∃ K, K = W4.heap.size := ⟨_, rfl⟩
  rw [← hK] at hkc ⊢
  have LK : Loc g v2 K (.cells kdC 68 (0, 0)) := ⟨hkc, by omega, fun e => by
    have e2 : lbk W4 g = some K := by rw [← e]; unfold lbk; rw [b2.block g hgl]
    have := (HC4.out.lb e2).2.1
    omega⟩
  have HLK := Lib.hid (fun (X : World) (hX : Kg g v2 X) => (⟨(LK.on hX).cell rfl, (LK.on hX).cell rfl, (LK.on hX).cell rfl, (LK.on hX).cell rfl, (LK.on hX).cell rfl, (LK.on hX).cell rfl, (LK.on hX).cell rfl, (LK.on hX).cell rfl, (LK.on hX).cell rfl, (LK.on hX).cell rfl, (LK.on hX).cell rfl, (LK.on hX).cell rfl, (LK.on hX).cell rfl, (LK.on hX).cell rfl, (LK.on hX).cell rfl, (LK.on hX).cell rfl, (LK.on hX).cell rfl, (LK.on hX).cell rfl, (LK.on hX).cell rfl, (LK.on hX).cell rfl⟩ : X.cell? ⟨K, 0, none⟩ = some (.int .u8 1) ∧ X.cell? ⟨K, 1, none⟩ = some (.func (.func 49) #[] #[]) ∧ X.cell? ⟨K, 2, none⟩ = some (.int .u8 2) ∧ X.cell? ⟨K, 3, none⟩ = some (.func (.func 50) #[] #[]) ∧ X.cell? ⟨K, 4, none⟩ = some (.int .u8 3) ∧ X.cell? ⟨K, 5, none⟩ = some (.func (.func 51) #[] #[]) ∧ X.cell? ⟨K, 6, none⟩ = some (.int .u8 4) ∧ X.cell? ⟨K, 7, none⟩ = some (.func (.func 52) #[] #[]) ∧ X.cell? ⟨K, 8, none⟩ = some (.int .u8 5) ∧ X.cell? ⟨K, 9, none⟩ = some (.func (.func 53) #[] #[]) ∧ X.cell? ⟨K, 10, none⟩ = some (.int .u8 6) ∧ X.cell? ⟨K, 11, none⟩ = some (.func (.func 54) #[] #[]) ∧ X.cell? ⟨K, 12, none⟩ = some (.int .u8 7) ∧ X.cell? ⟨K, 13, none⟩ = some (.func (.func 55) #[] #[]) ∧ X.cell? ⟨K, 14, none⟩ = some (.int .u8 8) ∧ X.cell? ⟨K, 15, none⟩ = some (.func (.func 56) #[] #[]) ∧ X.cell? ⟨K, 16, none⟩ = some (.int .u8 9) ∧ X.cell? ⟨K, 17, none⟩ = some (.func (.func 57) #[] #[]) ∧ X.cell? ⟨K, 18, none⟩ = some (.int .u8 10) ∧ X.cell? ⟨K, 19, none⟩ = some (.func (.func 58) #[] #[])))
  have HKg2 := Lib.hid (Kg.refl g v2)
  clear hkc b2 LK hK
  go_wp2_with (fail)
  go_loopw [18] (fun i wr => ∃ k : Nat, k ≤ 10 ∧ i = .int .i64 (k : Int) ∧ Hid (Below W.heap.size W wr) ∧ Hid (Col W.heap.size g (bnTo z.s z.ss z.d k) wr) ∧ Hid (Kg g v2 wr)) (fun i _ => 10 - (intOf i).toNat)
  case atStart => exact ⟨0, Nat.zero_le _, rfl, HK2, HC2, HKg2⟩
  case round =>
    obtain ⟨k, hk, rfl, hBk, hCk, hGk⟩ := hrel
    have hki : ((k : Nat) : Int).toNat = k := by omega
    have hglr : g < wr.heap.size := Nat.lt_of_lt_of_le hgl2 hGk.out.size
    by_cases hlt : k < 10
    · have HLN := Lib.hid (bnTo_len HOK.out hk)
      have HSU := Lib.hid (bnTo_succ z.s z.ss z.d k)
      obtain ⟨k0, k1, k2, k3, k4, k5, k6, k7, k8, k9, k10, k11, k12, k13, k14, k15, k16, k17, k18, k19⟩ := HLK.out wr hGk.out
      rcases (by omega : k = 0 ∨ k = 1 ∨ k = 2 ∨ k = 3 ∨ k = 4 ∨ k = 5 ∨ k = 6 ∨ k = 7 ∨ k = 8 ∨ k = 9) with rfl | rfl | rfl | rfl | rfl | rfl | rfl | rfl | rfl | rfl
      · obtain ⟨V, hV⟩ : ∃ X, X = wr.alloc (.cells #[.int .u8 1, .func (.func 49) #[] #[]] 68) := ⟨_, rfl⟩
        have hnew : Fnd z W g wr.heap.size 1 (.func (.func 49) #[] #[]) (bnTo z.s z.ss z.d 0) V ∧ Kg g wr V := by rw [hV]; exact fnd_new (kd := 1) (fv := .func (.func 49) #[] #[]) HZW.out hBk.out hgW hglr hCk.out
        have HFV := Lib.hid hnew.1
        have HKV := Lib.hid (hGk.out.trans hnew.2)
        have kx0 : V.cell? ⟨wr.heap.size, 0, none⟩ = some (.int .u8 1) := hnew.1.kx.cell rfl
        have kx1 : V.cell? ⟨wr.heap.size, 1, none⟩ = some (.func (.func 49) #[] #[]) := hnew.1.kx.cell rfl
        obtain ⟨f0, f1, f2, f3, f4, f5, f6, g0, g1, g2⟩ := HF.out V HFV.out.be
        clear hnew
        rw [hV] at f0 f1 f2 f3 f4 f5 f6 g0 g1 g2 kx0 kx1
        go_wp2_with (fail)
        rw [← hV]
        clear hV f0 f1 f2 f3 f4 f5 f6 g0 g1 g2 kx0 kx1 k0 k1 k2 k3 k4 k5 k6 k7 k8 k9 k10 k11 k12 k13 k14 k15 k16 k17 k18 k19
        go_at_call 49
        refine (c_findCores z W g wr.heap.size (.func (.func 49) #[] #[]) (bnTo z.s z.ss z.d 0) HOK.out (Nat.le_trans HLN.out (by omega)) V HFV.out).mono ?_
        rintro e y ⟨rfl, fy, ky⟩
        have HBY := Lib.hid fy.be
        have HCY := Lib.hid (show Col W.heap.size g (bnTo z.s z.ss z.d (0 + 1)) y by rw [HSU.out]; exact fy.co)
        have HKY := Lib.hid (HKV.out.trans ky)
        clear fy ky
        go_wp2_with (fail)
        go_roundw
        case rel => exact ⟨0 + 1, by omega, by go_num, HBY, HCY, HKY⟩
        case measure => simp only [intOf]; omega
      · obtain ⟨V, hV⟩ : ∃ X, X = wr.alloc (.cells #[.int .u8 2, .func (.func 50) #[] #[]] 68) := ⟨_, rfl⟩
        have hnew : Fnd z W g wr.heap.size 2 (.func (.func 50) #[] #[]) (bnTo z.s z.ss z.d 1) V ∧ Kg g wr V := by rw [hV]; exact fnd_new (kd := 2) (fv := .func (.func 50) #[] #[]) HZW.out hBk.out hgW hglr hCk.out
        have HFV := Lib.hid hnew.1
        have HKV := Lib.hid (hGk.out.trans hnew.2)
        have kx0 : V.cell? ⟨wr.heap.size, 0, none⟩ = some (.int .u8 2) := hnew.1.kx.cell rfl
        have kx1 : V.cell? ⟨wr.heap.size, 1, none⟩ = some (.func (.func 50) #[] #[]) := hnew.1.kx.cell rfl
        obtain ⟨f0, f1, f2, f3, f4, f5, f6, g0, g1, g2⟩ := HF.out V HFV.out.be
        clear hnew
        rw [hV] at f0 f1 f2 f3 f4 f5 f6 g0 g1 g2 kx0 kx1
        go_wp2_with (fail)
        rw [← hV]
        clear hV f0 f1 f2 f3 f4 f5 f6 g0 g1 g2 kx0 kx1 k0 k1 k2 k3 k4 k5 k6 k7 k8 k9 k10 k11 k12 k13 k14 k15 k16 k17 k18 k19
        go_at_call 50
        refine (c_findPhases z W g wr.heap.size (.func (.func 50) #[] #[]) (bnTo z.s z.ss z.d 1) HOK.out (Nat.le_trans HLN.out (by omega)) V HFV.out).mono ?_
        rintro e y ⟨rfl, fy, ky⟩
        have HBY := Lib.hid fy.be
        have HCY := Lib.hid (show Col W.heap.size g (bnTo z.s z.ss z.d (1 + 1)) y by rw [HSU.out]; exact fy.co)
        have HKY := Lib.hid (HKV.out.trans ky)
        clear fy ky
        go_wp2_with (fail)
        go_roundw
        case rel => exact ⟨1 + 1, by omega, by go_num, HBY, HCY, HKY⟩
        case measure => simp only [intOf]; omega
      · obtain ⟨V, hV⟩ : ∃ X, X = wr.alloc (.cells #[.int .u8 3, .func (.func 51) #[] #[]] 68) := ⟨_, rfl⟩
        have hnew : Fnd z W g wr.heap.size 3 (.func (.func 51) #[] #[]) (bnTo z.s z.ss z.d 2) V ∧ Kg g wr V := by rw [hV]; exact fnd_new (kd := 3) (fv := .func (.func 51) #[] #[]) HZW.out hBk.out hgW hglr hCk.out
        have HFV := Lib.hid hnew.1
        have HKV := Lib.hid (hGk.out.trans hnew.2)
        have kx0 : V.cell? ⟨wr.heap.size, 0, none⟩ = some (.int .u8 3) := hnew.1.kx.cell rfl
        have kx1 : V.cell? ⟨wr.heap.size, 1, none⟩ = some (.func (.func 51) #[] #[]) := hnew.1.kx.cell rfl
        obtain ⟨f0, f1, f2, f3, f4, f5, f6, g0, g1, g2⟩ := HF.out V HFV.out.be
        clear hnew
        rw [hV] at f0 f1 f2 f3 f4 f5 f6 g0 g1 g2 kx0 kx1
        go_wp2_with (fail)
        rw [← hV]
        clear hV f0 f1 f2 f3 f4 f5 f6 g0 g1 g2 kx0 kx1 k0 k1 k2 k3 k4 k5 k6 k7 k8 k9 k10 k11 k12 k13 k14 k15 k16 k17 k18 k19
        go_at_call 51
        refine (c_findLeasts z W g wr.heap.size (.func (.func 51) #[] #[]) (bnTo z.s z.ss z.d 2) HOK.out (Nat.le_trans HLN.out (by omega)) V HFV.out).mono ?_
        rintro e y ⟨rfl, fy, ky⟩
        have HBY := Lib.hid fy.be
        have HCY := Lib.hid (show Col W.heap.size g (bnTo z.s z.ss z.d (2 + 1)) y by rw [HSU.out]; exact fy.co)
        have HKY := Lib.hid (HKV.out.trans ky)
        clear fy ky
        go_wp2_with (fail)
        go_roundw
        case rel => exact ⟨2 + 1, by omega, by go_num, HBY, HCY, HKY⟩
        case measure => simp only [intOf]; omega
      · obtain ⟨V, hV⟩ : ∃ X, X = wr.alloc (.cells #[.int .u8 4, .func (.func 52) #[] #[]] 68) := ⟨_, rfl⟩
        have hnew : Fnd z W g wr.heap.size 4 (.func (.func 52) #[] #[]) (bnTo z.s z.ss z.d 3) V ∧ Kg g wr V := by rw [hV]; exact fnd_new (kd := 4) (fv := .func (.func 52) #[] #[]) HZW.out hBk.out hgW hglr hCk.out
        have HFV := Lib.hid hnew.1
        have HKV := Lib.hid (hGk.out.trans hnew.2)
        have kx0 : V.cell? ⟨wr.heap.size, 0, none⟩ = some (.int .u8 4) := hnew.1.kx.cell rfl
        have kx1 : V.cell? ⟨wr.heap.size, 1, none⟩ = some (.func (.func 52) #[] #[]) := hnew.1.kx.cell rfl
        obtain ⟨f0, f1, f2, f3, f4, f5, f6, g0, g1, g2⟩ := HF.out V HFV.out.be
        clear hnew
        rw [hV] at f0 f1 f2 f3 f4 f5 f6 g0 g1 g2 kx0 kx1
        go_wp2_with (fail)
        rw [← hV]
        clear hV f0 f1 f2 f3 f4 f5 f6 g0 g1 g2 kx0 kx1 k0 k1 k2 k3 k4 k5 k6 k7 k8 k9 k10 k11 k12 k13 k14 k15 k16 k17 k18 k19
        go_at_call 52
        refine (c_findSpreads z W g wr.heap.size (.func (.func 52) #[] #[]) (bnTo z.s z.ss z.d 3) HOK.out (Nat.le_trans HLN.out (by omega)) V HFV.out).mono ?_
        rintro e y ⟨rfl, fy, ky⟩
        have HBY := Lib.hid fy.be
        have HCY := Lib.hid (show Col W.heap.size g (bnTo z.s z.ss z.d (3 + 1)) y by rw [HSU.out]; exact fy.co)
        have HKY := Lib.hid (HKV.out.trans ky)
        clear fy ky
        go_wp2_with (fail)
        go_roundw
        case rel => exact ⟨3 + 1, by omega, by go_num, HBY, HCY, HKY⟩
        case measure => simp only [intOf]; omega
      · obtain ⟨V, hV⟩ : ∃ X, X = wr.alloc (.cells #[.int .u8 5, .func (.func 53) #[] #[]] 68) := ⟨_, rfl⟩
        have hnew : Fnd z W g wr.heap.size 5 (.func (.func 53) #[] #[]) (bnTo z.s z.ss z.d 4) V ∧ Kg g wr V := by rw [hV]; exact fnd_new (kd := 5) (fv := .func (.func 53) #[] #[]) HZW.out hBk.out hgW hglr hCk.out
        have HFV := Lib.hid hnew.1
        have HKV := Lib.hid (hGk.out.trans hnew.2)
        have kx0 : V.cell? ⟨wr.heap.size, 0, none⟩ = some (.int .u8 5) := hnew.1.kx.cell rfl
        have kx1 : V.cell? ⟨wr.heap.size, 1, none⟩ = some (.func (.func 53) #[] #[]) := hnew.1.kx.cell rfl
        obtain ⟨f0, f1, f2, f3, f4, f5, f6, g0, g1, g2⟩ := HF.out V HFV.out.be
        clear hnew
        rw [hV] at f0 f1 f2 f3 f4 f5 f6 g0 g1 g2 kx0 kx1
        go_wp2_with (fail)
        rw [← hV]
        clear hV f0 f1 f2 f3 f4 f5 f6 g0 g1 g2 kx0 kx1 k0 k1 k2 k3 k4 k5 k6 k7 k8 k9 k10 k11 k12 k13 k14 k15 k16 k17 k18 k19
        go_at_call 53
        refine (c_findAparts z W g wr.heap.size (.func (.func 53) #[] #[]) (bnTo z.s z.ss z.d 4) HOK.out (Nat.le_trans HLN.out (by omega)) V HFV.out).mono ?_
        rintro e y ⟨rfl, fy, ky⟩
        have HBY := Lib.hid fy.be
        have HCY := Lib.hid (show Col W.heap.size g (bnTo z.s z.ss z.d (4 + 1)) y by rw [HSU.out]; exact fy.co)
        have HKY := Lib.hid (HKV.out.trans ky)
        clear fy ky
        go_wp2_with (fail)
        go_roundw
        case rel => exact ⟨4 + 1, by omega, by go_num, HBY, HCY, HKY⟩
        case measure => simp only [intOf]; omega
      · obtain ⟨V, hV⟩ : ∃ X, X = wr.alloc (.cells #[.int .u8 6, .func (.func 54) #[] #[]] 68) := ⟨_, rfl⟩
        have hnew : Fnd z W g wr.heap.size 6 (.func (.func 54) #[] #[]) (bnTo z.s z.ss z.d 5) V ∧ Kg g wr V := by rw [hV]; exact fnd_new (kd := 6) (fv := .func (.func 54) #[] #[]) HZW.out hBk.out hgW hglr hCk.out
        have HFV := Lib.hid hnew.1
        have HKV := Lib.hid (hGk.out.trans hnew.2)
        have kx0 : V.cell? ⟨wr.heap.size, 0, none⟩ = some (.int .u8 6) := hnew.1.kx.cell rfl
        have kx1 : V.cell? ⟨wr.heap.size, 1, none⟩ = some (.func (.func 54) #[] #[]) := hnew.1.kx.cell rfl
        obtain ⟨f0, f1, f2, f3, f4, f5, f6, g0, g1, g2⟩ := HF.out V HFV.out.be
        clear hnew
        rw [hV] at f0 f1 f2 f3 f4 f5 f6 g0 g1 g2 kx0 kx1
        go_wp2_with (fail)
        rw [← hV]
        clear hV f0 f1 f2 f3 f4 f5 f6 g0 g1 g2 kx0 kx1 k0 k1 k2 k3 k4 k5 k6 k7 k8 k9 k10 k11 k12 k13 k14 k15 k16 k17 k18 k19
        go_at_call 54
        refine (c_findNears z W g wr.heap.size (.func (.func 54) #[] #[]) (bnTo z.s z.ss z.d 5) HOK.out (Nat.le_trans HLN.out (by omega)) V HFV.out).mono ?_
        rintro e y ⟨rfl, fy, ky⟩
        have HBY := Lib.hid fy.be
        have HCY := Lib.hid (show Col W.heap.size g (bnTo z.s z.ss z.d (5 + 1)) y by rw [HSU.out]; exact fy.co)
        have HKY := Lib.hid (HKV.out.trans ky)
        clear fy ky
        go_wp2_with (fail)
        go_roundw
        case rel => exact ⟨5 + 1, by omega, by go_num, HBY, HCY, HKY⟩
        case measure => simp only [intOf]; omega
      · obtain ⟨V, hV⟩ : ∃ X, X = wr.alloc (.cells #[.int .u8 7, .func (.func 55) #[] #[]] 68) := ⟨_, rfl⟩
        have hnew : Fnd z W g wr.heap.size 7 (.func (.func 55) #[] #[]) (bnTo z.s z.ss z.d 6) V ∧ Kg g wr V := by rw [hV]; exact fnd_new (kd := 7) (fv := .func (.func 55) #[] #[]) HZW.out hBk.out hgW hglr hCk.out
        have HFV := Lib.hid hnew.1
        have HKV := Lib.hid (hGk.out.trans hnew.2)
        have kx0 : V.cell? ⟨wr.heap.size, 0, none⟩ = some (.int .u8 7) := hnew.1.kx.cell rfl
        have kx1 : V.cell? ⟨wr.heap.size, 1, none⟩ = some (.func (.func 55) #[] #[]) := hnew.1.kx.cell rfl
        obtain ⟨f0, f1, f2, f3, f4, f5, f6, g0, g1, g2⟩ := HF.out V HFV.out.be
        clear hnew
        rw [hV] at f0 f1 f2 f3 f4 f5 f6 g0 g1 g2 kx0 kx1
        go_wp2_with (fail)
        rw [← hV]
        clear hV f0 f1 f2 f3 f4 f5 f6 g0 g1 g2 kx0 kx1 k0 k1 k2 k3 k4 k5 k6 k7 k8 k9 k10 k11 k12 k13 k14 k15 k16 k17 k18 k19
        go_at_call 55
        refine (c_findFirmwares z W g wr.heap.size (.func (.func 55) #[] #[]) (bnTo z.s z.ss z.d 6) HOK.out (Nat.le_trans HLN.out (by omega)) V HFV.out).mono ?_
        rintro e y ⟨rfl, fy, ky⟩
        have HBY := Lib.hid fy.be
        have HCY := Lib.hid (show Col W.heap.size g (bnTo z.s z.ss z.d (6 + 1)) y by rw [HSU.out]; exact fy.co)
        have HKY := Lib.hid (HKV.out.trans ky)
        clear fy ky
        go_wp2_with (fail)
        go_roundw
        case rel => exact ⟨6 + 1, by omega, by go_num, HBY, HCY, HKY⟩
        case measure => simp only [intOf]; omega
      · obtain ⟨V, hV⟩ : ∃ X, X = wr.alloc (.cells #[.int .u8 8, .func (.func 56) #[] #[]] 68) := ⟨_, rfl⟩
        have hnew : Fnd z W g wr.heap.size 8 (.func (.func 56) #[] #[]) (bnTo z.s z.ss z.d 7) V ∧ Kg g wr V := by rw [hV]; exact fnd_new (kd := 8) (fv := .func (.func 56) #[] #[]) HZW.out hBk.out hgW hglr hCk.out
        have HFV := Lib.hid hnew.1
        have HKV := Lib.hid (hGk.out.trans hnew.2)
        have kx0 : V.cell? ⟨wr.heap.size, 0, none⟩ = some (.int .u8 8) := hnew.1.kx.cell rfl
        have kx1 : V.cell? ⟨wr.heap.size, 1, none⟩ = some (.func (.func 56) #[] #[]) := hnew.1.kx.cell rfl
        obtain ⟨f0, f1, f2, f3, f4, f5, f6, g0, g1, g2⟩ := HF.out V HFV.out.be
        clear hnew
        rw [hV] at f0 f1 f2 f3 f4 f5 f6 g0 g1 g2 kx0 kx1
        go_wp2_with (fail)
        rw [← hV]
        clear hV f0 f1 f2 f3 f4 f5 f6 g0 g1 g2 kx0 kx1 k0 k1 k2 k3 k4 k5 k6 k7 k8 k9 k10 k11 k12 k13 k14 k15 k16 k17 k18 k19
        go_at_call 56
        refine (c_findBreakers z W g wr.heap.size (.func (.func 56) #[] #[]) (bnTo z.s z.ss z.d 7) HOK.out (Nat.le_trans HLN.out (by omega)) V HFV.out).mono ?_
        rintro e y ⟨rfl, fy, ky⟩
        have HBY := Lib.hid fy.be
        have HCY := Lib.hid (show Col W.heap.size g (bnTo z.s z.ss z.d (7 + 1)) y by rw [HSU.out]; exact fy.co)
        have HKY := Lib.hid (HKV.out.trans ky)
        clear fy ky
        go_wp2_with (fail)
        go_roundw
        case rel => exact ⟨7 + 1, by omega, by go_num, HBY, HCY, HKY⟩
        case measure => simp only [intOf]; omega
      · obtain ⟨V, hV⟩ : ∃ X, X = wr.alloc (.cells #[.int .u8 9, .func (.func 57) #[] #[]] 68) := ⟨_, rfl⟩
        have hnew : Fnd z W g wr.heap.size 9 (.func (.func 57) #[] #[]) (bnTo z.s z.ss z.d 8) V ∧ Kg g wr V := by rw [hV]; exact fnd_new (kd := 9) (fv := .func (.func 57) #[] #[]) HZW.out hBk.out hgW hglr hCk.out
        have HFV := Lib.hid hnew.1
        have HKV := Lib.hid (hGk.out.trans hnew.2)
        have kx0 : V.cell? ⟨wr.heap.size, 0, none⟩ = some (.int .u8 9) := hnew.1.kx.cell rfl
        have kx1 : V.cell? ⟨wr.heap.size, 1, none⟩ = some (.func (.func 57) #[] #[]) := hnew.1.kx.cell rfl
        obtain ⟨f0, f1, f2, f3, f4, f5, f6, g0, g1, g2⟩ := HF.out V HFV.out.be
        clear hnew
        rw [hV] at f0 f1 f2 f3 f4 f5 f6 g0 g1 g2 kx0 kx1
        go_wp2_with (fail)
        rw [← hV]
        clear hV f0 f1 f2 f3 f4 f5 f6 g0 g1 g2 kx0 kx1 k0 k1 k2 k3 k4 k5 k6 k7 k8 k9 k10 k11 k12 k13 k14 k15 k16 k17 k18 k19
        go_at_call 57
        refine (c_findFeeds z W g wr.heap.size (.func (.func 57) #[] #[]) (bnTo z.s z.ss z.d 8) HOK.out (Nat.le_trans HLN.out (by omega)) V HFV.out).mono ?_
        rintro e y ⟨rfl, fy, ky⟩
        have HBY := Lib.hid fy.be
        have HCY := Lib.hid (show Col W.heap.size g (bnTo z.s z.ss z.d (8 + 1)) y by rw [HSU.out]; exact fy.co)
        have HKY := Lib.hid (HKV.out.trans ky)
        clear fy ky
        go_wp2_with (fail)
        go_roundw
        case rel => exact ⟨8 + 1, by omega, by go_num, HBY, HCY, HKY⟩
        case measure => simp only [intOf]; omega
      · obtain ⟨V, hV⟩ : ∃ X, X = wr.alloc (.cells #[.int .u8 10, .func (.func 58) #[] #[]] 68) := ⟨_, rfl⟩
        have hnew : Fnd z W g wr.heap.size 10 (.func (.func 58) #[] #[]) (bnTo z.s z.ss z.d 9) V ∧ Kg g wr V := by rw [hV]; exact fnd_new (kd := 10) (fv := .func (.func 58) #[] #[]) HZW.out hBk.out hgW hglr hCk.out
        have HFV := Lib.hid hnew.1
        have HKV := Lib.hid (hGk.out.trans hnew.2)
        have kx0 : V.cell? ⟨wr.heap.size, 0, none⟩ = some (.int .u8 10) := hnew.1.kx.cell rfl
        have kx1 : V.cell? ⟨wr.heap.size, 1, none⟩ = some (.func (.func 58) #[] #[]) := hnew.1.kx.cell rfl
        obtain ⟨f0, f1, f2, f3, f4, f5, f6, g0, g1, g2⟩ := HF.out V HFV.out.be
        clear hnew
        rw [hV] at f0 f1 f2 f3 f4 f5 f6 g0 g1 g2 kx0 kx1
        go_wp2_with (fail)
        rw [← hV]
        clear hV f0 f1 f2 f3 f4 f5 f6 g0 g1 g2 kx0 kx1 k0 k1 k2 k3 k4 k5 k6 k7 k8 k9 k10 k11 k12 k13 k14 k15 k16 k17 k18 k19
        go_at_call 58
        refine (c_findLoops z W g wr.heap.size (.func (.func 58) #[] #[]) (bnTo z.s z.ss z.d 9) HOK.out (Nat.le_trans HLN.out (by omega)) V HFV.out).mono ?_
        rintro e y ⟨rfl, fy, ky⟩
        have HBY := Lib.hid fy.be
        have HCY := Lib.hid (show Col W.heap.size g (bnTo z.s z.ss z.d (9 + 1)) y by rw [HSU.out]; exact fy.co)
        have HKY := Lib.hid (HKV.out.trans ky)
        clear fy ky
        go_wp2_with (fail)
        go_roundw
        case rel => exact ⟨9 + 1, by omega, by go_num, HBY, HCY, HKY⟩
        case measure => simp only [intOf]; omega
    · obtain rfl : k = 10 := by omega
      obtain ⟨v, hv, ho⟩ := hCk.out.ex
      have x0 : wr.cell? ⟨g, 0, none⟩ = some v := cell_of hv rfl
      have HO := Lib.hid ho
      clear hv ho
      go_wp2_with (fail)
      go_ret
      obtain ⟨A, c, rfl, hrv⟩ := own_rv (k := 3) (F := bnF) HO.out
      rw [HE.out] at hrv ⊢
      exact ⟨A, c, rfl, hrv, below_join HB.out hBk.out hle⟩
end Go.Proofs.YtbbadnlaelgmlaaGreat

namespace Go.Proofs.YtbbadnlaelgmlaaGreat
open Go.RowKit
set_option maxRecDepth 100000
set_option linter.unusedVariables false
set_option linter.unusedSimpArgs false

def bnA (x : Bn) : Value := .agg #[.int .u8 (x.kind : Int), .int .i64 x.a, .int .i64 x.b]
theorem bn_fields : Tryz.prog.underlying 44 = some (.struct (Tryz.prog.fieldsOf 44)) := by kernel_rfl
theorem bn_list : (Tryz.prog.fieldsOf 44).toList.map (fun f => (f.name, f.type, f.offset)) = [("Kind", 42, 0), ("A", 3, 1), ("B", 3, 2)] := by kernel_rfl
theorem bn_stood : Tryz.prog.stoodInHeld 44 = false := by kernel_rfl
theorem bn_guard : Tryz.prog.eqGuardType Tryz.prog.depth 44 = false := by kernel_rfl
theorem guardBn (op : BinOp) (x y : Operand) (xs ys : Array Value) (w : World) : (eqGuard op 44 x y (.agg xs) (.agg ys)).run Tryz.prog w = .ok () w := run_eqGuard_agg w op _ x y xs ys bn_guard
theorem bn_three : ∃ f g h : Field, (Tryz.prog.fieldsOf 44).toList = [f, g, h] ∧ (f.name = "Kind" ∧ f.type = 42 ∧ f.offset = 0) ∧ (g.name = "A" ∧ g.type = 3 ∧ g.offset = 1) ∧ (h.name = "B" ∧ h.type = 3 ∧ h.offset = 2) := by
  have := bn_list
  match h : (Tryz.prog.fieldsOf 44).toList with
  | [f, g, i] =>
    rw [h] at this
    simp only [List.map_cons, List.map_nil, List.cons.injEq, Prod.mk.injEq] at this
    exact ⟨f, g, i, rfl, this.1, this.2.1, this.2.2.1⟩
  | [] => rw [h] at this; cases this
  | [f] => rw [h] at this; simp at this
  | [f, g] => rw [h] at this; simp at this
  | f :: g :: i :: j :: r => rw [h] at this; simp at this
theorem eqFieldsBn (a b s t p q : Int) (w : World) : (Op.eqFields 9999 #[.int .u8 a, .int .i64 s, .int .i64 p] #[.int .u8 b, .int .i64 t, .int .i64 q] (Tryz.prog.fieldsOf 44).toList).run Tryz.prog w = .ok ((a == b) && ((s == t) && (p == q))) w := by
  obtain ⟨f, g, h, e, ⟨fn, ft, fo⟩, ⟨gn, gt, go⟩, ⟨hn, ht, ho⟩⟩ := bn_three
  rw [e]
  simp only [Op.eqFields, fn, ft, fo, gn, gt, go, hn, ht, ho]
  cases hab : (a == b) <;> cases hst : (s == t) <;> cases hpq : (p == q) <;> simp [go_sem, hab, hst, hpq]
theorem bn_beq {x y : Bn} : (((x.kind : Int) == (y.kind : Int)) && ((x.a == y.a) && (x.b == y.b))) = decide (x = y) := by
  cases x; cases y
  rw [Bool.eq_iff_iff]
  simp
  omega
theorem neqBn (a b s t p q : Int) (w : World) : (binOp .neq 44 (.agg #[.int .u8 a, .int .i64 s, .int .i64 p]) (.agg #[.int .u8 b, .int .i64 t, .int .i64 q])).run Tryz.prog w = .ok (.bool (!((a == b) && ((s == t) && (p == q))))) w := by
  rw [run_neq_struct, run_equalIn_agg w 9999 _ _ _ bn_fields bn_stood, eqFieldsBn]
  rfl
/-- The entries of a map whose keys are these, each with true. -/
def mkEb : List Bn → Nat → List MapEntry
  | [], _ => []
  | k :: l, n => { key := bnA k, val := .bool true, born := n } :: mkEb l (n + 1)
def MapB (w : World) (b : Nat) (ks : List Bn) : Prop := ∃ es, w.heap[b]? = some (.map es ks.length) ∧ es.toList = mkEb ks 0
theorem MapB.on {w w' : World} {b n : Nat} {ks : List Bn} (h : MapB w b ks) (hb : Below n w w') (hn : w.heap.size ≤ n) : MapB w' b ks := by
  obtain ⟨es, h1, h2⟩ := h
  exact ⟨es, (hb.block b (by have := (Array.getElem?_eq_some_iff.1 h1).1; omega)).trans h1, h2⟩
theorem MapB.lt {w : World} {b : Nat} {ks : List Bn} (h : MapB w b ks) : b < w.heap.size := by
  obtain ⟨es, h1, -⟩ := h; exact (Array.getElem?_eq_some_iff.1 h1).1
/-- An element of a list of broken invariants in memory. -/
theorem bn_at {w : World} {b o c : Nat} {l : List Bn} (h : Rv 3 bnF w (some ⟨b, o, none⟩) c l) {j : Nat} {x : Bn} (hj : l[j]? = some x) : w.cell? ⟨b, o + j * 3, none⟩ = some (.int .u8 (x.kind : Int)) ∧ w.cell? ⟨b, o + j * 3 + 1, none⟩ = some (.int .i64 x.a) ∧ w.cell? ⟨b, o + j * 3 + 2, none⟩ = some (.int .i64 x.b) := by
  obtain ⟨b', o', e, -, h0⟩ := h.at_ hj
  injection e with e
  injection e with e1 e2
  subst e1 e2
  exact ⟨h0 0 (by omega), h0 1 (by omega), h0 2 (by omega)⟩
end Go.Proofs.YtbbadnlaelgmlaaGreat

namespace Go.Proofs.YtbbadnlaelgmlaaGreat
open Go.RowKit
set_option maxRecDepth 100000
set_option linter.unusedVariables false
set_option linter.unusedSimpArgs false

theorem bnC_snoc (l : List Bn) (x : Bn) : cellsV 3 bnF (l ++ [x]) = cellsV 3 bnF l ++ [.int .u8 (x.kind : Int), .int .i64 x.a, .int .i64 x.b] := by rw [cellsV_append, bn_one]
set_option maxHeartbeats 8000000 in
theorem c_irSame (A : Option Addr) (c : Nat) (l : List Bn) (A2 : Option Addr) (c2 : Nat) (m : List Bn) (r : Bool) (hr : decide (l = m) = r) (w : World) (h1 : Rv 3 bnF w A c l) (h2 : Rv 3 bnF w A2 c2 m) :
    Calls Tryz.prog 12 #[.slice A l.length c, .slice A2 m.length c2] w fun e w' => e = .returned (.bool r) ∧ Below w.heap.size w w' := by
  have heq := neqBn
  have hgd := guardBn
  have H1 := Lib.hid (fun (X : World) (hX : Below w.heap.size w X) => h1.on hX (Nat.le_refl _))
  have H2 := Lib.hid (fun (X : World) (hX : Below w.heap.size w X) => h2.on hX (Nat.le_refl _))
  have HKw := Lib.hid (Below.refl w.heap.size w)
  have hc1 := h1.1; have hc2 := h1.2.1; have hc3 := h2.1; have hc4 := h2.2.1
  unfold maxLen at hc2 hc4
  have HRR := Lib.hid hr
  clear h1 h2 hr
  go_enter Tryz.func12, Tryz.ntmps12
  by_cases hll : l.length = m.length
  · have hl0 : ((l.length : Int) != (m.length : Int)) = false := by rw [hll]; simp
    have HLL := Lib.hid hll
    clear hll
    go_wp2_with (fail)
    go_loopw [5] (fun i wr => ∃ k : Nat, k ≤ l.length ∧ i = .int .i64 (k : Int) ∧ Hid (Below w.heap.size w wr) ∧ Hid (l.take k = m.take k)) (fun i _ => l.length - (intOf i).toNat)
    case atStart => exact ⟨0, Nat.zero_le _, rfl, HKw, Lib.hid rfl⟩
    case round =>
      obtain ⟨k, hk, rfl, HKwr, hun⟩ := hrel
      have hki : ((k : Nat) : Int).toNat = k := by omega
      by_cases hlt : k < l.length
      · obtain ⟨x, hx⟩ : ∃ x, l[k]? = some x := ⟨_, List.getElem?_eq_getElem hlt⟩
        obtain ⟨y, hy⟩ : ∃ y, m[k]? = some y := ⟨_, List.getElem?_eq_getElem (by have := HLL.out; omega)⟩
        have hki2 : (k : Int) < (l.length : Int) := by omega
        have hki3 : (k : Int) < (m.length : Int) := by have := HLL.out; omega
        obtain ⟨pb, po, pe, -, -⟩ := (H1.out wr HKwr.out).at_ hx
        have pr := H1.out wr HKwr.out
        rw [pe] at pr
        obtain ⟨y0, y1, y2⟩ := bn_at pr hx
        obtain ⟨qb, qo, qe, -, -⟩ := (H2.out wr HKwr.out).at_ hy
        have qr := H2.out wr HKwr.out
        rw [qe] at qr
        obtain ⟨u0, u1, u2⟩ := bn_at qr hy
        have HS := Lib.hid (fun (X : World) (hX : Below wr.heap.size wr X) => (by
          have hk2 := below_join HKwr.out hX HKwr.out.size
          have r1 := H1.out X hk2
          rw [pe] at r1
          have r2 := H2.out X hk2
          rw [qe] at r2
          obtain ⟨q0, q1, q2⟩ := bn_at r1 hx
          exact ⟨q0, q1, q2, bn_at r2 hy⟩ : X.cell? ⟨pb, po + k * 3, none⟩ = some (.int .u8 (x.kind : Int)) ∧ X.cell? ⟨pb, po + k * 3 + 1, none⟩ = some (.int .i64 x.a) ∧ X.cell? ⟨pb, po + k * 3 + 2, none⟩ = some (.int .i64 x.b) ∧ X.cell? ⟨qb, qo + k * 3, none⟩ = some (.int .u8 (y.kind : Int)) ∧ X.cell? ⟨qb, qo + k * 3 + 1, none⟩ = some (.int .i64 y.a) ∧ X.cell? ⟨qb, qo + k * 3 + 2, none⟩ = some (.int .i64 y.b)))
        have HXX := Lib.hid hx
        have HYY := Lib.hid hy
        have HKbwr := Lib.hid (Below.refl wr.heap.size wr)
        obtain ⟨b, hb⟩ : ∃ b, decide (x = y) = b := ⟨_, rfl⟩
        have hbq : (((x.kind : Int) == (y.kind : Int)) && ((x.a == y.a) && (x.b == y.b))) = b := by rw [bn_beq]; exact hb
        have HBQ := Lib.hid hb
        have heq2 : ∀ W2 : World, (binOp .neq 44 (.agg #[.int .u8 (x.kind : Int), .int .i64 x.a, .int .i64 x.b]) (.agg #[.int .u8 (y.kind : Int), .int .i64 y.a, .int .i64 y.b])).run Tryz.prog W2 = .ok (.bool (!b)) W2 := fun W2 => by rw [heq, hbq]
        rw [pe, qe]
        clear hx hy pr qr hb hbq heq
        rcases b with _ | _
        · have HT := Lib.hid (show false = r by
            rw [← HRR.out]; symm
            refine decide_eq_false fun hm => ?_
            subst hm
            have e := HXX.out
            rw [HYY.out] at e
            injection e with e
            exact of_decide_eq_false HBQ.out e.symm)
          simp only [Bool.not_false] at heq2
          go_wp2_with (fail)
          clear y0 y1 y2 u0 u1 u2
          go_region_held3 (fun X => X.cell? ⟨pb, po + k * 3, none⟩ = some (.int .u8 (x.kind : Int)) ∧ X.cell? ⟨pb, po + k * 3 + 1, none⟩ = some (.int .i64 x.a) ∧ X.cell? ⟨pb, po + k * 3 + 2, none⟩ = some (.int .i64 x.b) ∧ X.cell? ⟨qb, qo + k * 3, none⟩ = some (.int .u8 (y.kind : Int)) ∧ X.cell? ⟨qb, qo + k * 3 + 1, none⟩ = some (.int .i64 y.a) ∧ X.cell? ⟨qb, qo + k * 3 + 2, none⟩ = some (.int .i64 y.b))
            (first | exact HS.out wr HKbwr.out | fail)
            (first
              | fail)
          go_wp2_with (fail)
          go_ret
          exact ⟨by rw [HT.out]; rfl, HKwr.out.drew⟩
        · have HUN := Lib.hid (show l.take (k + 1) = m.take (k + 1) by
            rw [List.take_add_one, List.take_add_one, hun.out, HXX.out, HYY.out, of_decide_eq_true HBQ.out])
          simp only [Bool.not_true] at heq2
          go_wp2_with (fail)
          clear y0 y1 y2 u0 u1 u2
          go_region_held3 (fun X => X.cell? ⟨pb, po + k * 3, none⟩ = some (.int .u8 (x.kind : Int)) ∧ X.cell? ⟨pb, po + k * 3 + 1, none⟩ = some (.int .i64 x.a) ∧ X.cell? ⟨pb, po + k * 3 + 2, none⟩ = some (.int .i64 x.b) ∧ X.cell? ⟨qb, qo + k * 3, none⟩ = some (.int .u8 (y.kind : Int)) ∧ X.cell? ⟨qb, qo + k * 3 + 1, none⟩ = some (.int .i64 y.a) ∧ X.cell? ⟨qb, qo + k * 3 + 2, none⟩ = some (.int .i64 y.b))
            (first | exact HS.out wr HKbwr.out | fail)
            (first
              | fail)
          go_wp2_with (fail)
          go_roundw
          case rel => exact ⟨k + 1, by omega, by go_num, Lib.hid HKwr.out.drew, HUN⟩
          case measure => simp only [intOf]; omega
      · obtain rfl : k = l.length := by omega
        have HT := Lib.hid (show true = r by
          rw [← HRR.out]; symm
          refine decide_eq_true ?_
          have := hun.out
          rw [List.take_length, HLL.out, List.take_length] at this
          exact this)
        go_wp2_with (fail)
        go_ret
        exact ⟨by rw [HT.out]; rfl, HKwr.out⟩
  · have hl0 : ((l.length : Int) != (m.length : Int)) = true := by rw [bne_iff_ne]; omega
    have HT := Lib.hid (show false = r by
      rw [← HRR.out]; symm
      exact decide_eq_false fun e => hll (by rw [e]))
    clear hll
    go_wp2_with (fail)
    go_ret
    exact ⟨by rw [HT.out]; rfl, HKw.out⟩
def addL (l : List Bn) (is : Bool) (x : Bn) : List Bn := l ++ if is = true then [x] else []
theorem addL_no (l : List Bn) (x : Bn) : addL l false x = l := by simp [addL]
theorem addL_yes (l : List Bn) (x : Bn) : addL l true x = l ++ [x] := rfl
/-- A list that a function has made itself, while it is made. -/
structure Ow (B : Nat) (v : Value) (l : List Bn) (X : World) : Prop where
  row : X.ownsRow B 44 3 v l.length (cellsV 3 bnF l)
  le : B ≤ X.heap.size
theorem Ow.on {B C : Nat} {v : Value} {l : List Bn} {X Y : World} (h : Ow B v l X) (hb : Below C X Y) (hC : X.heap.size ≤ C) : Ow B v l Y := ⟨own_on h.row hb hC, Nat.le_trans h.le hb.size⟩
/-- What an append to it leaves: all but its own block. -/
def AddFr (v v' : Value) (X Y : World) : Prop := (∀ (k : Nat) (o : Obj), v.ownBlock ≠ some k → X.heap[k]? = some o → Y.heap[k]? = some o) ∧ (v'.ownBlock = v.ownBlock ∨ ∃ b, v'.ownBlock = some b ∧ X.heap.size ≤ b)
/-- A block that is not the list's. -/
def Lv (v : Value) (X : World) (m : Nat) (o : Obj) : Prop := X.heap[m]? = some o ∧ v.ownBlock ≠ some m
theorem Lv.on {v : Value} {X Y : World} {m C : Nat} {o : Obj} (h : Lv v X m o) (hb : Below C X Y) (hC : X.heap.size ≤ C) : Lv v Y m o := ⟨box_on h.1 hb hC, h.2⟩
theorem Lv.add {v v' : Value} {X Y : World} {m : Nat} {o : Obj} (h : Lv v X m o) (k : AddFr v v' X Y) : Lv v' Y m o := by
  refine ⟨k.1 m o h.2 h.1, fun e => ?_⟩
  rcases k.2 with h4 | ⟨b, h4, h5⟩
  · exact h.2 (h4 ▸ e)
  · rw [h4] at e
    injection e with e
    have := at_lt h.1
    omega
theorem Ow.new {B : Nat} {v : Value} {l : List Bn} {X Y : World} {m : Nat} {o : Obj} (h : Ow B v l X) (hm : X.heap.size ≤ m) (ho : Y.heap[m]? = some o) : Lv v Y m o :=
  ⟨ho, fun e => by have := (ownsRow_lt h.row e).2; omega⟩
set_option maxHeartbeats 8000000 in
/-- add: one more, if it is broken. -/
theorem c_add (B : Nat) (v : Value) (l : List Bn) (is : Bool) (kd : Nat) (kq : Int) (hq : (kd : Int) = kq) (a b : Int) (hl : l.length ≤ 10000) (w : World) (h : Ow B v l w) :
    Calls Tryz.prog 59 #[v, .bool is, .int .u8 kq, .int .i64 a, .int .i64 b] w fun e w' => ∃ v' : Value, e = .returned v' ∧ Ow B v' (addL l is ⟨kd, a, b⟩) w' ∧ Below B w w' ∧ AddFr v v' w w' := by
  subst hq
  have hB := h.le
  have hr := h.row
  obtain ⟨n, hn⟩ : ∃ n, l.length = n := ⟨_, rfl⟩
  rw [hn] at hr hl
  have HN := Lib.hid hn
  obtain ⟨A, c, rfl⟩ := own_shape hr
  have HO := Lib.hid hr
  obtain ⟨i1, hi1, hz1, hz2, hz3⟩ := info_parts bn_info
  clear h hn hr
  rcases is with _ | _
  · go_enter Tryz.func59, Tryz.ntmps59
    go_wp2_with (fail)
    go_ret
    refine ⟨_, rfl, ⟨?_, hB⟩, Below.refl _ _, fun _ _ _ h => h, .inl rfl⟩
    rw [addL_no, HN.out]
    exact HO.out
  · go_enter Tryz.func59, Tryz.ntmps59
    go_wp2_with (at_builtin; refine wpList_append_lies _ rfl _ _ 40 rfl B 44 i1 (.agg #[.int .u8 0, .int .i64 0, .int .i64 0]) 3 24 Tryz.underlying40 hi1 hz1 hz2 hz3 rfl (by decide) (.slice A n c) n _ rfl (own_on HO.out ((Below.refl w.heap.size w).alloc (Nat.le_refl _) _) (Nat.le_refl _)) ⟨w.heap.size, 0, none⟩ 1 1 [.int .u8 (kd : Int), .int .i64 a, .int .i64 b] rfl rfl (World.news_of_block (heap_alloc_new _ _)) (by simp [Value.oneCell']) (by decide) (by unfold maxLen; omega) (by omega) (by simp; omega) (w.heap.size + 1) (by simp) ?_; intro g4 cap4 Z hown hgrow hat hlt; have HOZ := Lib.hid hown; have HG := Lib.hid hgrow; have HAT := Lib.hid hat; have HBZ := Lib.hid (((Below.refl B w).alloc hB _).grown hgrow (by simp; omega) (fun k hk => (ownsRow_lt HO.out hk).1)); clear hown hgrow hat)
    go_ret
    refine ⟨_, rfl, ⟨?_, Nat.le_trans hB HBZ.out.size⟩, HBZ.out, fun k o h1 h2 => ?_, ?_⟩
    · rw [addL_yes, List.length_append, HN.out, bnC_snoc]
      exact HOZ.out
    · rw [HG.out.block k (by simp; have := at_lt h2; omega) (fun e => h1 e.symm), Below.heap_alloc _ _ _ (at_lt h2)]
      exact h2
    · rcases HAT.out with e | e
      · exact .inl (by rw [e]; rfl)
      · exact .inr ⟨g4, rfl, by omega⟩
end Go.Proofs.YtbbadnlaelgmlaaGreat

namespace Go.Proofs.YtbbadnlaelgmlaaGreat
open Go.RowKit
set_option maxRecDepth 100000
set_option linter.unusedVariables false
set_option linter.unusedSimpArgs false

set_option maxHeartbeats 8000000 in
theorem c_rCountNone (p : SP) (s : SiteD) (d : Nat) (hd : d < 256) (hno : ¬ (1 ≤ d ∧ d ≤ 5)) (ok : Bool) (hok : siteOk s = ok) (r : Int) (hr : (if ok = true then 0 else 0) = r) (w : World) (h : SiAt w p s) :
    Calls Tryz.prog 62 #[siV p s, .int .u8 (d : Int)] w fun e w' => e = .returned (.int .i64 r) ∧ Below w.heap.size w w' := by
  have HV := Lib.hid (fun (X : World) (hX : SiAt X p s) => c_srValid p s ok hok X hX)
  unfold siV at HV
  have d1 : ((d : Int) == 1) = false := by rw [beq_eq_false_iff_ne]; omega
  have d2 : ((d : Int) == 2) = false := by rw [beq_eq_false_iff_ne]; omega
  have d3 : ((d : Int) == 3) = false := by rw [beq_eq_false_iff_ne]; omega
  have d4 : ((d : Int) == 4) = false := by rw [beq_eq_false_iff_ne]; omega
  have d5 : ((d : Int) == 5) = false := by rw [beq_eq_false_iff_ne]; omega

  unfold siV
  obtain ⟨W, hW⟩ : ∃ W, W = w.alloc (.cells #[.slice p.a1 s.feeds.length p.c1, .slice p.a2 s.brks.length p.c2, .slice p.a3 s.loops.length p.c3, .slice p.a4 s.racks.length p.c4, .int .i64 s.sw, .slice p.a5 s.links.length p.c5, .slice p.a6 s.hosts.length p.c6] 29) := ⟨_, rfl⟩
  have B0 : Below w.heap.size w W := by subst hW; exact (Below.refl _ _).alloc (Nat.le_refl _) _
  have HB0 := Lib.hid B0
  have HX := Lib.hid (show SiBox W w.heap.size p s by subst hW; exact siBox_new _ _ _)
  have HA := Lib.hid (h.on B0 (Nat.le_refl _))
  have HF := Lib.hid (fun (X : World) (hX : Below W.heap.size W X) => (let z := HX.out.on hX (Nat.le_refl _); ⟨z.c0, z.c1, z.c2, z.c3, z.c4, z.c5, z.c6⟩ : X.cell? ⟨w.heap.size, 0, none⟩ = some (.slice p.a1 s.feeds.length p.c1) ∧ X.cell? ⟨w.heap.size, 1, none⟩ = some (.slice p.a2 s.brks.length p.c2) ∧ X.cell? ⟨w.heap.size, 2, none⟩ = some (.slice p.a3 s.loops.length p.c3) ∧ X.cell? ⟨w.heap.size, 3, none⟩ = some (.slice p.a4 s.racks.length p.c4) ∧ X.cell? ⟨w.heap.size, 4, none⟩ = some (.int .i64 s.sw) ∧ X.cell? ⟨w.heap.size, 5, none⟩ = some (.slice p.a5 s.links.length p.c5) ∧ X.cell? ⟨w.heap.size, 6, none⟩ = some (.slice p.a6 s.hosts.length p.c6)))
  have m1 := h.feeds.1; have m2 := h.brks.1; have m3 := h.loops.1; have m4 := h.racks.1; have m5 := h.links.1; have m6 := h.hosts.1
  have n1 := h.feeds.2.1; have n2 := h.brks.2.1; have n3 := h.loops.2.1; have n4 := h.racks.2.1; have n5 := h.links.2.1; have n6 := h.hosts.2.1
  unfold maxLen at n1 n2 n3 n4 n5 n6
  have KW := Lib.hid (Below.refl W.heap.size W)
  have hlw : w.heap.size < W.heap.size := HX.out.lt
  clear B0 h
  obtain ⟨f0, f1, f2, f3, f4, f5, f6⟩ := HF.out W KW.out
  rw [hW] at f0 f1 f2 f3 f4 f5 f6
  go_enter Tryz.func62, Tryz.ntmps62
  go_wp2_with (fail)
  rw [← hW]
  clear hW f0 f1 f2 f3 f4 f5 f6
  go_at_call 34
  refine (HV.out W HA.out).mono ?_
  rintro e w1 ⟨rfl, b1⟩
  have K1 := Lib.hid b1
  clear b1
  obtain ⟨f0, f1, f2, f3, f4, f5, f6⟩ := HF.out w1 K1.out
  cases ok
  · obtain rfl : 0 = r := hr
    go_wp2_with (fail)
    go_ret
    exact ⟨rfl, below_join HB0.out K1.out HB0.out.size⟩
  · obtain rfl : 0 = r := hr
    go_wp2_with (fail)
    go_ret
    exact ⟨rfl, below_join HB0.out K1.out HB0.out.size⟩
set_option maxHeartbeats 8000000 in
theorem c_rCount1 (p : SP) (s : SiteD) (ok : Bool) (hok : siteOk s = ok) (r : Int) (hr : (if ok = true then (s.hosts.length : Int) else 0) = r) (w : World) (h : SiAt w p s) :
    Calls Tryz.prog 62 #[siV p s, .int .u8 1] w fun e w' => e = .returned (.int .i64 r) ∧ Below w.heap.size w w' := by
  have HV := Lib.hid (fun (X : World) (hX : SiAt X p s) => c_srValid p s ok hok X hX)
  unfold siV at HV

  unfold siV
  obtain ⟨W, hW⟩ : ∃ W, W = w.alloc (.cells #[.slice p.a1 s.feeds.length p.c1, .slice p.a2 s.brks.length p.c2, .slice p.a3 s.loops.length p.c3, .slice p.a4 s.racks.length p.c4, .int .i64 s.sw, .slice p.a5 s.links.length p.c5, .slice p.a6 s.hosts.length p.c6] 29) := ⟨_, rfl⟩
  have B0 : Below w.heap.size w W := by subst hW; exact (Below.refl _ _).alloc (Nat.le_refl _) _
  have HB0 := Lib.hid B0
  have HX := Lib.hid (show SiBox W w.heap.size p s by subst hW; exact siBox_new _ _ _)
  have HA := Lib.hid (h.on B0 (Nat.le_refl _))
  have HF := Lib.hid (fun (X : World) (hX : Below W.heap.size W X) => (let z := HX.out.on hX (Nat.le_refl _); ⟨z.c0, z.c1, z.c2, z.c3, z.c4, z.c5, z.c6⟩ : X.cell? ⟨w.heap.size, 0, none⟩ = some (.slice p.a1 s.feeds.length p.c1) ∧ X.cell? ⟨w.heap.size, 1, none⟩ = some (.slice p.a2 s.brks.length p.c2) ∧ X.cell? ⟨w.heap.size, 2, none⟩ = some (.slice p.a3 s.loops.length p.c3) ∧ X.cell? ⟨w.heap.size, 3, none⟩ = some (.slice p.a4 s.racks.length p.c4) ∧ X.cell? ⟨w.heap.size, 4, none⟩ = some (.int .i64 s.sw) ∧ X.cell? ⟨w.heap.size, 5, none⟩ = some (.slice p.a5 s.links.length p.c5) ∧ X.cell? ⟨w.heap.size, 6, none⟩ = some (.slice p.a6 s.hosts.length p.c6)))
  have m1 := h.feeds.1; have m2 := h.brks.1; have m3 := h.loops.1; have m4 := h.racks.1; have m5 := h.links.1; have m6 := h.hosts.1
  have n1 := h.feeds.2.1; have n2 := h.brks.2.1; have n3 := h.loops.2.1; have n4 := h.racks.2.1; have n5 := h.links.2.1; have n6 := h.hosts.2.1
  unfold maxLen at n1 n2 n3 n4 n5 n6
  have KW := Lib.hid (Below.refl W.heap.size W)
  have hlw : w.heap.size < W.heap.size := HX.out.lt
  clear B0 h
  obtain ⟨f0, f1, f2, f3, f4, f5, f6⟩ := HF.out W KW.out
  rw [hW] at f0 f1 f2 f3 f4 f5 f6
  go_enter Tryz.func62, Tryz.ntmps62
  go_wp2_with (fail)
  rw [← hW]
  clear hW f0 f1 f2 f3 f4 f5 f6
  go_at_call 34
  refine (HV.out W HA.out).mono ?_
  rintro e w1 ⟨rfl, b1⟩
  have K1 := Lib.hid b1
  clear b1
  obtain ⟨f0, f1, f2, f3, f4, f5, f6⟩ := HF.out w1 K1.out
  cases ok
  · obtain rfl : 0 = r := hr
    go_wp2_with (fail)
    go_ret
    exact ⟨rfl, below_join HB0.out K1.out HB0.out.size⟩
  · obtain rfl : (s.hosts.length : Int) = r := hr
    go_wp2_with (fail)
    go_ret
    exact ⟨rfl, below_join HB0.out K1.out HB0.out.size⟩
set_option maxHeartbeats 8000000 in
theorem c_rCount2 (p : SP) (s : SiteD) (ok : Bool) (hok : siteOk s = ok) (r : Int) (hr : (if ok = true then (s.racks.length : Int) else 0) = r) (w : World) (h : SiAt w p s) :
    Calls Tryz.prog 62 #[siV p s, .int .u8 2] w fun e w' => e = .returned (.int .i64 r) ∧ Below w.heap.size w w' := by
  have HV := Lib.hid (fun (X : World) (hX : SiAt X p s) => c_srValid p s ok hok X hX)
  unfold siV at HV

  unfold siV
  obtain ⟨W, hW⟩ : ∃ W, W = w.alloc (.cells #[.slice p.a1 s.feeds.length p.c1, .slice p.a2 s.brks.length p.c2, .slice p.a3 s.loops.length p.c3, .slice p.a4 s.racks.length p.c4, .int .i64 s.sw, .slice p.a5 s.links.length p.c5, .slice p.a6 s.hosts.length p.c6] 29) := ⟨_, rfl⟩
  have B0 : Below w.heap.size w W := by subst hW; exact (Below.refl _ _).alloc (Nat.le_refl _) _
  have HB0 := Lib.hid B0
  have HX := Lib.hid (show SiBox W w.heap.size p s by subst hW; exact siBox_new _ _ _)
  have HA := Lib.hid (h.on B0 (Nat.le_refl _))
  have HF := Lib.hid (fun (X : World) (hX : Below W.heap.size W X) => (let z := HX.out.on hX (Nat.le_refl _); ⟨z.c0, z.c1, z.c2, z.c3, z.c4, z.c5, z.c6⟩ : X.cell? ⟨w.heap.size, 0, none⟩ = some (.slice p.a1 s.feeds.length p.c1) ∧ X.cell? ⟨w.heap.size, 1, none⟩ = some (.slice p.a2 s.brks.length p.c2) ∧ X.cell? ⟨w.heap.size, 2, none⟩ = some (.slice p.a3 s.loops.length p.c3) ∧ X.cell? ⟨w.heap.size, 3, none⟩ = some (.slice p.a4 s.racks.length p.c4) ∧ X.cell? ⟨w.heap.size, 4, none⟩ = some (.int .i64 s.sw) ∧ X.cell? ⟨w.heap.size, 5, none⟩ = some (.slice p.a5 s.links.length p.c5) ∧ X.cell? ⟨w.heap.size, 6, none⟩ = some (.slice p.a6 s.hosts.length p.c6)))
  have m1 := h.feeds.1; have m2 := h.brks.1; have m3 := h.loops.1; have m4 := h.racks.1; have m5 := h.links.1; have m6 := h.hosts.1
  have n1 := h.feeds.2.1; have n2 := h.brks.2.1; have n3 := h.loops.2.1; have n4 := h.racks.2.1; have n5 := h.links.2.1; have n6 := h.hosts.2.1
  unfold maxLen at n1 n2 n3 n4 n5 n6
  have KW := Lib.hid (Below.refl W.heap.size W)
  have hlw : w.heap.size < W.heap.size := HX.out.lt
  clear B0 h
  obtain ⟨f0, f1, f2, f3, f4, f5, f6⟩ := HF.out W KW.out
  rw [hW] at f0 f1 f2 f3 f4 f5 f6
  go_enter Tryz.func62, Tryz.ntmps62
  go_wp2_with (fail)
  rw [← hW]
  clear hW f0 f1 f2 f3 f4 f5 f6
  go_at_call 34
  refine (HV.out W HA.out).mono ?_
  rintro e w1 ⟨rfl, b1⟩
  have K1 := Lib.hid b1
  clear b1
  obtain ⟨f0, f1, f2, f3, f4, f5, f6⟩ := HF.out w1 K1.out
  cases ok
  · obtain rfl : 0 = r := hr
    go_wp2_with (fail)
    go_ret
    exact ⟨rfl, below_join HB0.out K1.out HB0.out.size⟩
  · obtain rfl : (s.racks.length : Int) = r := hr
    go_wp2_with (fail)
    go_ret
    exact ⟨rfl, below_join HB0.out K1.out HB0.out.size⟩
set_option maxHeartbeats 8000000 in
theorem c_rCount3 (p : SP) (s : SiteD) (ok : Bool) (hok : siteOk s = ok) (r : Int) (hr : (if ok = true then 4 else 0) = r) (w : World) (h : SiAt w p s) :
    Calls Tryz.prog 62 #[siV p s, .int .u8 3] w fun e w' => e = .returned (.int .i64 r) ∧ Below w.heap.size w w' := by
  have HV := Lib.hid (fun (X : World) (hX : SiAt X p s) => c_srValid p s ok hok X hX)
  unfold siV at HV

  unfold siV
  obtain ⟨W, hW⟩ : ∃ W, W = w.alloc (.cells #[.slice p.a1 s.feeds.length p.c1, .slice p.a2 s.brks.length p.c2, .slice p.a3 s.loops.length p.c3, .slice p.a4 s.racks.length p.c4, .int .i64 s.sw, .slice p.a5 s.links.length p.c5, .slice p.a6 s.hosts.length p.c6] 29) := ⟨_, rfl⟩
  have B0 : Below w.heap.size w W := by subst hW; exact (Below.refl _ _).alloc (Nat.le_refl _) _
  have HB0 := Lib.hid B0
  have HX := Lib.hid (show SiBox W w.heap.size p s by subst hW; exact siBox_new _ _ _)
  have HA := Lib.hid (h.on B0 (Nat.le_refl _))
  have HF := Lib.hid (fun (X : World) (hX : Below W.heap.size W X) => (let z := HX.out.on hX (Nat.le_refl _); ⟨z.c0, z.c1, z.c2, z.c3, z.c4, z.c5, z.c6⟩ : X.cell? ⟨w.heap.size, 0, none⟩ = some (.slice p.a1 s.feeds.length p.c1) ∧ X.cell? ⟨w.heap.size, 1, none⟩ = some (.slice p.a2 s.brks.length p.c2) ∧ X.cell? ⟨w.heap.size, 2, none⟩ = some (.slice p.a3 s.loops.length p.c3) ∧ X.cell? ⟨w.heap.size, 3, none⟩ = some (.slice p.a4 s.racks.length p.c4) ∧ X.cell? ⟨w.heap.size, 4, none⟩ = some (.int .i64 s.sw) ∧ X.cell? ⟨w.heap.size, 5, none⟩ = some (.slice p.a5 s.links.length p.c5) ∧ X.cell? ⟨w.heap.size, 6, none⟩ = some (.slice p.a6 s.hosts.length p.c6)))
  have m1 := h.feeds.1; have m2 := h.brks.1; have m3 := h.loops.1; have m4 := h.racks.1; have m5 := h.links.1; have m6 := h.hosts.1
  have n1 := h.feeds.2.1; have n2 := h.brks.2.1; have n3 := h.loops.2.1; have n4 := h.racks.2.1; have n5 := h.links.2.1; have n6 := h.hosts.2.1
  unfold maxLen at n1 n2 n3 n4 n5 n6
  have KW := Lib.hid (Below.refl W.heap.size W)
  have hlw : w.heap.size < W.heap.size := HX.out.lt
  clear B0 h
  obtain ⟨f0, f1, f2, f3, f4, f5, f6⟩ := HF.out W KW.out
  rw [hW] at f0 f1 f2 f3 f4 f5 f6
  go_enter Tryz.func62, Tryz.ntmps62
  go_wp2_with (fail)
  rw [← hW]
  clear hW f0 f1 f2 f3 f4 f5 f6
  go_at_call 34
  refine (HV.out W HA.out).mono ?_
  rintro e w1 ⟨rfl, b1⟩
  have K1 := Lib.hid b1
  clear b1
  obtain ⟨f0, f1, f2, f3, f4, f5, f6⟩ := HF.out w1 K1.out
  cases ok
  · obtain rfl : 0 = r := hr
    go_wp2_with (fail)
    go_ret
    exact ⟨rfl, below_join HB0.out K1.out HB0.out.size⟩
  · obtain rfl : 4 = r := hr
    go_wp2_with (fail)
    go_ret
    exact ⟨rfl, below_join HB0.out K1.out HB0.out.size⟩
set_option maxHeartbeats 8000000 in
theorem c_rCount4 (p : SP) (s : SiteD) (ok : Bool) (hok : siteOk s = ok) (r : Int) (hr : (if ok = true then (s.feeds.length : Int) else 0) = r) (w : World) (h : SiAt w p s) :
    Calls Tryz.prog 62 #[siV p s, .int .u8 4] w fun e w' => e = .returned (.int .i64 r) ∧ Below w.heap.size w w' := by
  have HV := Lib.hid (fun (X : World) (hX : SiAt X p s) => c_srValid p s ok hok X hX)
  unfold siV at HV

  unfold siV
  obtain ⟨W, hW⟩ : ∃ W, W = w.alloc (.cells #[.slice p.a1 s.feeds.length p.c1, .slice p.a2 s.brks.length p.c2, .slice p.a3 s.loops.length p.c3, .slice p.a4 s.racks.length p.c4, .int .i64 s.sw, .slice p.a5 s.links.length p.c5, .slice p.a6 s.hosts.length p.c6] 29) := ⟨_, rfl⟩
  have B0 : Below w.heap.size w W := by subst hW; exact (Below.refl _ _).alloc (Nat.le_refl _) _
  have HB0 := Lib.hid B0
  have HX := Lib.hid (show SiBox W w.heap.size p s by subst hW; exact siBox_new _ _ _)
  have HA := Lib.hid (h.on B0 (Nat.le_refl _))
  have HF := Lib.hid (fun (X : World) (hX : Below W.heap.size W X) => (let z := HX.out.on hX (Nat.le_refl _); ⟨z.c0, z.c1, z.c2, z.c3, z.c4, z.c5, z.c6⟩ : X.cell? ⟨w.heap.size, 0, none⟩ = some (.slice p.a1 s.feeds.length p.c1) ∧ X.cell? ⟨w.heap.size, 1, none⟩ = some (.slice p.a2 s.brks.length p.c2) ∧ X.cell? ⟨w.heap.size, 2, none⟩ = some (.slice p.a3 s.loops.length p.c3) ∧ X.cell? ⟨w.heap.size, 3, none⟩ = some (.slice p.a4 s.racks.length p.c4) ∧ X.cell? ⟨w.heap.size, 4, none⟩ = some (.int .i64 s.sw) ∧ X.cell? ⟨w.heap.size, 5, none⟩ = some (.slice p.a5 s.links.length p.c5) ∧ X.cell? ⟨w.heap.size, 6, none⟩ = some (.slice p.a6 s.hosts.length p.c6)))
  have m1 := h.feeds.1; have m2 := h.brks.1; have m3 := h.loops.1; have m4 := h.racks.1; have m5 := h.links.1; have m6 := h.hosts.1
  have n1 := h.feeds.2.1; have n2 := h.brks.2.1; have n3 := h.loops.2.1; have n4 := h.racks.2.1; have n5 := h.links.2.1; have n6 := h.hosts.2.1
  unfold maxLen at n1 n2 n3 n4 n5 n6
  have KW := Lib.hid (Below.refl W.heap.size W)
  have hlw : w.heap.size < W.heap.size := HX.out.lt
  clear B0 h
  obtain ⟨f0, f1, f2, f3, f4, f5, f6⟩ := HF.out W KW.out
  rw [hW] at f0 f1 f2 f3 f4 f5 f6
  go_enter Tryz.func62, Tryz.ntmps62
  go_wp2_with (fail)
  rw [← hW]
  clear hW f0 f1 f2 f3 f4 f5 f6
  go_at_call 34
  refine (HV.out W HA.out).mono ?_
  rintro e w1 ⟨rfl, b1⟩
  have K1 := Lib.hid b1
  clear b1
  obtain ⟨f0, f1, f2, f3, f4, f5, f6⟩ := HF.out w1 K1.out
  cases ok
  · obtain rfl : 0 = r := hr
    go_wp2_with (fail)
    go_ret
    exact ⟨rfl, below_join HB0.out K1.out HB0.out.size⟩
  · obtain rfl : (s.feeds.length : Int) = r := hr
    go_wp2_with (fail)
    go_ret
    exact ⟨rfl, below_join HB0.out K1.out HB0.out.size⟩
set_option maxHeartbeats 8000000 in
theorem c_rCount5 (p : SP) (s : SiteD) (ok : Bool) (hok : siteOk s = ok) (r : Int) (hr : (if ok = true then (s.loops.length : Int) else 0) = r) (w : World) (h : SiAt w p s) :
    Calls Tryz.prog 62 #[siV p s, .int .u8 5] w fun e w' => e = .returned (.int .i64 r) ∧ Below w.heap.size w w' := by
  have HV := Lib.hid (fun (X : World) (hX : SiAt X p s) => c_srValid p s ok hok X hX)
  unfold siV at HV

  unfold siV
  obtain ⟨W, hW⟩ : ∃ W, W = w.alloc (.cells #[.slice p.a1 s.feeds.length p.c1, .slice p.a2 s.brks.length p.c2, .slice p.a3 s.loops.length p.c3, .slice p.a4 s.racks.length p.c4, .int .i64 s.sw, .slice p.a5 s.links.length p.c5, .slice p.a6 s.hosts.length p.c6] 29) := ⟨_, rfl⟩
  have B0 : Below w.heap.size w W := by subst hW; exact (Below.refl _ _).alloc (Nat.le_refl _) _
  have HB0 := Lib.hid B0
  have HX := Lib.hid (show SiBox W w.heap.size p s by subst hW; exact siBox_new _ _ _)
  have HA := Lib.hid (h.on B0 (Nat.le_refl _))
  have HF := Lib.hid (fun (X : World) (hX : Below W.heap.size W X) => (let z := HX.out.on hX (Nat.le_refl _); ⟨z.c0, z.c1, z.c2, z.c3, z.c4, z.c5, z.c6⟩ : X.cell? ⟨w.heap.size, 0, none⟩ = some (.slice p.a1 s.feeds.length p.c1) ∧ X.cell? ⟨w.heap.size, 1, none⟩ = some (.slice p.a2 s.brks.length p.c2) ∧ X.cell? ⟨w.heap.size, 2, none⟩ = some (.slice p.a3 s.loops.length p.c3) ∧ X.cell? ⟨w.heap.size, 3, none⟩ = some (.slice p.a4 s.racks.length p.c4) ∧ X.cell? ⟨w.heap.size, 4, none⟩ = some (.int .i64 s.sw) ∧ X.cell? ⟨w.heap.size, 5, none⟩ = some (.slice p.a5 s.links.length p.c5) ∧ X.cell? ⟨w.heap.size, 6, none⟩ = some (.slice p.a6 s.hosts.length p.c6)))
  have m1 := h.feeds.1; have m2 := h.brks.1; have m3 := h.loops.1; have m4 := h.racks.1; have m5 := h.links.1; have m6 := h.hosts.1
  have n1 := h.feeds.2.1; have n2 := h.brks.2.1; have n3 := h.loops.2.1; have n4 := h.racks.2.1; have n5 := h.links.2.1; have n6 := h.hosts.2.1
  unfold maxLen at n1 n2 n3 n4 n5 n6
  have KW := Lib.hid (Below.refl W.heap.size W)
  have hlw : w.heap.size < W.heap.size := HX.out.lt
  clear B0 h
  obtain ⟨f0, f1, f2, f3, f4, f5, f6⟩ := HF.out W KW.out
  rw [hW] at f0 f1 f2 f3 f4 f5 f6
  go_enter Tryz.func62, Tryz.ntmps62
  go_wp2_with (fail)
  rw [← hW]
  clear hW f0 f1 f2 f3 f4 f5 f6
  go_at_call 34
  refine (HV.out W HA.out).mono ?_
  rintro e w1 ⟨rfl, b1⟩
  have K1 := Lib.hid b1
  clear b1
  obtain ⟨f0, f1, f2, f3, f4, f5, f6⟩ := HF.out w1 K1.out
  cases ok
  · obtain rfl : 0 = r := hr
    go_wp2_with (fail)
    go_ret
    exact ⟨rfl, below_join HB0.out K1.out HB0.out.size⟩
  · obtain rfl : (s.loops.length : Int) = r := hr
    go_wp2_with (fail)
    go_ret
    exact ⟨rfl, below_join HB0.out K1.out HB0.out.size⟩
theorem c_rCount (p : SP) (s : SiteD) (d : Nat) (hd : d < 256) (r : Int) (hr : cntD s d = r) (w : World) (h : SiAt w p s) :
    Calls Tryz.prog 62 #[siV p s, .int .u8 (d : Int)] w fun e w' => e = .returned (.int .i64 r) ∧ Below w.heap.size w w' := by
  unfold cntD at hr
  obtain ⟨ok, hok⟩ : ∃ b, siteOk s = b := ⟨_, rfl⟩
  rw [hok] at hr
  by_cases hno : 1 ≤ d ∧ d ≤ 5
  · rcases (by omega : d = 1 ∨ d = 2 ∨ d = 3 ∨ d = 4 ∨ d = 5) with rfl | rfl | rfl | rfl | rfl
    · exact c_rCount1 p s ok hok r hr w h
    · exact c_rCount2 p s ok hok r hr w h
    · exact c_rCount3 p s ok hok r hr w h
    · exact c_rCount4 p s ok hok r hr w h
    · exact c_rCount5 p s ok hok r hr w h
  · have h0 : cntOf s d = 0 := by unfold cntOf; split <;> first | rfl | (exfalso; omega)
    rw [h0] at hr
    exact c_rCountNone p s d hd hno ok hok r hr w h
set_option maxHeartbeats 8000000 in
theorem c_rDomNone (p : SP) (s : SiteD) (d : Nat) (hd : d < 256) (hno : ¬ (1 ≤ d ∧ d ≤ 5)) (host r : Int) (hr : domD s d host = r) (w : World) (h : SiAt w p s) :
    Calls Tryz.prog 108 #[siV p s, .int .u8 (d : Int), .int .i64 host] w fun e w' => e = .returned (.int .i64 r) ∧ Below w.heap.size w w' := by
  obtain ⟨ok, hok⟩ : ∃ b, siteOk s = b := ⟨_, rfl⟩
  have HV := Lib.hid (fun (X : World) (hX : SiAt X p s) => c_srValid p s ok hok X hX)
  have HOK := Lib.hid hok
  unfold siV at HV
  have d1 : ((d : Int) == 1) = false := by rw [beq_eq_false_iff_ne]; omega
  have d2 : ((d : Int) == 2) = false := by rw [beq_eq_false_iff_ne]; omega
  have d3 : ((d : Int) == 3) = false := by rw [beq_eq_false_iff_ne]; omega
  have d4 : ((d : Int) == 4) = false := by rw [beq_eq_false_iff_ne]; omega
  have d5 : ((d : Int) == 5) = false := by rw [beq_eq_false_iff_ne]; omega

  unfold siV
  obtain ⟨W, hW⟩ : ∃ W, W = w.alloc (.cells #[.slice p.a1 s.feeds.length p.c1, .slice p.a2 s.brks.length p.c2, .slice p.a3 s.loops.length p.c3, .slice p.a4 s.racks.length p.c4, .int .i64 s.sw, .slice p.a5 s.links.length p.c5, .slice p.a6 s.hosts.length p.c6] 29) := ⟨_, rfl⟩
  have B0 : Below w.heap.size w W := by subst hW; exact (Below.refl _ _).alloc (Nat.le_refl _) _
  have HB0 := Lib.hid B0
  have HX := Lib.hid (show SiBox W w.heap.size p s by subst hW; exact siBox_new _ _ _)
  have HA := Lib.hid (h.on B0 (Nat.le_refl _))
  have HF := Lib.hid (fun (X : World) (hX : Below W.heap.size W X) => (let z := HX.out.on hX (Nat.le_refl _); ⟨z.c0, z.c1, z.c2, z.c3, z.c4, z.c5, z.c6⟩ : X.cell? ⟨w.heap.size, 0, none⟩ = some (.slice p.a1 s.feeds.length p.c1) ∧ X.cell? ⟨w.heap.size, 1, none⟩ = some (.slice p.a2 s.brks.length p.c2) ∧ X.cell? ⟨w.heap.size, 2, none⟩ = some (.slice p.a3 s.loops.length p.c3) ∧ X.cell? ⟨w.heap.size, 3, none⟩ = some (.slice p.a4 s.racks.length p.c4) ∧ X.cell? ⟨w.heap.size, 4, none⟩ = some (.int .i64 s.sw) ∧ X.cell? ⟨w.heap.size, 5, none⟩ = some (.slice p.a5 s.links.length p.c5) ∧ X.cell? ⟨w.heap.size, 6, none⟩ = some (.slice p.a6 s.hosts.length p.c6)))
  have m1 := h.feeds.1; have m2 := h.brks.1; have m3 := h.loops.1; have m4 := h.racks.1; have m5 := h.links.1; have m6 := h.hosts.1
  have n1 := h.feeds.2.1; have n2 := h.brks.2.1; have n3 := h.loops.2.1; have n4 := h.racks.2.1; have n5 := h.links.2.1; have n6 := h.hosts.2.1
  unfold maxLen at n1 n2 n3 n4 n5 n6
  have KW := Lib.hid (Below.refl W.heap.size W)
  have hlw : w.heap.size < W.heap.size := HX.out.lt
  have HR := Lib.hid hr
  clear B0 h hr hok
  obtain ⟨f0, f1, f2, f3, f4, f5, f6⟩ := HF.out W KW.out
  rw [hW] at f0 f1 f2 f3 f4 f5 f6
  go_enter Tryz.func108, Tryz.ntmps108
  go_wp2_with (fail)
  rw [← hW]
  clear hW f0 f1 f2 f3 f4 f5 f6
  go_at_call 34
  refine (HV.out W HA.out).mono ?_
  rintro e w1 ⟨rfl, b1⟩
  have K1 := Lib.hid b1
  have HA1 := Lib.hid (HA.out.on b1 (Nat.le_refl _))
  clear b1
  obtain ⟨f0, f1, f2, f3, f4, f5, f6⟩ := HF.out w1 K1.out
  cases ok
  · obtain rfl : -1 = r := by rw [← HR.out]; unfold domD; rw [if_neg (by rw [HOK.out]; rintro ⟨h, -⟩; cases h)]
    go_wp2_with (fail)
    go_ret
    exact ⟨rfl, below_join HB0.out K1.out HB0.out.size⟩
  rcases h1 : decide (host < 0) with _ | _
  rotate_left
  · obtain rfl : -1 = r := by rw [← HR.out]; unfold domD; rw [if_neg (by rintro ⟨-, -, h⟩; have h2 := ixB_iff.1 h; have h3 := of_decide_eq_true h1; omega)]
    go_wp2_with (fail)
    go_ret
    exact ⟨rfl, below_join HB0.out K1.out HB0.out.size⟩
  rcases h2 : decide ((s.hosts.length : Int) ≤ host) with _ | _
  rotate_left
  · obtain rfl : -1 = r := by rw [← HR.out]; unfold domD; rw [if_neg (by rintro ⟨-, -, h⟩; have h4 := ixB_iff.1 h; have h3 := of_decide_eq_true h2; omega)]
    go_wp2_with (fail)
    go_ret
    exact ⟨rfl, below_join HB0.out K1.out HB0.out.size⟩
  have h1' := of_decide_eq_false h1
  have h2' := of_decide_eq_false h2
  obtain ⟨k, rfl⟩ : ∃ k : Nat, host = (k : Int) := ⟨host.toNat, by omega⟩
  have hk : k < s.hosts.length := by omega
  have hsok := siteOk_iff.1 HOK.out
  obtain ⟨m, hm, hm1, hmr, -⟩ := rk_ok hsok hk
  obtain ⟨hb, ho, he, y0⟩ := host_row HA1.out hk
  obtain ⟨rb, ro, hre, z0, z1, z2, z3⟩ := rack_row HA1.out hmr
  rw [hm] at y0
  rw [he] at f6
  rw [hre] at f3
  have hkk : (k : Int) < ((s.hosts.length : Nat) : Int) := by omega
  have hmm : (m : Int) < ((s.racks.length : Nat) : Int) := by omega
  have ht1 : ((k : Nat) : Int).toNat = k := by omega
  have ht2 : ((m : Nat) : Int).toNat = m := by omega
  obtain rfl : -1 = r := by rw [← HR.out]; unfold domD; rw [if_neg (by rintro ⟨-, h, -⟩; exact hno h)]
  clear he hre hm hmr h1' h2' hsok
  go_wp2_with (fail)
  go_ret
  exact ⟨rfl, below_join HB0.out K1.out HB0.out.size⟩
set_option maxHeartbeats 8000000 in
theorem c_rDom1 (p : SP) (s : SiteD) (host r : Int) (hr : domD s 1 host = r) (w : World) (h : SiAt w p s) :
    Calls Tryz.prog 108 #[siV p s, .int .u8 1, .int .i64 host] w fun e w' => e = .returned (.int .i64 r) ∧ Below w.heap.size w w' := by
  obtain ⟨ok, hok⟩ : ∃ b, siteOk s = b := ⟨_, rfl⟩
  have HV := Lib.hid (fun (X : World) (hX : SiAt X p s) => c_srValid p s ok hok X hX)
  have HOK := Lib.hid hok
  unfold siV at HV

  unfold siV
  obtain ⟨W, hW⟩ : ∃ W, W = w.alloc (.cells #[.slice p.a1 s.feeds.length p.c1, .slice p.a2 s.brks.length p.c2, .slice p.a3 s.loops.length p.c3, .slice p.a4 s.racks.length p.c4, .int .i64 s.sw, .slice p.a5 s.links.length p.c5, .slice p.a6 s.hosts.length p.c6] 29) := ⟨_, rfl⟩
  have B0 : Below w.heap.size w W := by subst hW; exact (Below.refl _ _).alloc (Nat.le_refl _) _
  have HB0 := Lib.hid B0
  have HX := Lib.hid (show SiBox W w.heap.size p s by subst hW; exact siBox_new _ _ _)
  have HA := Lib.hid (h.on B0 (Nat.le_refl _))
  have HF := Lib.hid (fun (X : World) (hX : Below W.heap.size W X) => (let z := HX.out.on hX (Nat.le_refl _); ⟨z.c0, z.c1, z.c2, z.c3, z.c4, z.c5, z.c6⟩ : X.cell? ⟨w.heap.size, 0, none⟩ = some (.slice p.a1 s.feeds.length p.c1) ∧ X.cell? ⟨w.heap.size, 1, none⟩ = some (.slice p.a2 s.brks.length p.c2) ∧ X.cell? ⟨w.heap.size, 2, none⟩ = some (.slice p.a3 s.loops.length p.c3) ∧ X.cell? ⟨w.heap.size, 3, none⟩ = some (.slice p.a4 s.racks.length p.c4) ∧ X.cell? ⟨w.heap.size, 4, none⟩ = some (.int .i64 s.sw) ∧ X.cell? ⟨w.heap.size, 5, none⟩ = some (.slice p.a5 s.links.length p.c5) ∧ X.cell? ⟨w.heap.size, 6, none⟩ = some (.slice p.a6 s.hosts.length p.c6)))
  have m1 := h.feeds.1; have m2 := h.brks.1; have m3 := h.loops.1; have m4 := h.racks.1; have m5 := h.links.1; have m6 := h.hosts.1
  have n1 := h.feeds.2.1; have n2 := h.brks.2.1; have n3 := h.loops.2.1; have n4 := h.racks.2.1; have n5 := h.links.2.1; have n6 := h.hosts.2.1
  unfold maxLen at n1 n2 n3 n4 n5 n6
  have KW := Lib.hid (Below.refl W.heap.size W)
  have hlw : w.heap.size < W.heap.size := HX.out.lt
  have HR := Lib.hid hr
  clear B0 h hr hok
  obtain ⟨f0, f1, f2, f3, f4, f5, f6⟩ := HF.out W KW.out
  rw [hW] at f0 f1 f2 f3 f4 f5 f6
  go_enter Tryz.func108, Tryz.ntmps108
  go_wp2_with (fail)
  rw [← hW]
  clear hW f0 f1 f2 f3 f4 f5 f6
  go_at_call 34
  refine (HV.out W HA.out).mono ?_
  rintro e w1 ⟨rfl, b1⟩
  have K1 := Lib.hid b1
  have HA1 := Lib.hid (HA.out.on b1 (Nat.le_refl _))
  clear b1
  obtain ⟨f0, f1, f2, f3, f4, f5, f6⟩ := HF.out w1 K1.out
  cases ok
  · obtain rfl : -1 = r := by rw [← HR.out]; unfold domD; rw [if_neg (by rw [HOK.out]; rintro ⟨h, -⟩; cases h)]
    go_wp2_with (fail)
    go_ret
    exact ⟨rfl, below_join HB0.out K1.out HB0.out.size⟩
  rcases h1 : decide (host < 0) with _ | _
  rotate_left
  · obtain rfl : -1 = r := by rw [← HR.out]; unfold domD; rw [if_neg (by rintro ⟨-, -, h⟩; have h2 := ixB_iff.1 h; have h3 := of_decide_eq_true h1; omega)]
    go_wp2_with (fail)
    go_ret
    exact ⟨rfl, below_join HB0.out K1.out HB0.out.size⟩
  rcases h2 : decide ((s.hosts.length : Int) ≤ host) with _ | _
  rotate_left
  · obtain rfl : -1 = r := by rw [← HR.out]; unfold domD; rw [if_neg (by rintro ⟨-, -, h⟩; have h4 := ixB_iff.1 h; have h3 := of_decide_eq_true h2; omega)]
    go_wp2_with (fail)
    go_ret
    exact ⟨rfl, below_join HB0.out K1.out HB0.out.size⟩
  have h1' := of_decide_eq_false h1
  have h2' := of_decide_eq_false h2
  obtain ⟨k, rfl⟩ : ∃ k : Nat, host = (k : Int) := ⟨host.toNat, by omega⟩
  have hk : k < s.hosts.length := by omega
  have hsok := siteOk_iff.1 HOK.out
  obtain ⟨m, hm, hm1, hmr, -⟩ := rk_ok hsok hk
  obtain ⟨hb, ho, he, y0⟩ := host_row HA1.out hk
  obtain ⟨rb, ro, hre, z0, z1, z2, z3⟩ := rack_row HA1.out hmr
  rw [hm] at y0
  rw [he] at f6
  rw [hre] at f3
  have hkk : (k : Int) < ((s.hosts.length : Nat) : Int) := by omega
  have hmm : (m : Int) < ((s.racks.length : Nat) : Int) := by omega
  have ht1 : ((k : Nat) : Int).toNat = k := by omega
  have ht2 : ((m : Nat) : Int).toNat = m := by omega
  obtain rfl : (k : Int) = r := by rw [← HR.out]; unfold domD; rw [if_pos ⟨HOK.out, by decide, ixB_iff.2 ⟨by omega, by omega⟩⟩]; rfl
  clear he hre hm hmr h1' h2' hsok
  go_wp2_with (fail)
  go_ret
  exact ⟨rfl, below_join HB0.out K1.out HB0.out.size⟩
set_option maxHeartbeats 8000000 in
theorem c_rDom2 (p : SP) (s : SiteD) (host r : Int) (hr : domD s 2 host = r) (w : World) (h : SiAt w p s) :
    Calls Tryz.prog 108 #[siV p s, .int .u8 2, .int .i64 host] w fun e w' => e = .returned (.int .i64 r) ∧ Below w.heap.size w w' := by
  obtain ⟨ok, hok⟩ : ∃ b, siteOk s = b := ⟨_, rfl⟩
  have HV := Lib.hid (fun (X : World) (hX : SiAt X p s) => c_srValid p s ok hok X hX)
  have HOK := Lib.hid hok
  unfold siV at HV

  unfold siV
  obtain ⟨W, hW⟩ : ∃ W, W = w.alloc (.cells #[.slice p.a1 s.feeds.length p.c1, .slice p.a2 s.brks.length p.c2, .slice p.a3 s.loops.length p.c3, .slice p.a4 s.racks.length p.c4, .int .i64 s.sw, .slice p.a5 s.links.length p.c5, .slice p.a6 s.hosts.length p.c6] 29) := ⟨_, rfl⟩
  have B0 : Below w.heap.size w W := by subst hW; exact (Below.refl _ _).alloc (Nat.le_refl _) _
  have HB0 := Lib.hid B0
  have HX := Lib.hid (show SiBox W w.heap.size p s by subst hW; exact siBox_new _ _ _)
  have HA := Lib.hid (h.on B0 (Nat.le_refl _))
  have HF := Lib.hid (fun (X : World) (hX : Below W.heap.size W X) => (let z := HX.out.on hX (Nat.le_refl _); ⟨z.c0, z.c1, z.c2, z.c3, z.c4, z.c5, z.c6⟩ : X.cell? ⟨w.heap.size, 0, none⟩ = some (.slice p.a1 s.feeds.length p.c1) ∧ X.cell? ⟨w.heap.size, 1, none⟩ = some (.slice p.a2 s.brks.length p.c2) ∧ X.cell? ⟨w.heap.size, 2, none⟩ = some (.slice p.a3 s.loops.length p.c3) ∧ X.cell? ⟨w.heap.size, 3, none⟩ = some (.slice p.a4 s.racks.length p.c4) ∧ X.cell? ⟨w.heap.size, 4, none⟩ = some (.int .i64 s.sw) ∧ X.cell? ⟨w.heap.size, 5, none⟩ = some (.slice p.a5 s.links.length p.c5) ∧ X.cell? ⟨w.heap.size, 6, none⟩ = some (.slice p.a6 s.hosts.length p.c6)))
  have m1 := h.feeds.1; have m2 := h.brks.1; have m3 := h.loops.1; have m4 := h.racks.1; have m5 := h.links.1; have m6 := h.hosts.1
  have n1 := h.feeds.2.1; have n2 := h.brks.2.1; have n3 := h.loops.2.1; have n4 := h.racks.2.1; have n5 := h.links.2.1; have n6 := h.hosts.2.1
  unfold maxLen at n1 n2 n3 n4 n5 n6
  have KW := Lib.hid (Below.refl W.heap.size W)
  have hlw : w.heap.size < W.heap.size := HX.out.lt
  have HR := Lib.hid hr
  clear B0 h hr hok
  obtain ⟨f0, f1, f2, f3, f4, f5, f6⟩ := HF.out W KW.out
  rw [hW] at f0 f1 f2 f3 f4 f5 f6
  go_enter Tryz.func108, Tryz.ntmps108
  go_wp2_with (fail)
  rw [← hW]
  clear hW f0 f1 f2 f3 f4 f5 f6
  go_at_call 34
  refine (HV.out W HA.out).mono ?_
  rintro e w1 ⟨rfl, b1⟩
  have K1 := Lib.hid b1
  have HA1 := Lib.hid (HA.out.on b1 (Nat.le_refl _))
  clear b1
  obtain ⟨f0, f1, f2, f3, f4, f5, f6⟩ := HF.out w1 K1.out
  cases ok
  · obtain rfl : -1 = r := by rw [← HR.out]; unfold domD; rw [if_neg (by rw [HOK.out]; rintro ⟨h, -⟩; cases h)]
    go_wp2_with (fail)
    go_ret
    exact ⟨rfl, below_join HB0.out K1.out HB0.out.size⟩
  rcases h1 : decide (host < 0) with _ | _
  rotate_left
  · obtain rfl : -1 = r := by rw [← HR.out]; unfold domD; rw [if_neg (by rintro ⟨-, -, h⟩; have h2 := ixB_iff.1 h; have h3 := of_decide_eq_true h1; omega)]
    go_wp2_with (fail)
    go_ret
    exact ⟨rfl, below_join HB0.out K1.out HB0.out.size⟩
  rcases h2 : decide ((s.hosts.length : Int) ≤ host) with _ | _
  rotate_left
  · obtain rfl : -1 = r := by rw [← HR.out]; unfold domD; rw [if_neg (by rintro ⟨-, -, h⟩; have h4 := ixB_iff.1 h; have h3 := of_decide_eq_true h2; omega)]
    go_wp2_with (fail)
    go_ret
    exact ⟨rfl, below_join HB0.out K1.out HB0.out.size⟩
  have h1' := of_decide_eq_false h1
  have h2' := of_decide_eq_false h2
  obtain ⟨k, rfl⟩ : ∃ k : Nat, host = (k : Int) := ⟨host.toNat, by omega⟩
  have hk : k < s.hosts.length := by omega
  have hsok := siteOk_iff.1 HOK.out
  obtain ⟨m, hm, hm1, hmr, -⟩ := rk_ok hsok hk
  obtain ⟨hb, ho, he, y0⟩ := host_row HA1.out hk
  obtain ⟨rb, ro, hre, z0, z1, z2, z3⟩ := rack_row HA1.out hmr
  rw [hm] at y0
  rw [he] at f6
  rw [hre] at f3
  have hkk : (k : Int) < ((s.hosts.length : Nat) : Int) := by omega
  have hmm : (m : Int) < ((s.racks.length : Nat) : Int) := by omega
  have ht1 : ((k : Nat) : Int).toNat = k := by omega
  have ht2 : ((m : Nat) : Int).toNat = m := by omega
  obtain rfl : (m : Int) = r := by rw [← HR.out, ← hm]; unfold domD; rw [if_pos ⟨HOK.out, by decide, ixB_iff.2 ⟨by omega, by omega⟩⟩]; rfl
  clear he hre hm hmr h1' h2' hsok
  go_wp2_with (fail)
  go_ret
  exact ⟨rfl, below_join HB0.out K1.out HB0.out.size⟩
set_option maxHeartbeats 8000000 in
theorem c_rDom3 (p : SP) (s : SiteD) (host r : Int) (hr : domD s 3 host = r) (w : World) (h : SiAt w p s) :
    Calls Tryz.prog 108 #[siV p s, .int .u8 3, .int .i64 host] w fun e w' => e = .returned (.int .i64 r) ∧ Below w.heap.size w w' := by
  obtain ⟨ok, hok⟩ : ∃ b, siteOk s = b := ⟨_, rfl⟩
  have HV := Lib.hid (fun (X : World) (hX : SiAt X p s) => c_srValid p s ok hok X hX)
  have HOK := Lib.hid hok
  unfold siV at HV

  unfold siV
  obtain ⟨W, hW⟩ : ∃ W, W = w.alloc (.cells #[.slice p.a1 s.feeds.length p.c1, .slice p.a2 s.brks.length p.c2, .slice p.a3 s.loops.length p.c3, .slice p.a4 s.racks.length p.c4, .int .i64 s.sw, .slice p.a5 s.links.length p.c5, .slice p.a6 s.hosts.length p.c6] 29) := ⟨_, rfl⟩
  have B0 : Below w.heap.size w W := by subst hW; exact (Below.refl _ _).alloc (Nat.le_refl _) _
  have HB0 := Lib.hid B0
  have HX := Lib.hid (show SiBox W w.heap.size p s by subst hW; exact siBox_new _ _ _)
  have HA := Lib.hid (h.on B0 (Nat.le_refl _))
  have HF := Lib.hid (fun (X : World) (hX : Below W.heap.size W X) => (let z := HX.out.on hX (Nat.le_refl _); ⟨z.c0, z.c1, z.c2, z.c3, z.c4, z.c5, z.c6⟩ : X.cell? ⟨w.heap.size, 0, none⟩ = some (.slice p.a1 s.feeds.length p.c1) ∧ X.cell? ⟨w.heap.size, 1, none⟩ = some (.slice p.a2 s.brks.length p.c2) ∧ X.cell? ⟨w.heap.size, 2, none⟩ = some (.slice p.a3 s.loops.length p.c3) ∧ X.cell? ⟨w.heap.size, 3, none⟩ = some (.slice p.a4 s.racks.length p.c4) ∧ X.cell? ⟨w.heap.size, 4, none⟩ = some (.int .i64 s.sw) ∧ X.cell? ⟨w.heap.size, 5, none⟩ = some (.slice p.a5 s.links.length p.c5) ∧ X.cell? ⟨w.heap.size, 6, none⟩ = some (.slice p.a6 s.hosts.length p.c6)))
  have m1 := h.feeds.1; have m2 := h.brks.1; have m3 := h.loops.1; have m4 := h.racks.1; have m5 := h.links.1; have m6 := h.hosts.1
  have n1 := h.feeds.2.1; have n2 := h.brks.2.1; have n3 := h.loops.2.1; have n4 := h.racks.2.1; have n5 := h.links.2.1; have n6 := h.hosts.2.1
  unfold maxLen at n1 n2 n3 n4 n5 n6
  have KW := Lib.hid (Below.refl W.heap.size W)
  have hlw : w.heap.size < W.heap.size := HX.out.lt
  have HR := Lib.hid hr
  clear B0 h hr hok
  obtain ⟨f0, f1, f2, f3, f4, f5, f6⟩ := HF.out W KW.out
  rw [hW] at f0 f1 f2 f3 f4 f5 f6
  go_enter Tryz.func108, Tryz.ntmps108
  go_wp2_with (fail)
  rw [← hW]
  clear hW f0 f1 f2 f3 f4 f5 f6
  go_at_call 34
  refine (HV.out W HA.out).mono ?_
  rintro e w1 ⟨rfl, b1⟩
  have K1 := Lib.hid b1
  have HA1 := Lib.hid (HA.out.on b1 (Nat.le_refl _))
  clear b1
  obtain ⟨f0, f1, f2, f3, f4, f5, f6⟩ := HF.out w1 K1.out
  cases ok
  · obtain rfl : -1 = r := by rw [← HR.out]; unfold domD; rw [if_neg (by rw [HOK.out]; rintro ⟨h, -⟩; cases h)]
    go_wp2_with (fail)
    go_ret
    exact ⟨rfl, below_join HB0.out K1.out HB0.out.size⟩
  rcases h1 : decide (host < 0) with _ | _
  rotate_left
  · obtain rfl : -1 = r := by rw [← HR.out]; unfold domD; rw [if_neg (by rintro ⟨-, -, h⟩; have h2 := ixB_iff.1 h; have h3 := of_decide_eq_true h1; omega)]
    go_wp2_with (fail)
    go_ret
    exact ⟨rfl, below_join HB0.out K1.out HB0.out.size⟩
  rcases h2 : decide ((s.hosts.length : Int) ≤ host) with _ | _
  rotate_left
  · obtain rfl : -1 = r := by rw [← HR.out]; unfold domD; rw [if_neg (by rintro ⟨-, -, h⟩; have h4 := ixB_iff.1 h; have h3 := of_decide_eq_true h2; omega)]
    go_wp2_with (fail)
    go_ret
    exact ⟨rfl, below_join HB0.out K1.out HB0.out.size⟩
  have h1' := of_decide_eq_false h1
  have h2' := of_decide_eq_false h2
  obtain ⟨k, rfl⟩ : ∃ k : Nat, host = (k : Int) := ⟨host.toNat, by omega⟩
  have hk : k < s.hosts.length := by omega
  have hsok := siteOk_iff.1 HOK.out
  obtain ⟨m, hm, hm1, hmr, -⟩ := rk_ok hsok hk
  obtain ⟨hb, ho, he, y0⟩ := host_row HA1.out hk
  obtain ⟨rb, ro, hre, z0, z1, z2, z3⟩ := rack_row HA1.out hmr
  rw [hm] at y0
  rw [he] at f6
  rw [hre] at f3
  have hkk : (k : Int) < ((s.hosts.length : Nat) : Int) := by omega
  have hmm : (m : Int) < ((s.racks.length : Nat) : Int) := by omega
  have ht1 : ((k : Nat) : Int).toNat = k := by omega
  have ht2 : ((m : Nat) : Int).toNat = m := by omega
  obtain rfl : (rkAt s k).row = r := by rw [← HR.out]; unfold domD; rw [if_pos ⟨HOK.out, by decide, ixB_iff.2 ⟨by omega, by omega⟩⟩]; rfl
  clear he hre hm hmr h1' h2' hsok
  go_wp2_with (fail)
  go_ret
  exact ⟨rfl, below_join HB0.out K1.out HB0.out.size⟩
set_option maxHeartbeats 8000000 in
theorem c_rDom4 (p : SP) (s : SiteD) (host r : Int) (hr : domD s 4 host = r) (w : World) (h : SiAt w p s) :
    Calls Tryz.prog 108 #[siV p s, .int .u8 4, .int .i64 host] w fun e w' => e = .returned (.int .i64 r) ∧ Below w.heap.size w w' := by
  obtain ⟨ok, hok⟩ : ∃ b, siteOk s = b := ⟨_, rfl⟩
  have HV := Lib.hid (fun (X : World) (hX : SiAt X p s) => c_srValid p s ok hok X hX)
  have HOK := Lib.hid hok
  unfold siV at HV

  unfold siV
  obtain ⟨W, hW⟩ : ∃ W, W = w.alloc (.cells #[.slice p.a1 s.feeds.length p.c1, .slice p.a2 s.brks.length p.c2, .slice p.a3 s.loops.length p.c3, .slice p.a4 s.racks.length p.c4, .int .i64 s.sw, .slice p.a5 s.links.length p.c5, .slice p.a6 s.hosts.length p.c6] 29) := ⟨_, rfl⟩
  have B0 : Below w.heap.size w W := by subst hW; exact (Below.refl _ _).alloc (Nat.le_refl _) _
  have HB0 := Lib.hid B0
  have HX := Lib.hid (show SiBox W w.heap.size p s by subst hW; exact siBox_new _ _ _)
  have HA := Lib.hid (h.on B0 (Nat.le_refl _))
  have HF := Lib.hid (fun (X : World) (hX : Below W.heap.size W X) => (let z := HX.out.on hX (Nat.le_refl _); ⟨z.c0, z.c1, z.c2, z.c3, z.c4, z.c5, z.c6⟩ : X.cell? ⟨w.heap.size, 0, none⟩ = some (.slice p.a1 s.feeds.length p.c1) ∧ X.cell? ⟨w.heap.size, 1, none⟩ = some (.slice p.a2 s.brks.length p.c2) ∧ X.cell? ⟨w.heap.size, 2, none⟩ = some (.slice p.a3 s.loops.length p.c3) ∧ X.cell? ⟨w.heap.size, 3, none⟩ = some (.slice p.a4 s.racks.length p.c4) ∧ X.cell? ⟨w.heap.size, 4, none⟩ = some (.int .i64 s.sw) ∧ X.cell? ⟨w.heap.size, 5, none⟩ = some (.slice p.a5 s.links.length p.c5) ∧ X.cell? ⟨w.heap.size, 6, none⟩ = some (.slice p.a6 s.hosts.length p.c6)))
  have m1 := h.feeds.1; have m2 := h.brks.1; have m3 := h.loops.1; have m4 := h.racks.1; have m5 := h.links.1; have m6 := h.hosts.1
  have n1 := h.feeds.2.1; have n2 := h.brks.2.1; have n3 := h.loops.2.1; have n4 := h.racks.2.1; have n5 := h.links.2.1; have n6 := h.hosts.2.1
  unfold maxLen at n1 n2 n3 n4 n5 n6
  have KW := Lib.hid (Below.refl W.heap.size W)
  have hlw : w.heap.size < W.heap.size := HX.out.lt
  have HR := Lib.hid hr
  clear B0 h hr hok
  obtain ⟨f0, f1, f2, f3, f4, f5, f6⟩ := HF.out W KW.out
  rw [hW] at f0 f1 f2 f3 f4 f5 f6
  go_enter Tryz.func108, Tryz.ntmps108
  go_wp2_with (fail)
  rw [← hW]
  clear hW f0 f1 f2 f3 f4 f5 f6
  go_at_call 34
  refine (HV.out W HA.out).mono ?_
  rintro e w1 ⟨rfl, b1⟩
  have K1 := Lib.hid b1
  have HA1 := Lib.hid (HA.out.on b1 (Nat.le_refl _))
  clear b1
  obtain ⟨f0, f1, f2, f3, f4, f5, f6⟩ := HF.out w1 K1.out
  cases ok
  · obtain rfl : -1 = r := by rw [← HR.out]; unfold domD; rw [if_neg (by rw [HOK.out]; rintro ⟨h, -⟩; cases h)]
    go_wp2_with (fail)
    go_ret
    exact ⟨rfl, below_join HB0.out K1.out HB0.out.size⟩
  rcases h1 : decide (host < 0) with _ | _
  rotate_left
  · obtain rfl : -1 = r := by rw [← HR.out]; unfold domD; rw [if_neg (by rintro ⟨-, -, h⟩; have h2 := ixB_iff.1 h; have h3 := of_decide_eq_true h1; omega)]
    go_wp2_with (fail)
    go_ret
    exact ⟨rfl, below_join HB0.out K1.out HB0.out.size⟩
  rcases h2 : decide ((s.hosts.length : Int) ≤ host) with _ | _
  rotate_left
  · obtain rfl : -1 = r := by rw [← HR.out]; unfold domD; rw [if_neg (by rintro ⟨-, -, h⟩; have h4 := ixB_iff.1 h; have h3 := of_decide_eq_true h2; omega)]
    go_wp2_with (fail)
    go_ret
    exact ⟨rfl, below_join HB0.out K1.out HB0.out.size⟩
  have h1' := of_decide_eq_false h1
  have h2' := of_decide_eq_false h2
  obtain ⟨k, rfl⟩ : ∃ k : Nat, host = (k : Int) := ⟨host.toNat, by omega⟩
  have hk : k < s.hosts.length := by omega
  have hsok := siteOk_iff.1 HOK.out
  obtain ⟨m, hm, hm1, hmr, -⟩ := rk_ok hsok hk
  obtain ⟨hb, ho, he, y0⟩ := host_row HA1.out hk
  obtain ⟨rb, ro, hre, z0, z1, z2, z3⟩ := rack_row HA1.out hmr
  rw [hm] at y0
  rw [he] at f6
  rw [hre] at f3
  have hkk : (k : Int) < ((s.hosts.length : Nat) : Int) := by omega
  have hmm : (m : Int) < ((s.racks.length : Nat) : Int) := by omega
  have ht1 : ((k : Nat) : Int).toNat = k := by omega
  have ht2 : ((m : Nat) : Int).toNat = m := by omega
  obtain ⟨y, hy⟩ : ∃ y, feedAt s k = y := ⟨_, rfl⟩
  obtain rfl : y = r := by rw [← HR.out, ← hy]; unfold domD; rw [if_pos ⟨HOK.out, by decide, ixB_iff.2 ⟨by omega, by omega⟩⟩]; rfl
  obtain ⟨q, x, hq, hq1, hqx, hfx, -⟩ := feed_ok hsok hk
  obtain ⟨bb, bo, hbe, b0⟩ := brk_row HA1.out hqx
  rw [hbe] at f1
  rw [hq] at z1
  rw [← hfx] at b0
  have hqq : (q : Int) < ((s.brks.length : Nat) : Int) := by omega
  have ht3 : ((q : Nat) : Int).toNat = q := by omega
  rw [hy] at b0
  clear hq hqx hfx hbe hy
  clear he hre hm hmr h1' h2' hsok
  go_wp2_with (fail)
  go_quiet (fail)
  go_wp2_with (fail)
  go_ret
  exact ⟨rfl, below_join HB0.out (below_drewN K1.out) HB0.out.size⟩
set_option maxHeartbeats 8000000 in
theorem c_rDom5 (p : SP) (s : SiteD) (host r : Int) (hr : domD s 5 host = r) (w : World) (h : SiAt w p s) :
    Calls Tryz.prog 108 #[siV p s, .int .u8 5, .int .i64 host] w fun e w' => e = .returned (.int .i64 r) ∧ Below w.heap.size w w' := by
  obtain ⟨ok, hok⟩ : ∃ b, siteOk s = b := ⟨_, rfl⟩
  have HV := Lib.hid (fun (X : World) (hX : SiAt X p s) => c_srValid p s ok hok X hX)
  have HOK := Lib.hid hok
  unfold siV at HV

  unfold siV
  obtain ⟨W, hW⟩ : ∃ W, W = w.alloc (.cells #[.slice p.a1 s.feeds.length p.c1, .slice p.a2 s.brks.length p.c2, .slice p.a3 s.loops.length p.c3, .slice p.a4 s.racks.length p.c4, .int .i64 s.sw, .slice p.a5 s.links.length p.c5, .slice p.a6 s.hosts.length p.c6] 29) := ⟨_, rfl⟩
  have B0 : Below w.heap.size w W := by subst hW; exact (Below.refl _ _).alloc (Nat.le_refl _) _
  have HB0 := Lib.hid B0
  have HX := Lib.hid (show SiBox W w.heap.size p s by subst hW; exact siBox_new _ _ _)
  have HA := Lib.hid (h.on B0 (Nat.le_refl _))
  have HF := Lib.hid (fun (X : World) (hX : Below W.heap.size W X) => (let z := HX.out.on hX (Nat.le_refl _); ⟨z.c0, z.c1, z.c2, z.c3, z.c4, z.c5, z.c6⟩ : X.cell? ⟨w.heap.size, 0, none⟩ = some (.slice p.a1 s.feeds.length p.c1) ∧ X.cell? ⟨w.heap.size, 1, none⟩ = some (.slice p.a2 s.brks.length p.c2) ∧ X.cell? ⟨w.heap.size, 2, none⟩ = some (.slice p.a3 s.loops.length p.c3) ∧ X.cell? ⟨w.heap.size, 3, none⟩ = some (.slice p.a4 s.racks.length p.c4) ∧ X.cell? ⟨w.heap.size, 4, none⟩ = some (.int .i64 s.sw) ∧ X.cell? ⟨w.heap.size, 5, none⟩ = some (.slice p.a5 s.links.length p.c5) ∧ X.cell? ⟨w.heap.size, 6, none⟩ = some (.slice p.a6 s.hosts.length p.c6)))
  have m1 := h.feeds.1; have m2 := h.brks.1; have m3 := h.loops.1; have m4 := h.racks.1; have m5 := h.links.1; have m6 := h.hosts.1
  have n1 := h.feeds.2.1; have n2 := h.brks.2.1; have n3 := h.loops.2.1; have n4 := h.racks.2.1; have n5 := h.links.2.1; have n6 := h.hosts.2.1
  unfold maxLen at n1 n2 n3 n4 n5 n6
  have KW := Lib.hid (Below.refl W.heap.size W)
  have hlw : w.heap.size < W.heap.size := HX.out.lt
  have HR := Lib.hid hr
  clear B0 h hr hok
  obtain ⟨f0, f1, f2, f3, f4, f5, f6⟩ := HF.out W KW.out
  rw [hW] at f0 f1 f2 f3 f4 f5 f6
  go_enter Tryz.func108, Tryz.ntmps108
  go_wp2_with (fail)
  rw [← hW]
  clear hW f0 f1 f2 f3 f4 f5 f6
  go_at_call 34
  refine (HV.out W HA.out).mono ?_
  rintro e w1 ⟨rfl, b1⟩
  have K1 := Lib.hid b1
  have HA1 := Lib.hid (HA.out.on b1 (Nat.le_refl _))
  clear b1
  obtain ⟨f0, f1, f2, f3, f4, f5, f6⟩ := HF.out w1 K1.out
  cases ok
  · obtain rfl : -1 = r := by rw [← HR.out]; unfold domD; rw [if_neg (by rw [HOK.out]; rintro ⟨h, -⟩; cases h)]
    go_wp2_with (fail)
    go_ret
    exact ⟨rfl, below_join HB0.out K1.out HB0.out.size⟩
  rcases h1 : decide (host < 0) with _ | _
  rotate_left
  · obtain rfl : -1 = r := by rw [← HR.out]; unfold domD; rw [if_neg (by rintro ⟨-, -, h⟩; have h2 := ixB_iff.1 h; have h3 := of_decide_eq_true h1; omega)]
    go_wp2_with (fail)
    go_ret
    exact ⟨rfl, below_join HB0.out K1.out HB0.out.size⟩
  rcases h2 : decide ((s.hosts.length : Int) ≤ host) with _ | _
  rotate_left
  · obtain rfl : -1 = r := by rw [← HR.out]; unfold domD; rw [if_neg (by rintro ⟨-, -, h⟩; have h4 := ixB_iff.1 h; have h3 := of_decide_eq_true h2; omega)]
    go_wp2_with (fail)
    go_ret
    exact ⟨rfl, below_join HB0.out K1.out HB0.out.size⟩
  have h1' := of_decide_eq_false h1
  have h2' := of_decide_eq_false h2
  obtain ⟨k, rfl⟩ : ∃ k : Nat, host = (k : Int) := ⟨host.toNat, by omega⟩
  have hk : k < s.hosts.length := by omega
  have hsok := siteOk_iff.1 HOK.out
  obtain ⟨m, hm, hm1, hmr, -⟩ := rk_ok hsok hk
  obtain ⟨hb, ho, he, y0⟩ := host_row HA1.out hk
  obtain ⟨rb, ro, hre, z0, z1, z2, z3⟩ := rack_row HA1.out hmr
  rw [hm] at y0
  rw [he] at f6
  rw [hre] at f3
  have hkk : (k : Int) < ((s.hosts.length : Nat) : Int) := by omega
  have hmm : (m : Int) < ((s.racks.length : Nat) : Int) := by omega
  have ht1 : ((k : Nat) : Int).toNat = k := by omega
  have ht2 : ((m : Nat) : Int).toNat = m := by omega
  obtain rfl : (rkAt s k).loop = r := by rw [← HR.out]; unfold domD; rw [if_pos ⟨HOK.out, by decide, ixB_iff.2 ⟨by omega, by omega⟩⟩]; rfl
  clear he hre hm hmr h1' h2' hsok
  go_wp2_with (fail)
  go_ret
  exact ⟨rfl, below_join HB0.out K1.out HB0.out.size⟩
theorem c_rDom (p : SP) (s : SiteD) (d : Nat) (hd : d < 256) (host r : Int) (hr : domD s d host = r) (w : World) (h : SiAt w p s) :
    Calls Tryz.prog 108 #[siV p s, .int .u8 (d : Int), .int .i64 host] w fun e w' => e = .returned (.int .i64 r) ∧ Below w.heap.size w w' := by
  by_cases hno : 1 ≤ d ∧ d ≤ 5
  · rcases (by omega : d = 1 ∨ d = 2 ∨ d = 3 ∨ d = 4 ∨ d = 5) with rfl | rfl | rfl | rfl | rfl
    · exact c_rDom1 p s host r hr w h
    · exact c_rDom2 p s host r hr w h
    · exact c_rDom3 p s host r hr w h
    · exact c_rDom4 p s host r hr w h
    · exact c_rDom5 p s host r hr w h
  · exact c_rDomNone p s d hd hno host r hr w h
end Go.Proofs.YtbbadnlaelgmlaaGreat
