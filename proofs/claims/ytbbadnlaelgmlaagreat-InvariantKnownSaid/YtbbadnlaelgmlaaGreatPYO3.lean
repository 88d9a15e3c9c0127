/-
  DERIVED. Several texts in one.
-/
import Derived.Test.YtbbadnlaelgmlaaGreatPYO1
import Derived.Test.YtbbadnlaelgmlaaGreatPYO2
import Derived.Laws.StructEq
import Derived.WideKeyRuns
import Derived.WideMake
import Derived.Deep.RegionWith
import Derived.Test.YtbbadnlaelgmlaaGreatPYB1
import Derived.Test.YtbbadnlaelgmlaaGreatPYB3
import Derived.Test.YtbbadnlaelgmlaaGreatPYA1
import Derived.Test.YtbbadnlaelgmlaaGreatPYB2
import Derived.Test.YtbbadnlaelgmlaaGreatPYV61
import Derived.Laws.AppendOwn
import Derived.Test.YtbbadnlaelgmlaaGreatPYA2
import Derived.Test.YtbbadnlaelgmlaaGreatRows
import Derived.Handed
import Derived.OpenShut
import Derived.Deep.Fields
import Derived.Deep.Slices
import Derived.ChangeSame
import Derived.ChangeSlices
set_option linter.unusedVariables false
set_option linter.unusedSimpArgs false

namespace Go.Proofs.YtbbadnlaelgmlaaGreat
open Go.RowKit
set_option maxRecDepth 100000
set_option linter.unusedVariables false
set_option linter.unusedSimpArgs false

def kdC : Array Value := #[.int .u8 1, .func (.func 49) #[] #[], .int .u8 2, .func (.func 50) #[] #[], .int .u8 3, .func (.func 51) #[] #[], .int .u8 4, .func (.func 52) #[] #[], .int .u8 5, .func (.func 53) #[] #[], .int .u8 6, .func (.func 54) #[] #[], .int .u8 7, .func (.func 55) #[] #[], .int .u8 8, .func (.func 56) #[] #[], .int .u8 9, .func (.func 57) #[] #[], .int .u8 10, .func (.func 58) #[] #[]]
set_option maxHeartbeats 4000000 in
theorem c_kinds (w : World) : Calls Tryz.prog 28 #[] w fun e w' => e = .returned (.slice (some ⟨w.heap.size, 0, none⟩) 10 10) ∧ w'.heap[w.heap.size]? = some (.cells kdC 68 (0, 0)) ∧ Below w.heap.size w w' := by
  obtain ⟨W, h1⟩ : ∃ W, W = w.alloc (.cells #[.int .u8 1, .func (.func 49) #[] #[], .int .u8 2, .func (.func 50) #[] #[], .int .u8 3, .func (.func 51) #[] #[], .int .u8 4, .func (.func 52) #[] #[], .int .u8 5, .func (.func 53) #[] #[], .int .u8 6, .func (.func 54) #[] #[], .int .u8 7, .func (.func 55) #[] #[], .int .u8 8, .func (.func 56) #[] #[], .int .u8 9, .func (.func 57) #[] #[], .int .u8 10, .func (.func 58) #[] #[]] 68) := ⟨_, rfl⟩
  have HB := Lib.hid (show Below w.heap.size w W by rw [h1]; exact (Below.refl _ _).alloc (Nat.le_refl _) _)
  have HX := Lib.hid (show W.heap[w.heap.size]? = some (.cells kdC 68 (0, 0)) by rw [h1]; exact box_new _ _ _)
  go_enter Tryz.func28, Tryz.ntmps28
  go_wp2_with (fail)
  rw [← h1]
  clear h1
  go_ret
  exact ⟨rfl, HX.out, HB.out⟩
theorem bnK_len {z : Sn} (ok : z.Ok) : (bnK z.s z.ss z.d 1).length ≤ 16 ∧ (bnK z.s z.ss z.d 2).length ≤ 16 ∧ (bnK z.s z.ss z.d 3).length ≤ 8 ∧ (bnK z.s z.ss z.d 4).length ≤ 800 ∧ (bnK z.s z.ss z.d 5).length ≤ 800 ∧ (bnK z.s z.ss z.d 6).length ≤ 800 ∧ (bnK z.s z.ss z.d 7).length ≤ 800 ∧ (bnK z.s z.ss z.d 8).length ≤ 8 ∧ (bnK z.s z.ss z.d 9).length ≤ 4 ∧ (bnK z.s z.ss z.d 10).length ≤ 4 := by
  have h8 := few_svcs ok
  have e : z.ss.length = z.xs.length := svs_len _
  have b : ∀ (k : Nat) (f : Nat → List Int), (∀ i, i < z.xs.length → (f i).length ≤ 100) → (bk2 k f z.ss.length).length ≤ 800 := fun k f h => by
    rw [e]
    have := bk2_len k 100 f z.xs.length h
    omega
  refine ⟨Nat.le_trans (bk1_len _ _ _) (few_hosts ok), Nat.le_trans (bk1_len _ _ _) (few_hosts ok), Nat.le_trans (bk1_len _ _ _) (by omega), b _ _ (spr_len ok), b _ _ (apt_len ok), b _ _ (nea_len ok), b _ _ (frm_len ok), Nat.le_trans (bk1_len _ _ _) (few_brks ok), Nat.le_trans (bk1_len _ _ _) (few_feeds ok), Nat.le_trans (bk1_len _ _ _) (few_loops ok)⟩
theorem bnTo_len {z : Sn} (ok : z.Ok) {n : Nat} (hn : n ≤ 10) : (bnTo z.s z.ss z.d n).length ≤ 4000 := by
  obtain ⟨h1, h2, h3, h4, h5, h6, h7, h8, h9, h10⟩ := bnK_len ok
  have hz : bnTo z.s z.ss z.d 0 = [] := rfl
  rcases (by omega : n = 0 ∨ n = 1 ∨ n = 2 ∨ n = 3 ∨ n = 4 ∨ n = 5 ∨ n = 6 ∨ n = 7 ∨ n = 8 ∨ n = 9 ∨ n = 10) with rfl | rfl | rfl | rfl | rfl | rfl | rfl | rfl | rfl | rfl | rfl
  all_goals (simp only [bnTo_succ, List.length_append, hz, List.length_nil, Nat.zero_add, Nat.reduceAdd]; omega)
theorem fnd_new {z : Sn} {W0 X : World} {g kd : Nat} {fv : Value} {l : List Bn} (sn : SnAt W0 z) (be : Below W0.heap.size W0 X) (gb : W0.heap.size ≤ g) (gl : g < X.heap.size) (co : Col W0.heap.size g l X) : Fnd z W0 g X.heap.size kd fv l (X.alloc (.cells #[.int .u8 (kd : Int), fv] 68)) ∧ Kg g X (X.alloc (.cells #[.int .u8 (kd : Int), fv] 68)) := by
  have hb : Below X.heap.size X (X.alloc (.cells #[.int .u8 (kd : Int), fv] 68)) := (Below.refl _ _).alloc (Nat.le_refl _) _
  have hk := Kg.of_below hb (Nat.le_refl _) gl
  refine ⟨⟨sn, be.alloc be.size _, gb, Nat.lt_of_lt_of_le gl hb.size, co.on hb (Nat.le_refl _), ⟨heap_alloc_new _ _, by omega, fun e => ?_⟩⟩, hk⟩
  have e2 : lbk X g = some X.heap.size := by
    rw [← e]; unfold lbk; rw [Below.heap_alloc _ _ _ gl]
  have := (co.lb e2).2.1
  omega
set_option maxHeartbeats 32000000 in
theorem c_Broken (z : Sn) (r : Bool) (hr : r = true ↔ z.Ok) (L : List Bn) (hL : bnV z.s z.ss z.d r = L) (w : World) (hz : SnAt w z) :
    Calls Tryz.prog 13 #[.agg #[.slice z.p.a1 z.s.feeds.length z.p.c1, .slice z.p.a2 z.s.brks.length z.p.c2, .slice z.p.a3 z.s.loops.length z.p.c3, .slice z.p.a4 z.s.racks.length z.p.c4, .int .i64 z.s.sw, .slice z.p.a5 z.s.links.length z.p.c5, .slice z.p.a6 z.s.hosts.length z.p.c6], .agg #[.slice z.A z.xs.length z.c], .agg #[.slice z.q.a1 z.d.hosts.length z.q.c1, .slice z.q.a2 z.d.reps.length z.q.c2]] w fun e w' => ∃ A c, e = .returned (.slice A L.length c) ∧ Rv 3 bnF w' A c L ∧ Below w.heap.size w w' := by
  obtain ⟨W1, h1⟩ : ∃ W, W = w.alloc (.cells #[.slice z.p.a1 z.s.feeds.length z.p.c1, .slice z.p.a2 z.s.brks.length z.p.c2, .slice z.p.a3 z.s.loops.length z.p.c3, .slice z.p.a4 z.s.racks.length z.p.c4, .int .i64 z.s.sw, .slice z.p.a5 z.s.links.length z.p.c5, .slice z.p.a6 z.s.hosts.length z.p.c6] 29) := ⟨_, rfl⟩
  obtain ⟨W2, h2⟩ : ∃ W, W = W1.alloc (.cells #[.slice z.A z.xs.length z.c] 32) := ⟨_, rfl⟩
  obtain ⟨W, h3⟩ : ∃ W, W = W2.alloc (.cells #[.slice z.q.a1 z.d.hosts.length z.q.c1, .slice z.q.a2 z.d.reps.length z.q.c2] 36) := ⟨_, rfl⟩
  obtain ⟨B0, X1⟩ := sn_boxes h1 h2 h3
  have z3 : W.heap.size = w.heap.size + 1 + 1 + 1 := sn_size h1 h2 h3
  have HB := Lib.hid B0
  have Z0 := hz.on B0 (Nat.le_refl _)
  have HZ := Lib.hid (fun (X : World) (hX : Below W.heap.size W X) => Z0.on hX (Nat.le_refl _))
  have HF := Lib.hid (fun (X : World) (hX : Below W.heap.size W X) => ((X1.on hX (Nat.le_refl _)).cells : X.cell? ⟨w.heap.size, 0, none⟩ = some (.slice z.p.a1 z.s.feeds.length z.p.c1) ∧ X.cell? ⟨w.heap.size, 1, none⟩ = some (.slice z.p.a2 z.s.brks.length z.p.c2) ∧ X.cell? ⟨w.heap.size, 2, none⟩ = some (.slice z.p.a3 z.s.loops.length z.p.c3) ∧ X.cell? ⟨w.heap.size, 3, none⟩ = some (.slice z.p.a4 z.s.racks.length z.p.c4) ∧ X.cell? ⟨w.heap.size, 4, none⟩ = some (.int .i64 z.s.sw) ∧ X.cell? ⟨w.heap.size, 5, none⟩ = some (.slice z.p.a5 z.s.links.length z.p.c5) ∧ X.cell? ⟨w.heap.size, 6, none⟩ = some (.slice z.p.a6 z.s.hosts.length z.p.c6) ∧ X.cell? ⟨w.heap.size + 1, 0, none⟩ = some (.slice z.A z.xs.length z.c) ∧ X.cell? ⟨w.heap.size + 1 + 1, 0, none⟩ = some (.slice z.q.a1 z.d.hosts.length z.q.c1) ∧ X.cell? ⟨w.heap.size + 1 + 1, 1, none⟩ = some (.slice z.q.a2 z.d.reps.length z.q.c2)))
  have HX := Lib.hid (fun (X : World) (hX : Below W.heap.size W X) => X1.on hX (Nat.le_refl _))
  have HKW := Lib.hid (Below.refl W.heap.size W)
  have hle := HB.out.size
  obtain ⟨n1, n2, n3, n4, n5, n6, n7, n8⟩ := hz.bounds
  have HR := Lib.hid hr
  have HLL := Lib.hid hL
  clear hr hL
  clear hz B0 X1 z3 Z0
  obtain ⟨f0, f1, f2, f3, f4, f5, f6, g0, g1, g2⟩ := HF.out W HKW.out
  rw [h3, h2, h1] at f0 f1 f2 f3 f4 f5 f6 g0 g1 g2
  generalize hBB : w.heap.size = B at *
  go_enter Tryz.func13, Tryz.ntmps13
  go_wp2_with (fail)
  rw [← h1, ← h2, ← h3]
  clear h1 h2 h3 f0 f1 f2 f3 f4 f5 f6 g0 g1 g2
  go_at_call 27
  refine (c_vTo z r HR.out W (HZ.out W HKW.out)).mono ?_
  rintro e v1 ⟨rfl, bb⟩
  have HKv1 := Lib.hid (below_join HKW.out bb HKW.out.size)
  clear bb
  cases r
  · have HE := Lib.hid (show ([] : List Bn) = L from HLL.out)
    go_wp2_with (fail)
    go_ret
    exact ⟨none, 0, by rw [← HE.out]; rfl, by rw [← HE.out]; exact Rv.nil _, below_join HB.out HKv1.out hle⟩
  have HOK := Lib.hid (HR.out.1 rfl)
  have HE := Lib.hid (show bnTo z.s z.ss z.d 10 = L from HLL.out)
  have HZW := Lib.hid (HZ.out W HKW.out)
  obtain ⟨W4, hW4⟩ : ∃ X, X = v1.alloc (.cells #[.slice none 0 0] 40) := ⟨_, rfl⟩
  have b4 : Below v1.heap.size v1 W4 := by rw [hW4]; exact (Below.refl _ _).alloc (Nat.le_refl _) _
  have HK4 := Lib.hid (below_join HKv1.out b4 HKv1.out.size)
  obtain ⟨g, hg⟩ : ∃ g, g = v1.heap.size := ⟨_, rfl⟩
  have hgW : W.heap.size ≤ g := by rw [hg]; exact HKv1.out.size
  have hgl : g < W4.heap.size := by rw [hW4, World.size_alloc, hg]; omega
  have HC4 := Lib.hid (show Col W.heap.size g [] W4 from ⟨.slice none 0 0, by rw [hg, hW4]; exact box_new _ _ _, World.ownsRow_nil _ _ _ _⟩)
  have hg4 : W4.heap.size = g + 1 := by rw [hW4, World.size_alloc, hg]
  have HG4 := Lib.hid hg4
  clear b4 hg4
  go_wp2_with (fail)
  rw [← hW4]
  rw [← hg]
  clear hW4 hg
  go_at_call 28
  refine (c_kinds W4).mono ?_
  rintro e v2 ⟨rfl, hkc, b2⟩
  have HK2 := Lib.hid (below_join HK4.out b2 HK4.out.size)
  have HG2 := Lib.hid (Kg.of_below b2 (Nat.le_refl _) hgl)
  have HC2 := Lib.hid (HC4.out.on b2 (Nat.le_refl _))
  have hgl2 : g < v2.heap.size := Nat.lt_of_lt_of_le hgl b2.size
  obtain ⟨K, hK⟩ : ∃ K, K = W4.heap.size := ⟨_, rfl⟩
  rw [← hK] at hkc ⊢
  have LK : Loc g v2 K (.cells kdC 68 (0, 0)) := ⟨hkc, by omega, fun e => by
    have e2 : lbk W4 g = some K := by rw [← e]; unfold lbk; rw [b2.block g hgl]
    have := (HC4.out.lb e2).2.1
    omega⟩
  have HLK := Lib.hid (fun (X : World) (hX : Kg g v2 X) => (⟨(LK.on hX).cell rfl, (LK.on hX).cell rfl, (LK.on hX).cell rfl, (LK.on hX).cell rfl, (LK.on hX).cell rfl, (LK.on hX).cell rfl, (LK.on hX).cell rfl, (LK.on hX).cell rfl, (LK.on hX).cell rfl, (LK.on hX).cell rfl, (LK.on hX).cell rfl, (LK.on hX).cell rfl, (LK.on hX).cell rfl, (LK.on hX).cell rfl, (LK.on hX).cell rfl, (LK.on hX).cell rfl, (LK.on hX).cell rfl, (LK.on hX).cell rfl, (LK.on hX).cell rfl, (LK.on hX).cell rfl⟩ : X.cell? ⟨K, 0, none⟩ = some (.int .u8 1) ∧ X.cell? ⟨K, 1, none⟩ = some (.func (.func 49) #[] #[]) ∧ X.cell? ⟨K, 2, none⟩ = some (.int .u8 2) ∧ X.cell? ⟨K, 3, none⟩ = some (.func (.func 50) #[] #[]) ∧ X.cell? ⟨K, 4, none⟩ = some (.int .u8 3) ∧ X.cell? ⟨K, 5, none⟩ = some (.func (.func 51) #[] #[]) ∧ X.cell? ⟨K, 6, none⟩ = some (.int .u8 4) ∧ X.cell? ⟨K, 7, none⟩ = some (.func (.func 52) #[] #[]) ∧ X.cell? ⟨K, 8, none⟩ = some (.int .u8 5) ∧ X.cell? ⟨K, 9, none⟩ = some (.func (.func 53) #[] #[]) ∧ X.cell? ⟨K, 10, none⟩ = some (.int .u8 6) ∧ X.cell? ⟨K, 11, none⟩ = some (.func (.func 54) #[] #[]) ∧ X.cell? ⟨K, 12, none⟩ = some (.int .u8 7) ∧ X.cell? ⟨K, 13, none⟩ = some (.func (.func 55) #[] #[]) ∧ X.cell? ⟨K, 14, none⟩ = some (.int .u8 8) ∧ X.cell? ⟨K, 15, none⟩ = some (.func (.func 56) #[] #[]) ∧ X.cell? ⟨K, 16, none⟩ = some (.int .u8 9) ∧ X.cell? ⟨K, 17, none⟩ = some (.func (.func 57) #[] #[]) ∧ X.cell? ⟨K, 18, none⟩ = some (.int .u8 10) ∧ X.cell? ⟨K, 19, none⟩ = some (.func (.func 58) #[] #[])))
  have HKg2 := Lib.hid (Kg.refl g v2)
  clear hkc b2 LK hK
  go_wp2_with (fail)
  go_loopw [18] (fun i wr => ∃ k : Nat, k ≤ 10 ∧ i = .int .i64 (k : Int) ∧ Hid (Below W.heap.size W wr) ∧ Hid (Col W.heap.size g (bnTo z.s z.ss z.d k) wr) ∧ Hid (Kg g v2 wr)) (fun i _ => 10 - (intOf i).toNat)
  case atStart => exact ⟨0, Nat.zero_le _, rfl, HK2, HC2, HKg2⟩
  case round =>
    obtain ⟨k, hk, rfl, hBk, hCk, hGk⟩ := hrel
    have hki : ((k : Nat) : Int).toNat = k := by omega
    have hglr : g < wr.heap.size := Nat.lt_of_lt_of_le hgl2 hGk.out.size
    by_cases hlt : k < 10
    · have HLN := Lib.hid (bnTo_len HOK.out hk)
      have HSU := Lib.hid (bnTo_succ z.s z.ss z.d k)
      obtain ⟨k0, k1, k2, k3, k4, k5, k6, k7, k8, k9, k10, k11, k12, k13, k14, k15, k16, k17, k18, k19⟩ := HLK.out wr hGk.out
      rcases (by omega : k = 0 ∨ k = 1 ∨ k = 2 ∨ k = 3 ∨ k = 4 ∨ k = 5 ∨ k = 6 ∨ k = 7 ∨ k = 8 ∨ k = 9) with rfl | rfl | rfl | rfl | rfl | rfl | rfl | rfl | rfl | rfl
      · obtain ⟨V, hV⟩ : ∃ X, X = wr.alloc (.cells #[.int .u8 1, .func (.func 49) #[] #[]] 68) := ⟨_, rfl⟩
        have hnew : Fnd z W g wr.heap.size 1 (.func (.func 49) #[] #[]) (bnTo z.s z.ss z.d 0) V ∧ Kg g wr V := by rw [hV]; exact fnd_new (kd := 1) (fv := .func (.func 49) #[] #[]) HZW.out hBk.out hgW hglr hCk.out
        have HFV := Lib.hid hnew.1
        have HKV := Lib.hid (hGk.out.trans hnew.2)
        have kx0 : V.cell? ⟨wr.heap.size, 0, none⟩ = some (.int .u8 1) := hnew.1.kx.cell rfl
        have kx1 : V.cell? ⟨wr.heap.size, 1, none⟩ = some (.func (.func 49) #[] #[]) := hnew.1.kx.cell rfl
        obtain ⟨f0, f1, f2, f3, f4, f5, f6, g0, g1, g2⟩ := HF.out V HFV.out.be
        clear hnew
        rw [hV] at f0 f1 f2 f3 f4 f5 f6 g0 g1 g2 kx0 kx1
        go_wp2_with (fail)
        rw [← hV]
        clear hV f0 f1 f2 f3 f4 f5 f6 g0 g1 g2 kx0 kx1 k0 k1 k2 k3 k4 k5 k6 k7 k8 k9 k10 k11 k12 k13 k14 k15 k16 k17 k18 k19
        go_at_call 49
        refine (c_findCores z W g wr.heap.size (.func (.func 49) #[] #[]) (bnTo z.s z.ss z.d 0) HOK.out (Nat.le_trans HLN.out (by omega)) V HFV.out).mono ?_
        rintro e y ⟨rfl, fy, ky⟩
        have HBY := Lib.hid fy.be
        have HCY := Lib.hid (show Col W.heap.size g (bnTo z.s z.ss z.d (0 + 1)) y by rw [HSU.out]; exact fy.co)
        have HKY := Lib.hid (HKV.out.trans ky)
        clear fy ky
        go_wp2_with (fail)
        go_roundw
        case rel => exact ⟨0 + 1, by omega, by go_num, HBY, HCY, HKY⟩
        case measure => simp only [intOf]; omega
      · obtain ⟨V, hV⟩ : ∃ X, X = wr.alloc (.cells #[.int .u8 2, .func (.func 50) #[] #[]] 68) := ⟨_, rfl⟩
        have hnew : Fnd z W g wr.heap.size 2 (.func (.func 50) #[] #[]) (bnTo z.s z.ss z.d 1) V ∧ Kg g wr V := by rw [hV]; exact fnd_new (kd := 2) (fv := .func (.func 50) #[] #[]) HZW.out hBk.out hgW hglr hCk.out
        have HFV := Lib.hid hnew.1
        have HKV := Lib.hid (hGk.out.trans hnew.2)
        have kx0 : V.cell? ⟨wr.heap.size, 0, none⟩ = some (.int .u8 2) := hnew.1.kx.cell rfl
        have kx1 : V.cell? ⟨wr.heap.size, 1, none⟩ = some (.func (.func 50) #[] #[]) := hnew.1.kx.cell rfl
        obtain ⟨f0, f1, f2, f3, f4, f5, f6, g0, g1, g2⟩ := HF.out V HFV.out.be
        clear hnew
        rw [hV] at f0 f1 f2 f3 f4 f5 f6 g0 g1 g2 kx0 kx1
        go_wp2_with (fail)
        rw [← hV]
        clear hV f0 f1 f2 f3 f4 f5 f6 g0 g1 g2 kx0 kx1 k0 k1 k2 k3 k4 k5 k6 k7 k8 k9 k10 k11 k12 k13 k14 k15 k16 k17 k18 k19
        go_at_call 50
        refine (c_findPhases z W g wr.heap.size (.func (.func 50) #[] #[]) (bnTo z.s z.ss z.d 1) HOK.out (Nat.le_trans HLN.out (by omega)) V HFV.out).mono ?_
        rintro e y ⟨rfl, fy, ky⟩
        have HBY := Lib.hid fy.be
        have HCY := Lib.hid (show Col W.heap.size g (bnTo z.s z.ss z.d (1 + 1)) y by rw [HSU.out]; exact fy.co)
        have HKY := Lib.hid (HKV.out.trans ky)
        clear fy ky
        go_wp2_with (fail)
        go_roundw
        case rel => exact ⟨1 + 1, by omega, by go_num, HBY, HCY, HKY⟩
        case measure => simp only [intOf]; omega
      · obtain ⟨V, hV⟩ : ∃ X, X = wr.alloc (.cells #[.int .u8 3, .func (.func 51) #[] #[]] 68) := ⟨_, rfl⟩
        have hnew : Fnd z W g wr.heap.size 3 (.func (.func 51) #[] #[]) (bnTo z.s z.ss z.d 2) V ∧ Kg g wr V := by rw [hV]; exact fnd_new (kd := 3) (fv := .func (.func 51) #[] #[]) HZW.out hBk.out hgW hglr hCk.out
        have HFV := Lib.hid hnew.1
        have HKV := Lib.hid (hGk.out.trans hnew.2)
        have kx0 : V.cell? ⟨wr.heap.size, 0, none⟩ = some (.int .u8 3) := hnew.1.kx.cell rfl
        have kx1 : V.cell? ⟨wr.heap.size, 1, none⟩ = some (.func (.func 51) #[] #[]) := hnew.1.kx.cell rfl
        obtain ⟨f0, f1, f2, f3, f4, f5, f6, g0, g1, g2⟩ := HF.out V HFV.out.be
        clear hnew
        rw [hV] at f0 f1 f2 f3 f4 f5 f6 g0 g1 g2 kx0 kx1
        go_wp2_with (fail)
        rw [← hV]
        clear hV f0 f1 f2 f3 f4 f5 f6 g0 g1 g2 kx0 kx1 k0 k1 k2 k3 k4 k5 k6 k7 k8 k9 k10 k11 k12 k13 k14 k15 k16 k17 k18 k19
        go_at_call 51
        refine (c_findLeasts z W g wr.heap.size (.func (.func 51) #[] #[]) (bnTo z.s z.ss z.d 2) HOK.out (Nat.le_trans HLN.out (by omega)) V HFV.out).mono ?_
        rintro e y ⟨rfl, fy, ky⟩
        have HBY := Lib.hid fy.be
        have HCY := Lib.hid (show Col W.heap.size g (bnTo z.s z.ss z.d (2 + 1)) y by rw [HSU.out]; exact fy.co)
        have HKY := Lib.hid (HKV.out.trans ky)
        clear fy ky
        go_wp2_with (fail)
        go_roundw
        case rel => exact ⟨2 + 1, by omega, by go_num, HBY, HCY, HKY⟩
        case measure => simp only [intOf]; omega
      · obtain ⟨V, hV⟩ : ∃ X, X = wr.alloc (.cells #[.int .u8 4, .func (.func 52) #[] #[]] 68) := ⟨_, rfl⟩
        have hnew : Fnd z W g wr.heap.size 4 (.func (.func 52) #[] #[]) (bnTo z.s z.ss z.d 3) V ∧ Kg g wr V := by rw [hV]; exact fnd_new (kd := 4) (fv := .func (.func 52) #[] #[]) HZW.out hBk.out hgW hglr hCk.out
        have HFV := Lib.hid hnew.1
        have HKV := Lib.hid (hGk.out.trans hnew.2)
        have kx0 : V.cell? ⟨wr.heap.size, 0, none⟩ = some (.int .u8 4) := hnew.1.kx.cell rfl
        have kx1 : V.cell? ⟨wr.heap.size, 1, none⟩ = some (.func (.func 52) #[] #[]) := hnew.1.kx.cell rfl
        obtain ⟨f0, f1, f2, f3, f4, f5, f6, g0, g1, g2⟩ := HF.out V HFV.out.be
        clear hnew
        rw [hV] at f0 f1 f2 f3 f4 f5 f6 g0 g1 g2 kx0 kx1
        go_wp2_with (fail)
        rw [← hV]
        clear hV f0 f1 f2 f3 f4 f5 f6 g0 g1 g2 kx0 kx1 k0 k1 k2 k3 k4 k5 k6 k7 k8 k9 k10 k11 k12 k13 k14 k15 k16 k17 k18 k19
        go_at_call 52
        refine (c_findSpreads z W g wr.heap.size (.func (.func 52) #[] #[]) (bnTo z.s z.ss z.d 3) HOK.out (Nat.le_trans HLN.out (by omega)) V HFV.out).mono ?_
        rintro e y ⟨rfl, fy, ky⟩
        have HBY := Lib.hid fy.be
        have HCY := Lib.hid (show Col W.heap.size g (bnTo z.s z.ss z.d (3 + 1)) y by rw [HSU.out]; exact fy.co)
        have HKY := Lib.hid (HKV.out.trans ky)
        clear fy ky
        go_wp2_with (fail)
        go_roundw
        case rel => exact ⟨3 + 1, by omega, by go_num, HBY, HCY, HKY⟩
        case measure => simp only [intOf]; omega
      · obtain ⟨V, hV⟩ : ∃ X, X = wr.alloc (.cells #[.int .u8 5, .func (.func 53) #[] #[]] 68) := ⟨_, rfl⟩
        have hnew : Fnd z W g wr.heap.size 5 (.func (.func 53) #[] #[]) (bnTo z.s z.ss z.d 4) V ∧ Kg g wr V := by rw [hV]; exact fnd_new (kd := 5) (fv := .func (.func 53) #[] #[]) HZW.out hBk.out hgW hglr hCk.out
        have HFV := Lib.hid hnew.1
        have HKV := Lib.hid (hGk.out.trans hnew.2)
        have kx0 : V.cell? ⟨wr.heap.size, 0, none⟩ = some (.int .u8 5) := hnew.1.kx.cell rfl
        have kx1 : V.cell? ⟨wr.heap.size, 1, none⟩ = some (.func (.func 53) #[] #[]) := hnew.1.kx.cell rfl
        obtain ⟨f0, f1, f2, f3, f4, f5, f6, g0, g1, g2⟩ := HF.out V HFV.out.be
        clear hnew
        rw [hV] at f0 f1 f2 f3 f4 f5 f6 g0 g1 g2 kx0 kx1
        go_wp2_with (fail)
        rw [← hV]
        clear hV f0 f1 f2 f3 f4 f5 f6 g0 g1 g2 kx0 kx1 k0 k1 k2 k3 k4 k5 k6 k7 k8 k9 k10 k11 k12 k13 k14 k15 k16 k17 k18 k19
        go_at_call 53
        refine (c_findAparts z W g wr.heap.size (.func (.func 53) #[] #[]) (bnTo z.s z.ss z.d 4) HOK.out (Nat.le_trans HLN.out (by omega)) V HFV.out).mono ?_
        rintro e y ⟨rfl, fy, ky⟩
        have HBY := Lib.hid fy.be
        have HCY := Lib.hid (show Col W.heap.size g (bnTo z.s z.ss z.d (4 + 1)) y by rw [HSU.out]; exact fy.co)
        have HKY := Lib.hid (HKV.out.trans ky)
        clear fy ky
        go_wp2_with (fail)
        go_roundw
        case rel => exact ⟨4 + 1, by omega, by go_num, HBY, HCY, HKY⟩
        case measure => simp only [intOf]; omega
      · obtain ⟨V, hV⟩ : ∃ X, X = wr.alloc (.cells #[.int .u8 6, .func (.func 54) #[] #[]] 68) := ⟨_, rfl⟩
        have hnew : Fnd z W g wr.heap.size 6 (.func (.func 54) #[] #[]) (bnTo z.s z.ss z.d 5) V ∧ Kg g wr V := by rw [hV]; exact fnd_new (kd := 6) (fv := .func (.func 54) #[] #[]) HZW.out hBk.out hgW hglr hCk.out
        have HFV := Lib.hid hnew.1
        have HKV := Lib.hid (hGk.out.trans hnew.2)
        have kx0 : V.cell? ⟨wr.heap.size, 0, none⟩ = some (.int .u8 6) := hnew.1.kx.cell rfl
        have kx1 : V.cell? ⟨wr.heap.size, 1, none⟩ = some (.func (.func 54) #[] #[]) := hnew.1.kx.cell rfl
        obtain ⟨f0, f1, f2, f3, f4, f5, f6, g0, g1, g2⟩ := HF.out V HFV.out.be
        clear hnew
        rw [hV] at f0 f1 f2 f3 f4 f5 f6 g0 g1 g2 kx0 kx1
        go_wp2_with (fail)
        rw [← hV]
        clear hV f0 f1 f2 f3 f4 f5 f6 g0 g1 g2 kx0 kx1 k0 k1 k2 k3 k4 k5 k6 k7 k8 k9 k10 k11 k12 k13 k14 k15 k16 k17 k18 k19
        go_at_call 54
        refine (c_findNears z W g wr.heap.size (.func (.func 54) #[] #[]) (bnTo z.s z.ss z.d 5) HOK.out (Nat.le_trans HLN.out (by omega)) V HFV.out).mono ?_
        rintro e y ⟨rfl, fy, ky⟩
        have HBY := Lib.hid fy.be
        have HCY := Lib.hid (show Col W.heap.size g (bnTo z.s z.ss z.d (5 + 1)) y by rw [HSU.out]; exact fy.co)
        have HKY := Lib.hid (HKV.out.trans ky)
        clear fy ky
        go_wp2_with (fail)
        go_roundw
        case rel => exact ⟨5 + 1, by omega, by go_num, HBY, HCY, HKY⟩
        case measure => simp only [intOf]; omega
      · obtain ⟨V, hV⟩ : ∃ X, X = wr.alloc (.cells #[.int .u8 7, .func (.func 55) #[] #[]] 68) := ⟨_, rfl⟩
        have hnew : Fnd z W g wr.heap.size 7 (.func (.func 55) #[] #[]) (bnTo z.s z.ss z.d 6) V ∧ Kg g wr V := by rw [hV]; exact fnd_new (kd := 7) (fv := .func (.func 55) #[] #[]) HZW.out hBk.out hgW hglr hCk.out
        have HFV := Lib.hid hnew.1
        have HKV := Lib.hid (hGk.out.trans hnew.2)
        have kx0 : V.cell? ⟨wr.heap.size, 0, none⟩ = some (.int .u8 7) := hnew.1.kx.cell rfl
        have kx1 : V.cell? ⟨wr.heap.size, 1, none⟩ = some (.func (.func 55) #[] #[]) := hnew.1.kx.cell rfl
        obtain ⟨f0, f1, f2, f3, f4, f5, f6, g0, g1, g2⟩ := HF.out V HFV.out.be
        clear hnew
        rw [hV] at f0 f1 f2 f3 f4 f5 f6 g0 g1 g2 kx0 kx1
        go_wp2_with (fail)
        rw [← hV]
        clear hV f0 f1 f2 f3 f4 f5 f6 g0 g1 g2 kx0 kx1 k0 k1 k2 k3 k4 k5 k6 k7 k8 k9 k10 k11 k12 k13 k14 k15 k16 k17 k18 k19
        go_at_call 55
        refine (c_findFirmwares z W g wr.heap.size (.func (.func 55) #[] #[]) (bnTo z.s z.ss z.d 6) HOK.out (Nat.le_trans HLN.out (by omega)) V HFV.out).mono ?_
        rintro e y ⟨rfl, fy, ky⟩
        have HBY := Lib.hid fy.be
        have HCY := Lib.hid (show Col W.heap.size g (bnTo z.s z.ss z.d (6 + 1)) y by rw [HSU.out]; exact fy.co)
        have HKY := Lib.hid (HKV.out.trans ky)
        clear fy ky
        go_wp2_with (fail)
        go_roundw
        case rel => exact ⟨6 + 1, by omega, by go_num, HBY, HCY, HKY⟩
        case measure => simp only [intOf]; omega
      · obtain ⟨V, hV⟩ : ∃ X, X = wr.alloc (.cells #[.int .u8 8, .func (.func 56) #[] #[]] 68) := ⟨_, rfl⟩
        have hnew : Fnd z W g wr.heap.size 8 (.func (.func 56) #[] #[]) (bnTo z.s z.ss z.d 7) V ∧ Kg g wr V := by rw [hV]; exact fnd_new (kd := 8) (fv := .func (.func 56) #[] #[]) HZW.out hBk.out hgW hglr hCk.out
        have HFV := Lib.hid hnew.1
        have HKV := Lib.hid (hGk.out.trans hnew.2)
        have kx0 : V.cell? ⟨wr.heap.size, 0, none⟩ = some (.int .u8 8) := hnew.1.kx.cell rfl
        have kx1 : V.cell? ⟨wr.heap.size, 1, none⟩ = some (.func (.func 56) #[] #[]) := hnew.1.kx.cell rfl
        obtain ⟨f0, f1, f2, f3, f4, f5, f6, g0, g1, g2⟩ := HF.out V HFV.out.be
        clear hnew
        rw [hV] at f0 f1 f2 f3 f4 f5 f6 g0 g1 g2 kx0 kx1
        go_wp2_with (fail)
        rw [← hV]
        clear hV f0 f1 f2 f3 f4 f5 f6 g0 g1 g2 kx0 kx1 k0 k1 k2 k3 k4 k5 k6 k7 k8 k9 k10 k11 k12 k13 k14 k15 k16 k17 k18 k19
        go_at_call 56
        refine (c_findBreakers z W g wr.heap.size (.func (.func 56) #[] #[]) (bnTo z.s z.ss z.d 7) HOK.out (Nat.le_trans HLN.out (by omega)) V HFV.out).mono ?_
        rintro e y ⟨rfl, fy, ky⟩
        have HBY := Lib.hid fy.be
        have HCY := Lib.hid (show Col W.heap.size g (bnTo z.s z.ss z.d (7 + 1)) y by rw [HSU.out]; exact fy.co)
        have HKY := Lib.hid (HKV.out.trans ky)
        clear fy ky
        go_wp2_with (fail)
        go_roundw
        case rel => exact ⟨7 + 1, by omega, by go_num, HBY, HCY, HKY⟩
        case measure => simp only [intOf]; omega
      · obtain ⟨V, hV⟩ : ∃ X, X = wr.alloc (.cells #[.int .u8 9, .func (.func 57) #[] #[]] 68) := ⟨_, rfl⟩
        have hnew : Fnd z W g wr.heap.size 9 (.func (.func 57) #[] #[]) (bnTo z.s z.ss z.d 8) V ∧ Kg g wr V := by rw [hV]; exact fnd_new (kd := 9) (fv := .func (.func 57) #[] #[]) HZW.out hBk.out hgW hglr hCk.out
        have HFV := Lib.hid hnew.1
        have HKV := Lib.hid (hGk.out.trans hnew.2)
        have kx0 : V.cell? ⟨wr.heap.size, 0, none⟩ = some (.int .u8 9) := hnew.1.kx.cell rfl
        have kx1 : V.cell? ⟨wr.heap.size, 1, none⟩ = some (.func (.func 57) #[] #[]) := hnew.1.kx.cell rfl
        obtain ⟨f0, f1, f2, f3, f4, f5, f6, g0, g1, g2⟩ := HF.out V HFV.out.be
        clear hnew
        rw [hV] at f0 f1 f2 f3 f4 f5 f6 g0 g1 g2 kx0 kx1
        go_wp2_with (fail)
        rw [← hV]
        clear hV f0 f1 f2 f3 f4 f5 f6 g0 g1 g2 kx0 kx1 k0 k1 k2 k3 k4 k5 k6 k7 k8 k9 k10 k11 k12 k13 k14 k15 k16 k17 k18 k19
        go_at_call 57
        refine (c_findFeeds z W g wr.heap.size (.func (.func 57) #[] #[]) (bnTo z.s z.ss z.d 8) HOK.out (Nat.le_trans HLN.out (by omega)) V HFV.out).mono ?_
        rintro e y ⟨rfl, fy, ky⟩
        have HBY := Lib.hid fy.be
        have HCY := Lib.hid (show Col W.heap.size g (bnTo z.s z.ss z.d (8 + 1)) y by rw [HSU.out]; exact fy.co)
        have HKY := Lib.hid (HKV.out.trans ky)
        clear fy ky
        go_wp2_with (fail)
        go_roundw
        case rel => exact ⟨8 + 1, by omega, by go_num, HBY, HCY, HKY⟩
        case measure => simp only [intOf]; omega
      · obtain ⟨V, hV⟩ : ∃ X, X = wr.alloc (.cells #[.int .u8 10, .func (.func 58) #[] #[]] 68) := ⟨_, rfl⟩
        have hnew : Fnd z W g wr.heap.size 10 (.func (.func 58) #[] #[]) (bnTo z.s z.ss z.d 9) V ∧ Kg g wr V := by rw [hV]; exact fnd_new (kd := 10) (fv := .func (.func 58) #[] #[]) HZW.out hBk.out hgW hglr hCk.out
        have HFV := Lib.hid hnew.1
        have HKV := Lib.hid (hGk.out.trans hnew.2)
        have kx0 : V.cell? ⟨wr.heap.size, 0, none⟩ = some (.int .u8 10) := hnew.1.kx.cell rfl
        have kx1 : V.cell? ⟨wr.heap.size, 1, none⟩ = some (.func (.func 58) #[] #[]) := hnew.1.kx.cell rfl
        obtain ⟨f0, f1, f2, f3, f4, f5, f6, g0, g1, g2⟩ := HF.out V HFV.out.be
        clear hnew
        rw [hV] at f0 f1 f2 f3 f4 f5 f6 g0 g1 g2 kx0 kx1
        go_wp2_with (fail)
        rw [← hV]
        clear hV f0 f1 f2 f3 f4 f5 f6 g0 g1 g2 kx0 kx1 k0 k1 k2 k3 k4 k5 k6 k7 k8 k9 k10 k11 k12 k13 k14 k15 k16 k17 k18 k19
        go_at_call 58
        refine (c_findLoops z W g wr.heap.size (.func (.func 58) #[] #[]) (bnTo z.s z.ss z.d 9) HOK.out (Nat.le_trans HLN.out (by omega)) V HFV.out).mono ?_
        rintro e y ⟨rfl, fy, ky⟩
        have HBY := Lib.hid fy.be
        have HCY := Lib.hid (show Col W.heap.size g (bnTo z.s z.ss z.d (9 + 1)) y by rw [HSU.out]; exact fy.co)
        have HKY := Lib.hid (HKV.out.trans ky)
        clear fy ky
        go_wp2_with (fail)
        go_roundw
        case rel => exact ⟨9 + 1, by omega, by go_num, HBY, HCY, HKY⟩
        case measure => simp only [intOf]; omega
    · obtain rfl : k = 10 := by omega
      obtain ⟨v, hv, ho⟩ := hCk.out.ex
      have x0 : wr.cell? ⟨g, 0, none⟩ = some v := cell_of hv rfl
      have HO := Lib.hid ho
      clear hv ho
      go_wp2_with (fail)
      go_ret
      obtain ⟨A, c, rfl, hrv⟩ := own_rv (k := 3) (F := bnF) HO.out
      rw [HE.out] at hrv ⊢
      exact ⟨A, c, rfl, hrv, below_join HB.out hBk.out hle⟩
end Go.Proofs.YtbbadnlaelgmlaaGreat

namespace Go.Proofs.YtbbadnlaelgmlaaGreat
open Go.RowKit
set_option maxRecDepth 100000
set_option linter.unusedVariables false
set_option linter.unusedSimpArgs false

def bnA (x : Bn) : Value := .agg #[.int .u8 (x.kind : Int), .int .i64 x.a, .int .i64 x.b]
theorem bn_fields : Tryz.prog.underlying 44 = some (.struct (Tryz.prog.fieldsOf 44)) := by kernel_rfl
theorem bn_list : (Tryz.prog.fieldsOf 44).toList.map (fun f => (f.name, f.type, f.offset)) = [("Kind", 42, 0), ("A", 3, 1), ("B", 3, 2)] := by kernel_rfl
theorem bn_stood : Tryz.prog.stoodInHeld 44 = false := by kernel_rfl
theorem bn_guard : Tryz.prog.eqGuardType Tryz.prog.depth 44 = false := by kernel_rfl
theorem guardBn (op : BinOp) (x y : Operand) (xs ys : Array Value) (w : World) : (eqGuard op 44 x y (.agg xs) (.agg ys)).run Tryz.prog w = .ok () w := run_eqGuard_agg w op _ x y xs ys bn_guard
theorem bn_three : ∃ f g h : Field, (Tryz.prog.fieldsOf 44).toList = [f, g, h] ∧ (f.name = "Kind" ∧ f.type = 42 ∧ f.offset = 0) ∧ (g.name = "A" ∧ g.type = 3 ∧ g.offset = 1) ∧ (h.name = "B" ∧ h.type = 3 ∧ h.offset = 2) := by
  have := bn_list
  match h : (Tryz.prog.fieldsOf 44).toList with
  | [f, g, i] =>
    rw [h] at this
    simp only [List.map_cons, List.map_nil, List.cons.injEq, Prod.mk.injEq] at this
    exact ⟨f, g, i, rfl, this.1, this.2.1, this.2.2.1⟩
  | [] => rw [h] at this; cases this
  | [f] => rw [h] at this; simp at this
  | [f, g] => rw [h] at this; simp at this
  | f :: g :: i :: j :: r => rw [h] at this; simp at this
theorem eqFieldsBn (a b s t p q : Int) (w : World) : (Op.eqFields 9999 #[.int .u8 a, .int .i64 s, .int .i64 p] #[.int .u8 b, .int .i64 t, .int .i64 q] (Tryz.prog.fieldsOf 44).toList).run Tryz.prog w = .ok ((a == b) && ((s == t) && (p == q))) w := by
  obtain ⟨f, g, h, e, ⟨fn, ft, fo⟩, ⟨gn, gt, go⟩, ⟨hn, ht, ho⟩⟩ := bn_three
  rw [e]
  simp only [Op.eqFields, fn, ft, fo, gn, gt, go, hn, ht, ho]
  cases hab : (a == b) <;> cases hst : (s == t) <;> cases hpq : (p == q) <;> simp [go_sem, hab, hst, hpq]
theorem bn_beq {x y : Bn} : (((x.kind : Int) == (y.kind : Int)) && ((x.a == y.a) && (x.b == y.b))) = decide (x = y) := by
  cases x; cases y
  rw [Bool.eq_iff_iff]
  simp
  omega
theorem neqBn (a b s t p q : Int) (w : World) : (binOp .neq 44 (.agg #[.int .u8 a, .int .i64 s, .int .i64 p]) (.agg #[.int .u8 b, .int .i64 t, .int .i64 q])).run Tryz.prog w = .ok (.bool (!((a == b) && ((s == t) && (p == q))))) w := by
  rw [run_neq_struct, run_equalIn_agg w 9999 _ _ _ bn_fields bn_stood, eqFieldsBn]
  rfl
theorem equalBn (x y : Bn) (w : World) : (Op.equal 44 (bnA x) (bnA y)).run Tryz.prog w = .ok (decide (x = y)) w := by
  unfold bnA
  show (Op.equalIn (9999 + 1) 44 _ _).run Tryz.prog w = _
  rw [run_equalIn_agg w 9999 _ _ _ bn_fields bn_stood, eqFieldsBn, bn_beq]
theorem checkInt (v : Int) (e : Bool) (n : Nat) (w : World) : (Instr.checkKey e (n + 1) 3 (.int .i64 v)).run Tryz.prog w = .ok () w :=
  MapKept.run_checkKey (d := .int .i64) (by kernel_rfl) (by simp [MapKept.IsKey]) _ _
theorem checkU8 (v : Int) (e : Bool) (n : Nat) (w : World) : (Instr.checkKey e (n + 1) 42 (.int .u8 v)).run Tryz.prog w = .ok () w :=
  MapKept.run_checkKey (d := .int .u8) (by kernel_rfl) (by simp [MapKept.IsKey]) _ _
theorem checkBn0 (x : Bn) (e : Bool) (n : Nat) (w : World) : (Instr.checkKey e (n + 1 + 1) 44 (bnA x)).run Tryz.prog w = .ok () w := by
  obtain ⟨f, g, h, e1, ⟨fn, ft, fo⟩, ⟨gn, gt, go⟩, ⟨hn, ht, ho⟩⟩ := bn_three
  unfold bnA
  rw [Instr.checkKey]
  simp only [Sem.run_bind, run_underlying bn_fields, Result.andThen_ok]
  rw [← Array.forIn_toList, e1]
  have c1 := fun v w => checkInt v e n w
  have c2 := fun v w => checkU8 v e n w
  simp [List.forIn_cons, fn, gn, hn, ft, gt, ht, fo, go, ho, go_sem, c1, c2]
theorem checkBn (x : Bn) (e : Bool) (w : World) : (Instr.checkKey e 10000 44 (bnA x)).run Tryz.prog w = .ok () w := checkBn0 x e 9998 w
/-- The entries of a map whose keys are these, each with true. -/
def mkEb : List Bn → Nat → List MapEntry
  | [], _ => []
  | k :: l, n => { key := bnA k, val := .bool true, born := n } :: mkEb l (n + 1)
theorem mkEb_snoc (k : Bn) : ∀ (l : List Bn) (n : Nat), mkEb (l ++ [k]) n = mkEb l n ++ [{ key := bnA k, val := .bool true, born := n + l.length }]
  | [], n => by simp [mkEb]
  | k' :: l, n => by simp [mkEb, mkEb_snoc k l (n + 1)]; omega
def MapB (w : World) (b : Nat) (ks : List Bn) : Prop := ∃ es, w.heap[b]? = some (.map es ks.length) ∧ es.toList = mkEb ks 0
theorem askBn (x : Bn) (w : World) : ∀ (ks : List Bn) (n i : Nat), (∃ j, (Instr.findAsking 44 (bnA x) (mkEb ks n) i).run Tryz.prog w = .ok (some (j, .bool true)) w ∧ x ∈ ks ∧ i ≤ j ∧ ks[j - i]? = some x) ∨ ((Instr.findAsking 44 (bnA x) (mkEb ks n) i).run Tryz.prog w = .ok none w ∧ x ∉ ks)
  | [], n, i => .inr ⟨by simp [mkEb, Instr.findAsking], by simp⟩
  | k :: l, n, i => by
    by_cases hk : x = k
    · subst hk
      refine .inl ⟨i, ?_, by simp, Nat.le_refl _, by simp⟩
      simp [mkEb, Instr.findAsking, Sem.run_bind, equalBn]
    · have hd : decide (x = k) = false := decide_eq_false hk
      rcases askBn x w l (n + 1) (i + 1) with ⟨j, h1, h2, h3, h4⟩ | ⟨h1, h2⟩
      · refine .inl ⟨j, ?_, by simp [h2], by omega, ?_⟩
        · simp [mkEb, Instr.findAsking, Sem.run_bind, equalBn, hk, h1]
        · rw [show j - i = (j - (i + 1)) + 1 by omega]; simpa using h4
      · refine .inr ⟨?_, by simp [hk, h2]⟩
        simp [mkEb, Instr.findAsking, Sem.run_bind, equalBn, hk, h1]
theorem bn_wide : (match Tryz.prog.underlying 44 with | some (.array _ _) | some (.struct _) => true | _ => false) = true := by rw [bn_fields]
theorem findBn (x : Bn) (w : World) (ks : List Bn) : (∃ j, (Instr.findKey 44 (bnA x) (mkEb ks 0)).run Tryz.prog w = .ok (some (j, .bool true)) w ∧ x ∈ ks ∧ ks[j]? = some x) ∨ ((Instr.findKey 44 (bnA x) (mkEb ks 0)).run Tryz.prog w = .ok none w ∧ x ∉ ks) := by
  rw [run_findKey_eq w bn_wide]
  rcases askBn x w ks 0 0 with ⟨j, h1, h2, h3, h4⟩ | h
  · exact .inl ⟨j, h1, h2, by simpa using h4⟩
  · exact .inr h
theorem run_lookB {t : TypeId} (ht : Tryz.prog.underlying t = some (.map 44 4)) {w : World} {b : Nat} {ks : List Bn} (hm : MapB w b ks) (x : Bn) : (Instr.lookup t (.map (some b)) (bnA x) false).run Tryz.prog w = .ok (.bool (decide (x ∈ ks))) w := by
  obtain ⟨es, hb, he⟩ := hm
  have hz : (zeroValue 4).run Tryz.prog w = .ok (.bool false) w := by kernel_rfl
  rcases findBn x w ks with ⟨j, h1, h2, -⟩ | ⟨h1, h2⟩
  · rw [← he] at h1
    simp [Instr.lookup, run_underlying ht, MapKept.run_getObj_map hb, checkBn, h1, h2, Result.andThen]
  · rw [← he] at h1
    simp [Instr.lookup, run_underlying ht, MapKept.run_getObj_map hb, checkBn, h1, h2, Result.andThen, hz]
theorem mkEb_get {x : Bn} : ∀ {ks : List Bn} {n j : Nat}, ks[j]? = some x → (mkEb ks n)[j]? = some { key := bnA x, val := .bool true, born := n + j }
  | [], n, j, h => by simp at h
  | k :: l, n, 0, h => by simp at h; subst h; simp [mkEb]
  | k :: l, n, j + 1, h => by
    have := mkEb_get (n := n + 1) (show l[j]? = some x by simpa using h)
    simp only [mkEb, List.getElem?_cons_succ, this]
    congr 2; omega
theorem same_bits0 (x : Bn) (n : Nat) : Instr.sameBits (n + 1) (bnA x) (bnA x) = true := by
  unfold bnA
  cases n <;> simp [Instr.sameBits]
theorem same_bits (x : Bn) : Instr.sameBits 10000 (bnA x) (bnA x) = true := same_bits0 x 9999
theorem run_putB {t : TypeId} (ht : Tryz.prog.underlying t = some (.map 44 4)) {w : World} {b : Nat} {ks : List Bn} (hm : MapB w b ks) (x : Bn) :
    ∃ w' ks', (Instr.mapUpdate t (.map (some b)) (bnA x) (.bool true)).run Tryz.prog w = .ok () w' ∧ MapB w' b ks' ∧ (∀ y, y ∈ ks' ↔ y ∈ ks ∨ y = x) ∧ w.grownBy w' (some b) := by
  obtain ⟨es, hb, he⟩ := hm
  have hlt := (Array.getElem?_eq_some_iff.1 hb).1
  rcases findBn x w ks with ⟨j, h1, h2, h3⟩ | ⟨h1, h2⟩
  · rw [← he] at h1
    have hj : es[j]? = some { key := bnA x, val := .bool true, born := 0 + j } := by
      rw [← Array.getElem?_toList, he]; exact mkEb_get h3
    have hmod : es.modify j (fun e => { e with key := bnA x, val := .bool true }) = es := by
      apply Array.ext
      · simp
      · intro i hi1 hi2
        rw [Array.getElem_modify]
        split
        · rename_i e
          subst e
          have := (Array.getElem?_eq_some_iff.1 hj).2
          rw [this]
        · rfl
    have hks : (Instr.keyThatStays (((es[j]?).map (·.key)).getD (bnA x)) (bnA x)).run Tryz.prog w = .ok (bnA x) w := by
      rw [hj]
      simp [Instr.keyThatStays, same_bits]
    refine ⟨{ w with heap := w.heap.setIfInBounds b (.map es ks.length) }, ks, by simp [Instr.mapUpdate, run_underlying ht, MapKept.run_getObj_map hb, checkBn, h1, Result.andThen, hks, hmod, MapKept.run_setObj_map _ hb], ⟨es, ?_, he⟩, fun y => ⟨.inl, fun h => h.elim id (fun e => e ▸ h2)⟩, ⟨rfl, rfl, rfl, by simp, fun i hi hne => by
      simp only [Array.getElem?_setIfInBounds]
      rw [if_neg (fun e => hne (by rw [e]))]⟩⟩
    simp [hlt]
  · rw [← he] at h1
    refine ⟨_, ks ++ [x], by simp [Instr.mapUpdate, run_underlying ht, MapKept.run_getObj_map hb, checkBn, h1, MapKept.run_setObj_map _ hb, Result.andThen]; rfl, ⟨es.push { key := bnA x, val := .bool true, born := ks.length }, ?_, ?_⟩, fun y => by simp, ?_⟩
    · simp [hlt]
    · rw [mkEb_snoc, Array.toList_push, he, Nat.zero_add]
    · exact ⟨rfl, rfl, rfl, by simp, fun i hi hne => by
        simp only [Array.getElem?_setIfInBounds]
        rw [if_neg (fun e => hne (by rw [e]))]⟩
theorem MapB.on {w w' : World} {b n : Nat} {ks : List Bn} (h : MapB w b ks) (hb : Below n w w') (hn : w.heap.size ≤ n) : MapB w' b ks := by
  obtain ⟨es, h1, h2⟩ := h
  exact ⟨es, (hb.block b (by have := (Array.getElem?_eq_some_iff.1 h1).1; omega)).trans h1, h2⟩
theorem MapB.lt {w : World} {b : Nat} {ks : List Bn} (h : MapB w b ks) : b < w.heap.size := by
  obtain ⟨es, h1, -⟩ := h; exact (Array.getElem?_eq_some_iff.1 h1).1
/-- An element of a list of broken invariants in memory. -/
theorem bn_at {w : World} {b o c : Nat} {l : List Bn} (h : Rv 3 bnF w (some ⟨b, o, none⟩) c l) {j : Nat} {x : Bn} (hj : l[j]? = some x) : w.cell? ⟨b, o + j * 3, none⟩ = some (.int .u8 (x.kind : Int)) ∧ w.cell? ⟨b, o + j * 3 + 1, none⟩ = some (.int .i64 x.a) ∧ w.cell? ⟨b, o + j * 3 + 2, none⟩ = some (.int .i64 x.b) := by
  obtain ⟨b', o', e, -, h0⟩ := h.at_ hj
  injection e with e
  injection e with e1 e2
  subst e1 e2
  exact ⟨h0 0 (by omega), h0 1 (by omega), h0 2 (by omega)⟩
end Go.Proofs.YtbbadnlaelgmlaaGreat

namespace Go.Proofs.YtbbadnlaelgmlaaGreat
open Go.RowKit
set_option maxRecDepth 100000
set_option linter.unusedVariables false
set_option linter.unusedSimpArgs false

theorem row_store3 {W : World} {b : Nat} {y0 y1 y2 : Value} {T : TypeId} (h : W.heap[b]? = some (.cells #[y0, y1, y2] T (0, 0))) (x0 x1 x2 : Value) :
    (((W.setCell ⟨b, 0, none⟩ x0).setCell ⟨b, 1, none⟩ x1).setCell ⟨b, 2, none⟩ x2).heap[b]? = some (.cells #[x0, x1, x2] T (0, 0)) := set_field (set_field (set_field h x0) x1) x2
theorem retKept {fn : Func} {a : Act} {W : World} {R : Ending → World → Prop} {b i j : Nat} {x0 x1 x2 y : Value} (hfn : fn.results = #[.cell i 44, .tmp j]) (hp : a.tmps[i]?.getD undef = .pointer (some ⟨b, 0, none⟩)) (hj : a.tmps[j]?.getD undef = y) (hd : a.defers = [])
    (h : W.heap[b]? = some (.cells #[x0, x1, x2] 44 (0, 0))) (hR : R (.returned (.tuple #[.agg #[x0, x1, x2], y])) W) : bodyPost Tryz.prog fn R .ret a W := by
  have c0 : W.cell? ⟨b, 0, none⟩ = some x0 := cell_of h rfl
  have c1 : W.cell? ⟨b, 1, none⟩ = some x1 := cell_of h rfl
  have c2 : W.cell? ⟨b, 2, none⟩ = some x2 := cell_of h rfl
  exact bodyPost_ret (v := .tuple #[.agg #[x0, x1, x2], y]) (by simp [results, hfn, hp, hj, go_sem, c0, c1, c2]) hd hR
theorem ends3 {B b : Nat} {w X : World} (h : Below B w X) (hb : B ≤ b) (x0 x1 x2 : Value) : Below B w (((X.setCell ⟨b, 0, none⟩ x0).setCell ⟨b, 1, none⟩ x1).setCell ⟨b, 2, none⟩ x2) := ((h.setCell (p := ⟨b, 0, none⟩) hb _).setCell (p := ⟨b, 1, none⟩) hb _).setCell (p := ⟨b, 2, none⟩) hb _
theorem keptX_at {l m : List Bn} {k : Nat} {x : Bn} (h0 : ∀ y ∈ m.take k, y ∈ l) (hx : m[k]? = some x) (hn : x ∉ l) : keptX l m = x ∧ keptB l m = false := by
  have e : keptO l m = some x := find_at (fun y hy => by unfold newB; simp [h0 y hy]) hx (newB_iff.2 hn)
  exact ⟨by unfold keptX; rw [e]; rfl, by unfold keptB; rw [e]; rfl⟩
theorem mem_take_succ {l : List Bn} {k : Nat} {x y : Bn} (hx : l[k]? = some x) : y ∈ l.take (k + 1) ↔ y ∈ l.take k ∨ y = x := by
  rw [List.take_add_one, hx]
  simp
def KeptPost (l m : List Bn) (w : World) (e : Ending) (w' : World) : Prop := e = .returned (.tuple #[.agg #[.int .u8 ((keptX l m).kind : Int), .int .i64 (keptX l m).a, .int .i64 (keptX l m).b], .bool (keptB l m)]) ∧ Below w.heap.size w w'
set_option maxHeartbeats 16000000 in
theorem c_ivKept (A : Option Addr) (c : Nat) (l : List Bn) (A2 : Option Addr) (c2 : Nat) (m : List Bn) (w : World) (h1 : Rv 3 bnF w A c l) (h2 : Rv 3 bnF w A2 c2 m) :
    Calls Tryz.prog 17 #[.slice A l.length c, .slice A2 m.length c2] w (KeptPost l m w) := by
  have hmm := @run_makeMap Tryz.prog
  obtain ⟨W1, e1⟩ : ∃ W, W = w.alloc (.cells #[.int .u8 0, .int .i64 0, .int .i64 0] 44) := ⟨_, rfl⟩
  have B1 : Below w.heap.size w W1 := by rw [e1]; exact (Below.refl _ _).alloc (Nat.le_refl _) _
  have z1 : W1.heap.size = w.heap.size + 1 := by rw [e1, World.size_alloc]
  obtain ⟨W, e2⟩ : ∃ W, W = W1.alloc (.map #[] 0) := ⟨_, rfl⟩
  have B2 : Below w.heap.size w W := by rw [e2]; exact B1.alloc B1.size _
  have HB := Lib.hid B2
  have HX := Lib.hid (show W.heap[w.heap.size]? = some (.cells #[.int .u8 0, .int .i64 0, .int .i64 0] 44 (0, 0)) by rw [e2, e1]; exact old_heap _ (box_new _ _ _))
  have HM := Lib.hid (show MapB W (w.heap.size + 1) [] from ⟨#[], by rw [e2, ← z1]; exact heap_alloc_new _ _, rfl⟩)
  have H1 := Lib.hid (fun (X : World) (hX : Below w.heap.size w X) => h1.on hX (Nat.le_refl _))
  have H2 := Lib.hid (fun (X : World) (hX : Below w.heap.size w X) => h2.on hX (Nat.le_refl _))
  have hc1 := h1.1; have hc2 := h1.2.1; have hc3 := h2.1; have hc4 := h2.2.1
  unfold maxLen at hc2 hc4
  obtain ⟨B, hBB⟩ : ∃ B, w.heap.size = B := ⟨_, rfl⟩
  have hz0 : B + 2 = W.heap.size := by rw [e2, World.size_alloc, z1, hBB]
  have HZ0 := Lib.hid hz0
  have hBk := Lib.hid hBB
  rw [hBB] at HB HX HM H1 H2
  have hW : (w.alloc (.cells #[.int .u8 0, .int .i64 0, .int .i64 0] 44)).alloc (.map #[] 0) = W := by rw [e2, e1]
  have hsz : (w.alloc (.cells #[.int .u8 0, .int .i64 0, .int .i64 0] 44)).heap.size = B + 1 := by rw [World.size_alloc, hBB]
  clear h1 h2 B1 B2 e1 e2 z1 hz0
  go_enter Tryz.func17, Tryz.ntmps17
  go_wp2_with (fail)
  clear hmm hW hsz
  go_loopw [14] (fun i wr => ∃ k : Nat, k ≤ l.length ∧ i = .int .i64 (k : Int) ∧ Hid (Below B w wr) ∧ Hid (wr.heap[B]? = some (.cells #[.int .u8 0, .int .i64 0, .int .i64 0] 44 (0, 0))) ∧ Hid (∃ ks, MapB wr (B + 1) ks ∧ ∀ y, y ∈ ks ↔ y ∈ l.take k) ∧ B + 2 ≤ wr.heap.size) (fun i _ => l.length - (intOf i).toNat)
  case atStart => exact ⟨0, Nat.zero_le _, rfl, HB, HX, Lib.hid ⟨[], HM.out, by simp⟩, by have := HZ0.out; omega⟩
  case round =>
    obtain ⟨k, hk, rfl, hBr, hXr, hMr, hsr⟩ := hrel
    have hki : ((k : Nat) : Int).toNat = k := by omega
    by_cases hlt : k < l.length
    · obtain ⟨x, hx⟩ : ∃ x, l[k]? = some x := ⟨_, List.getElem?_eq_getElem hlt⟩
      have hki2 : (k : Int) < (l.length : Int) := by omega
      obtain ⟨pb, po, ea, -, -⟩ := (H1.out wr hBr.out).at_ hx
      have hr := H1.out wr hBr.out
      rw [ea] at hr
      obtain ⟨y0, y1, y2⟩ := bn_at hr hx
      rw [ea]
      obtain ⟨ks, hm, hks⟩ := hMr.out
      obtain ⟨V, hV⟩ : ∃ X, X = wr.alloc (.cells #[.int .u8 (x.kind : Int), .int .i64 x.a, .int .i64 x.b] 44) := ⟨_, rfl⟩
      have bV : Below wr.heap.size wr V := by rw [hV]; exact (Below.refl _ _).alloc (Nat.le_refl _) _
      have z0 : V.cell? ⟨wr.heap.size, 0, none⟩ = some (.int .u8 (x.kind : Int)) := by rw [hV]; exact cell_of (box_new _ _ _) rfl
      have z1 : V.cell? ⟨wr.heap.size, 1, none⟩ = some (.int .i64 x.a) := by rw [hV]; exact cell_of (box_new _ _ _) rfl
      have z2 : V.cell? ⟨wr.heap.size, 2, none⟩ = some (.int .i64 x.b) := by rw [hV]; exact cell_of (box_new _ _ _) rfl
      obtain ⟨Z, ks', hrun, hm', hks', hgr⟩ := run_putB (t := 72) Tryz.underlying72 (hm.on bV (Nat.le_refl _)) x
      have HBZ := Lib.hid ((hBr.out.trans (bV.mono (by omega))).grown hgr (by have := bV.size; omega) (fun q hq => by injection hq with hq; omega))
      have HXZ := Lib.hid (show Z.heap[B]? = _ from (hgr.block B (by have := bV.size; omega) (by intro e; injection e with e; omega)).trans (box_on hXr.out bV (Nat.le_refl _)))
      have HMZ := Lib.hid (show ∃ ks, MapB Z (B + 1) ks ∧ ∀ y, y ∈ ks ↔ y ∈ l.take (k + 1) from ⟨ks', hm', fun y => by rw [hks', hks, mem_take_succ hx]⟩)
      have hsZ : B + 2 ≤ Z.heap.size := by have := hgr.size; have := bV.size; omega
      unfold bnA at hrun
      clear hx hr hm hks hm' hks' hgr bV
      rw [hV] at z0 z1 z2 hrun
      go_wp2_with (fail)
      clear y0 y1 y2 z0 z1 z2 hrun hV
      go_roundw
      case rel => exact ⟨k + 1, by omega, by go_num, HBZ, HXZ, HMZ, hsZ⟩
      case measure => simp only [intOf]; omega
    · obtain rfl : k = l.length := by omega
      have hMr2 := hMr.out
      rw [List.take_length] at hMr2
      have HMr := Lib.hid hMr2
      obtain ⟨W2, hW2⟩ : ∃ W2, wr = W2 := ⟨_, rfl⟩
      rw [hW2] at hBr hXr HMr hsr
      rw [hW2]
      clear hW2 hMr hMr2
      have HKW := Lib.hid (Below.refl W2.heap.size W2)
      go_wp2_with (fail)
      go_loopw [23] (fun i wr => ∃ k : Nat, k ≤ m.length ∧ i = .int .i64 (k : Int) ∧ Hid (Below W2.heap.size W2 wr) ∧ Hid (∀ y ∈ m.take k, y ∈ l)) (fun i _ => m.length - (intOf i).toNat)
      case atStart => exact ⟨0, Nat.zero_le _, rfl, HKW, Lib.hid (by simp)⟩
      case round =>
        obtain ⟨k, hk, rfl, hBk2, hun⟩ := hrel
        have hki : ((k : Nat) : Int).toNat = k := by omega
        have HBX := Lib.hid (below_join hBr.out (hBk2.out.mono (Nat.le_refl _)) (by omega))
        by_cases hlt : k < m.length
        · obtain ⟨x, hx⟩ : ∃ x, m[k]? = some x := ⟨_, List.getElem?_eq_getElem hlt⟩
          have hki2 : (k : Int) < (m.length : Int) := by omega
          obtain ⟨pb, po, ea, -, -⟩ := (H2.out wr HBX.out).at_ hx
          have hr := H2.out wr HBX.out
          rw [ea] at hr
          obtain ⟨y0, y1, y2⟩ := bn_at hr hx
          rw [ea]
          obtain ⟨ks, hm, hks⟩ := HMr.out
          obtain ⟨V, hV⟩ : ∃ X, X = wr.alloc (.cells #[.int .u8 (x.kind : Int), .int .i64 x.a, .int .i64 x.b] 44) := ⟨_, rfl⟩
          have bV : Below wr.heap.size wr V := by rw [hV]; exact (Below.refl _ _).alloc (Nat.le_refl _) _
          have HKV := Lib.hid (below_join hBk2.out bV hBk2.out.size)
          have z0 : V.cell? ⟨wr.heap.size, 0, none⟩ = some (.int .u8 (x.kind : Int)) := by rw [hV]; exact cell_of (box_new _ _ _) rfl
          have z1 : V.cell? ⟨wr.heap.size, 1, none⟩ = some (.int .i64 x.a) := by rw [hV]; exact cell_of (box_new _ _ _) rfl
          have z2 : V.cell? ⟨wr.heap.size, 2, none⟩ = some (.int .i64 x.b) := by rw [hV]; exact cell_of (box_new _ _ _) rfl
          have hrun := run_lookB (t := 72) Tryz.underlying72 (hm.on HKV.out (Nat.le_refl _)) x
          rw [show decide (x ∈ ks) = decide (x ∈ l) from decide_eq_decide.2 (hks x)] at hrun
          have HXX := Lib.hid hx
          have hXV := box_on hXr.out HKV.out (Nat.le_refl _)
          have HXV := Lib.hid hXV
          have hv0 : V.cell? ⟨B, 0, none⟩ = some (.int .u8 0) := cell_of hXV rfl
          have hv1 : V.cell? ⟨B, 1, none⟩ = some (.int .i64 0) := cell_of hXV rfl
          have hv2 : V.cell? ⟨B, 2, none⟩ = some (.int .i64 0) := cell_of hXV rfl
          have hf0 := frz0 hXV 0
          have hf1 := frz0 hXV 1
          have hf2 := frz0 hXV 2
          have HBV := Lib.hid (below_join HBX.out bV (by have := hBk2.out.size; omega))
          unfold bnA at hrun
          clear hx hr hm hks bV hXV
          rcases hd : decide (x ∈ l) with _ | _
          · have hn := of_decide_eq_false hd
            rw [hd] at hrun
            have HRR := Lib.hid (keptX_at hun.out HXX.out hn)
            rw [hV] at z0 z1 z2 hrun hv0 hv1 hv2 hf0 hf1 hf2
            go_wp2_with (fail)
            rw [← hV]
            clear y0 y1 y2 z0 z1 z2 hrun hv0 hv1 hv2 hf0 hf1 hf2 hV
            refine retKept (i := 4) (b := B) (j := 5) rfl rfl rfl rfl (row_store3 HXV.out _ _ _) ?_
            exact ⟨by rw [HRR.out.1, HRR.out.2]; rfl, by rw [hBk.out]; exact ends3 HBV.out (Nat.le_refl _) _ _ _⟩
          · have hn := of_decide_eq_true hd
            rw [hd] at hrun
            have HUN := Lib.hid (show ∀ y ∈ m.take (k + 1), y ∈ l from fun y hy => by
              rcases (mem_take_succ HXX.out).1 hy with h | h
              · exact hun.out y h
              · exact h ▸ hn)
            rw [hV] at z0 z1 z2 hrun hv0 hv1 hv2 hf0 hf1 hf2
            go_wp2_with (fail)
            rw [← hV]
            clear y0 y1 y2 z0 z1 z2 hrun hv0 hv1 hv2 hf0 hf1 hf2 hV
            go_roundw
            case rel => exact ⟨k + 1, by omega, by go_num, HKV, HUN⟩
            case measure => simp only [intOf]; omega
        · obtain rfl : k = m.length := by omega
          have hk2 : keptB l m = true := keptB_iff.2 (by have := hun.out; rwa [List.take_length] at this)
          have HKB := Lib.hid hk2
          have hXV := box_on hXr.out hBk2.out (Nat.le_refl _)
          have HXV := Lib.hid hXV
          have hv0 : wr.cell? ⟨B, 0, none⟩ = some (.int .u8 0) := cell_of hXV rfl
          have hv1 : wr.cell? ⟨B, 1, none⟩ = some (.int .i64 0) := cell_of hXV rfl
          have hv2 : wr.cell? ⟨B, 2, none⟩ = some (.int .i64 0) := cell_of hXV rfl
          have hf0 := frz0 hXV 0
          have hf1 := frz0 hXV 1
          have hf2 := frz0 hXV 2
          clear hXV hk2
          go_wp2_with (fail)
          clear hv0 hv1 hv2 hf0 hf1 hf2
          refine retKept (i := 4) (b := B) (j := 5) rfl rfl rfl rfl (row_store3 HXV.out _ _ _) ?_
          exact ⟨by rw [keptX_none HKB.out, HKB.out]; rfl, by rw [hBk.out]; exact ends3 HBX.out (Nat.le_refl _) _ _ _⟩
end Go.Proofs.YtbbadnlaelgmlaaGreat

namespace Go.Proofs.YtbbadnlaelgmlaaGreat
open Go.RowKit
set_option maxRecDepth 100000
set_option linter.unusedVariables false
set_option linter.unusedSimpArgs false

set_option maxHeartbeats 8000000 in
theorem c_irSame (A : Option Addr) (c : Nat) (l : List Bn) (A2 : Option Addr) (c2 : Nat) (m : List Bn) (r : Bool) (hr : decide (l = m) = r) (w : World) (h1 : Rv 3 bnF w A c l) (h2 : Rv 3 bnF w A2 c2 m) :
    Calls Tryz.prog 12 #[.slice A l.length c, .slice A2 m.length c2] w fun e w' => e = .returned (.bool r) ∧ Below w.heap.size w w' := by
  have heq := neqBn
  have hgd := guardBn
  have H1 := Lib.hid (fun (X : World) (hX : Below w.heap.size w X) => h1.on hX (Nat.le_refl _))
  have H2 := Lib.hid (fun (X : World) (hX : Below w.heap.size w X) => h2.on hX (Nat.le_refl _))
  have HKw := Lib.hid (Below.refl w.heap.size w)
  have hc1 := h1.1; have hc2 := h1.2.1; have hc3 := h2.1; have hc4 := h2.2.1
  unfold maxLen at hc2 hc4
  have HRR := Lib.hid hr
  clear h1 h2 hr
  go_enter Tryz.func12, Tryz.ntmps12
  by_cases hll : l.length = m.length
  · have hl0 : ((l.length : Int) != (m.length : Int)) = false := by rw [hll]; simp
    have HLL := Lib.hid hll
    clear hll
    go_wp2_with (fail)
    go_loopw [5] (fun i wr => ∃ k : Nat, k ≤ l.length ∧ i = .int .i64 (k : Int) ∧ Hid (Below w.heap.size w wr) ∧ Hid (l.take k = m.take k)) (fun i _ => l.length - (intOf i).toNat)
    case atStart => exact ⟨0, Nat.zero_le _, rfl, HKw, Lib.hid rfl⟩
    case round =>
      obtain ⟨k, hk, rfl, HKwr, hun⟩ := hrel
      have hki : ((k : Nat) : Int).toNat = k := by omega
      by_cases hlt : k < l.length
      · obtain ⟨x, hx⟩ : ∃ x, l[k]? = some x := ⟨_, List.getElem?_eq_getElem hlt⟩
        obtain ⟨y, hy⟩ : ∃ y, m[k]? = some y := ⟨_, List.getElem?_eq_getElem (by have := HLL.out; omega)⟩
        have hki2 : (k : Int) < (l.length : Int) := by omega
        have hki3 : (k : Int) < (m.length : Int) := by have := HLL.out; omega
        obtain ⟨pb, po, pe, -, -⟩ := (H1.out wr HKwr.out).at_ hx
        have pr := H1.out wr HKwr.out
        rw [pe] at pr
        obtain ⟨y0, y1, y2⟩ := bn_at pr hx
        obtain ⟨qb, qo, qe, -, -⟩ := (H2.out wr HKwr.out).at_ hy
        have qr := H2.out wr HKwr.out
        rw [qe] at qr
        obtain ⟨u0, u1, u2⟩ := bn_at qr hy
        have HS := Lib.hid (fun (X : World) (hX : Below wr.heap.size wr X) => (by
          have hk2 := below_join HKwr.out hX HKwr.out.size
          have r1 := H1.out X hk2
          rw [pe] at r1
          have r2 := H2.out X hk2
          rw [qe] at r2
          obtain ⟨q0, q1, q2⟩ := bn_at r1 hx
          exact ⟨q0, q1, q2, bn_at r2 hy⟩ : X.cell? ⟨pb, po + k * 3, none⟩ = some (.int .u8 (x.kind : Int)) ∧ X.cell? ⟨pb, po + k * 3 + 1, none⟩ = some (.int .i64 x.a) ∧ X.cell? ⟨pb, po + k * 3 + 2, none⟩ = some (.int .i64 x.b) ∧ X.cell? ⟨qb, qo + k * 3, none⟩ = some (.int .u8 (y.kind : Int)) ∧ X.cell? ⟨qb, qo + k * 3 + 1, none⟩ = some (.int .i64 y.a) ∧ X.cell? ⟨qb, qo + k * 3 + 2, none⟩ = some (.int .i64 y.b)))
        have HXX := Lib.hid hx
        have HYY := Lib.hid hy
        have HKbwr := Lib.hid (Below.refl wr.heap.size wr)
        obtain ⟨b, hb⟩ : ∃ b, decide (x = y) = b := ⟨_, rfl⟩
        have hbq : (((x.kind : Int) == (y.kind : Int)) && ((x.a == y.a) && (x.b == y.b))) = b := by rw [bn_beq]; exact hb
        have HBQ := Lib.hid hb
        have heq2 : ∀ W2 : World, (binOp .neq 44 (.agg #[.int .u8 (x.kind : Int), .int .i64 x.a, .int .i64 x.b]) (.agg #[.int .u8 (y.kind : Int), .int .i64 y.a, .int .i64 y.b])).run Tryz.prog W2 = .ok (.bool (!b)) W2 := fun W2 => by rw [heq, hbq]
        rw [pe, qe]
        clear hx hy pr qr hb hbq heq
        rcases b with _ | _
        · have HT := Lib.hid (show false = r by
            rw [← HRR.out]; symm
            refine decide_eq_false fun hm => ?_
            subst hm
            have e := HXX.out
            rw [HYY.out] at e
            injection e with e
            exact of_decide_eq_false HBQ.out e.symm)
          simp only [Bool.not_false] at heq2
          go_wp2_with (fail)
          clear y0 y1 y2 u0 u1 u2
          go_region_held3 (fun X => X.cell? ⟨pb, po + k * 3, none⟩ = some (.int .u8 (x.kind : Int)) ∧ X.cell? ⟨pb, po + k * 3 + 1, none⟩ = some (.int .i64 x.a) ∧ X.cell? ⟨pb, po + k * 3 + 2, none⟩ = some (.int .i64 x.b) ∧ X.cell? ⟨qb, qo + k * 3, none⟩ = some (.int .u8 (y.kind : Int)) ∧ X.cell? ⟨qb, qo + k * 3 + 1, none⟩ = some (.int .i64 y.a) ∧ X.cell? ⟨qb, qo + k * 3 + 2, none⟩ = some (.int .i64 y.b))
            (first | exact HS.out wr HKbwr.out | fail)
            (first
              | fail)
          go_wp2_with (fail)
          go_ret
          exact ⟨by rw [HT.out]; rfl, HKwr.out.drew⟩
        · have HUN := Lib.hid (show l.take (k + 1) = m.take (k + 1) by
            rw [List.take_add_one, List.take_add_one, hun.out, HXX.out, HYY.out, of_decide_eq_true HBQ.out])
          simp only [Bool.not_true] at heq2
          go_wp2_with (fail)
          clear y0 y1 y2 u0 u1 u2
          go_region_held3 (fun X => X.cell? ⟨pb, po + k * 3, none⟩ = some (.int .u8 (x.kind : Int)) ∧ X.cell? ⟨pb, po + k * 3 + 1, none⟩ = some (.int .i64 x.a) ∧ X.cell? ⟨pb, po + k * 3 + 2, none⟩ = some (.int .i64 x.b) ∧ X.cell? ⟨qb, qo + k * 3, none⟩ = some (.int .u8 (y.kind : Int)) ∧ X.cell? ⟨qb, qo + k * 3 + 1, none⟩ = some (.int .i64 y.a) ∧ X.cell? ⟨qb, qo + k * 3 + 2, none⟩ = some (.int .i64 y.b))
            (first | exact HS.out wr HKbwr.out | fail)
            (first
              | fail)
          go_wp2_with (fail)
          go_roundw
          case rel => exact ⟨k + 1, by omega, by go_num, Lib.hid HKwr.out.drew, HUN⟩
          case measure => simp only [intOf]; omega
      · obtain rfl : k = l.length := by omega
        have HT := Lib.hid (show true = r by
          rw [← HRR.out]; symm
          refine decide_eq_true ?_
          have := hun.out
          rw [List.take_length, HLL.out, List.take_length] at this
          exact this)
        go_wp2_with (fail)
        go_ret
        exact ⟨by rw [HT.out]; rfl, HKwr.out⟩
  · have hl0 : ((l.length : Int) != (m.length : Int)) = true := by rw [bne_iff_ne]; omega
    have HT := Lib.hid (show false = r by
      rw [← HRR.out]; symm
      exact decide_eq_false fun e => hll (by rw [e]))
    clear hll
    go_wp2_with (fail)
    go_ret
    exact ⟨by rw [HT.out]; rfl, HKw.out⟩
/-- A list that a function has made itself, while it is made. -/
structure Ow (B : Nat) (v : Value) (l : List Bn) (X : World) : Prop where
  row : X.ownsRow B 44 3 v l.length (cellsV 3 bnF l)
  le : B ≤ X.heap.size
theorem Ow.on {B C : Nat} {v : Value} {l : List Bn} {X Y : World} (h : Ow B v l X) (hb : Below C X Y) (hC : X.heap.size ≤ C) : Ow B v l Y := ⟨own_on h.row hb hC, Nat.le_trans h.le hb.size⟩
/-- What an append to it leaves: all but its own block. -/
def AddFr (v v' : Value) (X Y : World) : Prop := (∀ (k : Nat) (o : Obj), v.ownBlock ≠ some k → X.heap[k]? = some o → Y.heap[k]? = some o) ∧ (v'.ownBlock = v.ownBlock ∨ ∃ b, v'.ownBlock = some b ∧ X.heap.size ≤ b)
/-- A block that is not the list's. -/
def Lv (v : Value) (X : World) (m : Nat) (o : Obj) : Prop := X.heap[m]? = some o ∧ v.ownBlock ≠ some m
theorem Lv.on {v : Value} {X Y : World} {m C : Nat} {o : Obj} (h : Lv v X m o) (hb : Below C X Y) (hC : X.heap.size ≤ C) : Lv v Y m o := ⟨box_on h.1 hb hC, h.2⟩
theorem Lv.add {v v' : Value} {X Y : World} {m : Nat} {o : Obj} (h : Lv v X m o) (k : AddFr v v' X Y) : Lv v' Y m o := by
  refine ⟨k.1 m o h.2 h.1, fun e => ?_⟩
  rcases k.2 with h4 | ⟨b, h4, h5⟩
  · exact h.2 (h4 ▸ e)
  · rw [h4] at e
    injection e with e
    have := at_lt h.1
    omega
theorem Ow.new {B : Nat} {v : Value} {l : List Bn} {X Y : World} {m : Nat} {o : Obj} (h : Ow B v l X) (hm : X.heap.size ≤ m) (ho : Y.heap[m]? = some o) : Lv v Y m o :=
  ⟨ho, fun e => by have := (ownsRow_lt h.row e).2; omega⟩
end Go.Proofs.YtbbadnlaelgmlaaGreat

namespace Go.Proofs.YtbbadnlaelgmlaaGreat
open Go.RowKit
set_option maxRecDepth 100000
set_option linter.unusedVariables false
set_option linter.unusedSimpArgs false

/-- A row of numbers that is not in the list's block. -/
structure Rwk (v : Value) (A : Option Addr) (c : Nat) (l : List Int) (X : World) : Prop where
  row : X.ownsRow 0 3 1 (.slice A l.length c) l.length (ints l)
  off : ∀ g, (Value.slice A l.length c).ownBlock = some g → v.ownBlock ≠ some g
theorem Rwk.on {v : Value} {A : Option Addr} {c C : Nat} {l : List Int} {X Y : World} (h : Rwk v A c l X) (hb : Below C X Y) (hC : X.heap.size ≤ C) : Rwk v A c l Y := ⟨own_on h.row hb hC, h.off⟩
theorem Rwk.add {v v' : Value} {A : Option Addr} {c : Nat} {l : List Int} {X Y : World} (h : Rwk v A c l X) (k : AddFr v v' X Y) : Rwk v' A c l Y := by
  refine ⟨?_, fun g hg e => ?_⟩
  · obtain ⟨k1, h0 | ⟨g', cap, cur, e1, k3, k4, k5⟩⟩ := h.row
    · exact ⟨k1, .inl h0⟩
    · exact ⟨k1, .inr ⟨g', cap, cur, e1, k3, k.1 g' _ (h.off g' (by rw [e1]; rfl)) k4, k5⟩⟩
  · have hlt := (ownsRow_lt h.row hg).2
    rcases k.2 with h4 | ⟨b, h4, h5⟩
    · exact h.off g hg (h4 ▸ e)
    · rw [h4] at e
      injection e with e
      omega
end Go.Proofs.YtbbadnlaelgmlaaGreat

namespace Go.Proofs.YtbbadnlaelgmlaaGreat
open Go.RowKit
set_option maxRecDepth 100000
set_option linter.unusedVariables false
set_option linter.unusedSimpArgs false

theorem len0_iff (L : List Bn) : (((L.length : Nat) : Int) == 0) = decide (L = []) := by
  cases L with
  | nil => rfl
  | cons x l => rw [decide_eq_false (by simp), beq_eq_false_iff_ne]; simp only [List.length_cons]; omega
def holdV (z : Sn) (L : List Bn) (r : Bool) : Bool := r && decide (L = [])
set_option maxHeartbeats 16000000 in
theorem c_ivHolds (z : Sn) (r : Bool) (hr : r = true ↔ z.Ok) (L : List Bn) (hL : bnV z.s z.ss z.d r = L) (b : Bool) (hb : holdV z L r = b) (w : World) (hz : SnAt w z) :
    Calls Tryz.prog 15 #[.agg #[.slice z.p.a1 z.s.feeds.length z.p.c1, .slice z.p.a2 z.s.brks.length z.p.c2, .slice z.p.a3 z.s.loops.length z.p.c3, .slice z.p.a4 z.s.racks.length z.p.c4, .int .i64 z.s.sw, .slice z.p.a5 z.s.links.length z.p.c5, .slice z.p.a6 z.s.hosts.length z.p.c6], .agg #[.slice z.A z.xs.length z.c], .agg #[.slice z.q.a1 z.d.hosts.length z.q.c1, .slice z.q.a2 z.d.reps.length z.q.c2]] w fun e w' => e = .returned (.bool b) ∧ Below w.heap.size w w' := by
  obtain ⟨W1, h1⟩ : ∃ W, W = w.alloc (.cells #[.slice z.p.a1 z.s.feeds.length z.p.c1, .slice z.p.a2 z.s.brks.length z.p.c2, .slice z.p.a3 z.s.loops.length z.p.c3, .slice z.p.a4 z.s.racks.length z.p.c4, .int .i64 z.s.sw, .slice z.p.a5 z.s.links.length z.p.c5, .slice z.p.a6 z.s.hosts.length z.p.c6] 29) := ⟨_, rfl⟩
  obtain ⟨W2, h2⟩ : ∃ W, W = W1.alloc (.cells #[.slice z.A z.xs.length z.c] 32) := ⟨_, rfl⟩
  obtain ⟨W, h3⟩ : ∃ W, W = W2.alloc (.cells #[.slice z.q.a1 z.d.hosts.length z.q.c1, .slice z.q.a2 z.d.reps.length z.q.c2] 36) := ⟨_, rfl⟩
  obtain ⟨B0, X1⟩ := sn_boxes h1 h2 h3
  have z3 : W.heap.size = w.heap.size + 1 + 1 + 1 := sn_size h1 h2 h3
  have HB := Lib.hid B0
  have Z0 := hz.on B0 (Nat.le_refl _)
  have HZ := Lib.hid (fun (X : World) (hX : Below W.heap.size W X) => Z0.on hX (Nat.le_refl _))
  have HF := Lib.hid (fun (X : World) (hX : Below W.heap.size W X) => ((X1.on hX (Nat.le_refl _)).cells : X.cell? ⟨w.heap.size, 0, none⟩ = some (.slice z.p.a1 z.s.feeds.length z.p.c1) ∧ X.cell? ⟨w.heap.size, 1, none⟩ = some (.slice z.p.a2 z.s.brks.length z.p.c2) ∧ X.cell? ⟨w.heap.size, 2, none⟩ = some (.slice z.p.a3 z.s.loops.length z.p.c3) ∧ X.cell? ⟨w.heap.size, 3, none⟩ = some (.slice z.p.a4 z.s.racks.length z.p.c4) ∧ X.cell? ⟨w.heap.size, 4, none⟩ = some (.int .i64 z.s.sw) ∧ X.cell? ⟨w.heap.size, 5, none⟩ = some (.slice z.p.a5 z.s.links.length z.p.c5) ∧ X.cell? ⟨w.heap.size, 6, none⟩ = some (.slice z.p.a6 z.s.hosts.length z.p.c6) ∧ X.cell? ⟨w.heap.size + 1, 0, none⟩ = some (.slice z.A z.xs.length z.c) ∧ X.cell? ⟨w.heap.size + 1 + 1, 0, none⟩ = some (.slice z.q.a1 z.d.hosts.length z.q.c1) ∧ X.cell? ⟨w.heap.size + 1 + 1, 1, none⟩ = some (.slice z.q.a2 z.d.reps.length z.q.c2)))
  have HX := Lib.hid (fun (X : World) (hX : Below W.heap.size W X) => X1.on hX (Nat.le_refl _))
  have HKW := Lib.hid (Below.refl W.heap.size W)
  have hle := HB.out.size
  obtain ⟨n1, n2, n3, n4, n5, n6, n7, n8⟩ := hz.bounds
  have HR := Lib.hid hr
  have HLL := Lib.hid hL
  have HBB := Lib.hid hb
  clear hr hL hb
  clear hz B0 X1 z3 Z0
  obtain ⟨f0, f1, f2, f3, f4, f5, f6, g0, g1, g2⟩ := HF.out W HKW.out
  rw [h3, h2, h1] at f0 f1 f2 f3 f4 f5 f6 g0 g1 g2
  generalize hBB : w.heap.size = B at *
  go_enter Tryz.func15, Tryz.ntmps15
  go_wp2_with (fail)
  rw [← h1, ← h2, ← h3]
  clear h1 h2 h3 f0 f1 f2 f3 f4 f5 f6 g0 g1 g2
  go_at_call 27
  refine (c_vTo z r HR.out W (HZ.out W HKW.out)).mono ?_
  rintro e v1 ⟨rfl, bb⟩
  have HKv1 := Lib.hid (below_join HKW.out bb HKW.out.size)
  clear bb
  obtain ⟨f0, f1, f2, f3, f4, f5, f6, g0, g1, g2⟩ := HF.out v1 HKv1.out
  cases r
  · have HE := Lib.hid (show false = b from HBB.out)
    go_wp2_with (fail)
    go_ret
    exact ⟨by rw [HE.out]; rfl, below_join HB.out HKv1.out hle⟩
  have HOK := Lib.hid (HR.out.1 (by trivial))
  have HE := Lib.hid (show (((L.length : Nat) : Int) == 0) = b by rw [len0_iff]; exact HBB.out)
  go_wp2_with (fail)
  clear f0 f1 f2 f3 f4 f5 f6 g0 g1 g2
  go_at_call 13
  refine (c_Broken z true ⟨fun _ => HOK.out, fun _ => rfl⟩ L HLL.out v1 (HZ.out v1 HKv1.out)).mono ?_
  rintro e v2 ⟨A, c, rfl, hrv, bb⟩
  have HKv2 := Lib.hid (below_join HKv1.out bb HKv1.out.size)
  have hcap := hrv.1; have hcap2 := hrv.2.1
  unfold maxLen at hcap2
  clear bb hrv
  go_wp2_with (fail)
  go_ret
  exact ⟨(show Ending.returned (.bool (((L.length : Nat) : Int) == 0)) = .returned (.bool b) by rw [HE.out]), below_join HB.out HKv2.out hle⟩
end Go.Proofs.YtbbadnlaelgmlaaGreat

namespace Go.Proofs.YtbbadnlaelgmlaaGreat
open Go.RowKit
set_option maxRecDepth 100000
set_option linter.unusedVariables false
set_option linter.unusedSimpArgs false

/-- The laws' site and wish. -/
def exD : SiteD := ⟨[1000], [⟨0, 500, 0, 0⟩], [⟨1000, 0⟩], [⟨0, 0, 0, 0⟩, ⟨2, 0, 0, 0⟩], 1, [], [⟨0, 4, 0, 0⟩, ⟨0, 4, 0, 0⟩, ⟨1, 4, 0, 0⟩]⟩
def exP (b : Nat) : SP := ⟨some ⟨b + 1, 0, none⟩, 1, some ⟨b + 1 + 1, 0, none⟩, 1, some ⟨b + 1 + 1 + 1, 0, none⟩, 1, some ⟨b + 1 + 1 + 1 + 1, 0, none⟩, 2, none, 0, some ⟨b + 1 + 1 + 1 + 1 + 1, 0, none⟩, 3⟩
def exS : List Svc := [⟨3, 2, 1, 2, 1, [], [], 0⟩, ⟨2, 1, 0, 0, 0, [0], [], 0⟩]
def wxs (b : Nat) : List (Svc × SvA) := [(⟨3, 2, 1, 2, 1, [], [], 0⟩, ⟨none, 0, none, 0⟩), (⟨2, 1, 0, 0, 0, [0], [], 0⟩, ⟨some ⟨b, 0, none⟩, 1, none, 0⟩)]
theorem rw_block14 {α : Type} {k : Nat} {F : α → Nat → Int} {l : List α} {w : World} {b : Nat} {T : TypeId} (h : w.heap[b]? = some (.cells (cellsV k (fun x i => .int .i64 (F x i)) l).toArray T (0, 0))) (hl : l.length ≤ maxLen) : Rw k F w (some ⟨b, 0, none⟩) l.length l := rv_int (rv_block h hl)
theorem ret7 {fn : Func} {a : Act} {W : World} {R : Ending → World → Prop} {b i : Nat} {x0 x1 x2 x3 x4 x5 x6 : Value} (hfn : fn.results = #[.cell i 29]) (hp : a.tmps[i]?.getD undef = .pointer (some ⟨b, 0, none⟩)) (hd : a.defers = [])
    (h : W.heap[b]? = some (.cells #[x0, x1, x2, x3, x4, x5, x6] 29 (0, 0))) (hR : R (.returned (.agg #[x0, x1, x2, x3, x4, x5, x6])) W) : bodyPost Tryz.prog fn R .ret a W := by
  have c0 : W.cell? ⟨b, 0, none⟩ = some x0 := cell_of h rfl; have c1 : W.cell? ⟨b, 1, none⟩ = some x1 := cell_of h rfl; have c2 : W.cell? ⟨b, 2, none⟩ = some x2 := cell_of h rfl; have c3 : W.cell? ⟨b, 3, none⟩ = some x3 := cell_of h rfl; have c4 : W.cell? ⟨b, 4, none⟩ = some x4 := cell_of h rfl; have c5 : W.cell? ⟨b, 5, none⟩ = some x5 := cell_of h rfl; have c6 : W.cell? ⟨b, 6, none⟩ = some x6 := cell_of h rfl
  exact bodyPost_ret (v := .agg #[x0, x1, x2, x3, x4, x5, x6]) (by simp [results, hfn, hp, go_sem, c0, c1, c2, c3, c4, c5, c6]) hd hR
theorem ret1w {fn : Func} {a : Act} {W : World} {R : Ending → World → Prop} {b i : Nat} {x0 : Value} (hfn : fn.results = #[.cell i 32]) (hp : a.tmps[i]?.getD undef = .pointer (some ⟨b, 0, none⟩)) (hd : a.defers = [])
    (h : W.heap[b]? = some (.cells #[x0] 32 (0, 0))) (hR : R (.returned (.agg #[x0])) W) : bodyPost Tryz.prog fn R .ret a W := by
  have c0 : W.cell? ⟨b, 0, none⟩ = some x0 := cell_of h rfl
  exact bodyPost_ret (v := .agg #[x0]) (by simp [results, hfn, hp, go_sem, c0]) hd hR
theorem ret2w {fn : Func} {a : Act} {W : World} {R : Ending → World → Prop} {b i : Nat} {x0 x1 : Value} (hfn : fn.results = #[.cell i 36]) (hp : a.tmps[i]?.getD undef = .pointer (some ⟨b, 0, none⟩)) (hd : a.defers = [])
    (h : W.heap[b]? = some (.cells #[x0, x1] 36 (0, 0))) (hR : R (.returned (.agg #[x0, x1])) W) : bodyPost Tryz.prog fn R .ret a W := by
  have c0 : W.cell? ⟨b, 0, none⟩ = some x0 := cell_of h rfl
  have c1 : W.cell? ⟨b, 1, none⟩ = some x1 := cell_of h rfl
  exact bodyPost_ret (v := .agg #[x0, x1]) (by simp [results, hfn, hp, go_sem, c0, c1]) hd hR
set_option maxHeartbeats 16000000 in
theorem c_site (w : World) : Calls Tryz.prog 25 #[] w fun e w' => e = .returned (siV (exP w.heap.size) exD) ∧ SiAt w' (exP w.heap.size) exD ∧ Below w.heap.size w w' := by
  obtain ⟨E0, h0⟩ : ∃ X, X = w.alloc (.cells #[.slice (some ⟨w.heap.size + 1, 0, none⟩) 1 1, .slice (some ⟨w.heap.size + 1 + 1, 0, none⟩) 1 1, .slice (some ⟨w.heap.size + 1 + 1 + 1, 0, none⟩) 1 1, .slice (some ⟨w.heap.size + 1 + 1 + 1 + 1, 0, none⟩) 2 2, .int .i64 1, .slice none 0 0, .slice (some ⟨w.heap.size + 1 + 1 + 1 + 1 + 1, 0, none⟩) 3 3] 29) := ⟨_, rfl⟩
  obtain ⟨E1, h1⟩ : ∃ X, X = E0.alloc (.cells #[.int .i64 1000] 81) := ⟨_, rfl⟩
  obtain ⟨E2, h2⟩ : ∃ X, X = E1.alloc (.cells #[.int .i64 0, .int .i64 500, .int .i64 0, .int .i64 0] 83) := ⟨_, rfl⟩
  obtain ⟨E3, h3⟩ : ∃ X, X = E2.alloc (.cells #[.int .i64 1000, .int .i64 0] 85) := ⟨_, rfl⟩
  obtain ⟨E4, h4⟩ : ∃ X, X = E3.alloc (.cells #[.int .i64 0, .int .i64 0, .int .i64 0, .int .i64 0, .int .i64 2, .int .i64 0, .int .i64 0, .int .i64 0] 87) := ⟨_, rfl⟩
  obtain ⟨E5, h5⟩ : ∃ X, X = E4.alloc (.cells #[.int .i64 0, .int .i64 4, .int .i64 0, .int .i64 0, .int .i64 0, .int .i64 4, .int .i64 0, .int .i64 0, .int .i64 1, .int .i64 4, .int .i64 0, .int .i64 0] 89) := ⟨_, rfl⟩
  have z0 : E0.heap.size = w.heap.size + 1 := by rw [h0, World.size_alloc]
  have z1 : E1.heap.size = w.heap.size + 1 + 1 := by rw [h1, World.size_alloc, z0]
  have z2 : E2.heap.size = w.heap.size + 1 + 1 + 1 := by rw [h2, World.size_alloc, z1]
  have z3 : E3.heap.size = w.heap.size + 1 + 1 + 1 + 1 := by rw [h3, World.size_alloc, z2]
  have z4 : E4.heap.size = w.heap.size + 1 + 1 + 1 + 1 + 1 := by rw [h4, World.size_alloc, z3]
  have z5 : E5.heap.size = w.heap.size + 1 + 1 + 1 + 1 + 1 + 1 := by rw [h5, World.size_alloc, z4]
  have g0 : E0.heap[w.heap.size]? = some (.cells #[.slice (some ⟨w.heap.size + 1, 0, none⟩) 1 1, .slice (some ⟨w.heap.size + 1 + 1, 0, none⟩) 1 1, .slice (some ⟨w.heap.size + 1 + 1 + 1, 0, none⟩) 1 1, .slice (some ⟨w.heap.size + 1 + 1 + 1 + 1, 0, none⟩) 2 2, .int .i64 1, .slice none 0 0, .slice (some ⟨w.heap.size + 1 + 1 + 1 + 1 + 1, 0, none⟩) 3 3] 29 (0, 0)) := by rw [h0]; exact heap_alloc_new _ _
  have G0 : E5.heap[w.heap.size]? = some (.cells #[.slice (some ⟨w.heap.size + 1, 0, none⟩) 1 1, .slice (some ⟨w.heap.size + 1 + 1, 0, none⟩) 1 1, .slice (some ⟨w.heap.size + 1 + 1 + 1, 0, none⟩) 1 1, .slice (some ⟨w.heap.size + 1 + 1 + 1 + 1, 0, none⟩) 2 2, .int .i64 1, .slice none 0 0, .slice (some ⟨w.heap.size + 1 + 1 + 1 + 1 + 1, 0, none⟩) 3 3] 29 (0, 0)) := by rw [h5]; refine old_heap _ ?_; rw [h4]; refine old_heap _ ?_; rw [h3]; refine old_heap _ ?_; rw [h2]; refine old_heap _ ?_; rw [h1]; refine old_heap _ ?_; exact g0
  have g1 : E1.heap[w.heap.size + 1]? = some (.cells #[.int .i64 1000] 81 (0, 0)) := by rw [← z0]; rw [h1]; exact heap_alloc_new _ _
  have G1 : E5.heap[w.heap.size + 1]? = some (.cells #[.int .i64 1000] 81 (0, 0)) := by rw [h5]; refine old_heap _ ?_; rw [h4]; refine old_heap _ ?_; rw [h3]; refine old_heap _ ?_; rw [h2]; refine old_heap _ ?_; exact g1
  have g2 : E2.heap[w.heap.size + 1 + 1]? = some (.cells #[.int .i64 0, .int .i64 500, .int .i64 0, .int .i64 0] 83 (0, 0)) := by rw [← z1]; rw [h2]; exact heap_alloc_new _ _
  have G2 : E5.heap[w.heap.size + 1 + 1]? = some (.cells #[.int .i64 0, .int .i64 500, .int .i64 0, .int .i64 0] 83 (0, 0)) := by rw [h5]; refine old_heap _ ?_; rw [h4]; refine old_heap _ ?_; rw [h3]; refine old_heap _ ?_; exact g2
  have g3 : E3.heap[w.heap.size + 1 + 1 + 1]? = some (.cells #[.int .i64 1000, .int .i64 0] 85 (0, 0)) := by rw [← z2]; rw [h3]; exact heap_alloc_new _ _
  have G3 : E5.heap[w.heap.size + 1 + 1 + 1]? = some (.cells #[.int .i64 1000, .int .i64 0] 85 (0, 0)) := by rw [h5]; refine old_heap _ ?_; rw [h4]; refine old_heap _ ?_; exact g3
  have g4 : E4.heap[w.heap.size + 1 + 1 + 1 + 1]? = some (.cells #[.int .i64 0, .int .i64 0, .int .i64 0, .int .i64 0, .int .i64 2, .int .i64 0, .int .i64 0, .int .i64 0] 87 (0, 0)) := by rw [← z3]; rw [h4]; exact heap_alloc_new _ _
  have G4 : E5.heap[w.heap.size + 1 + 1 + 1 + 1]? = some (.cells #[.int .i64 0, .int .i64 0, .int .i64 0, .int .i64 0, .int .i64 2, .int .i64 0, .int .i64 0, .int .i64 0] 87 (0, 0)) := by rw [h5]; refine old_heap _ ?_; exact g4
  have g5 : E5.heap[w.heap.size + 1 + 1 + 1 + 1 + 1]? = some (.cells #[.int .i64 0, .int .i64 4, .int .i64 0, .int .i64 0, .int .i64 0, .int .i64 4, .int .i64 0, .int .i64 0, .int .i64 1, .int .i64 4, .int .i64 0, .int .i64 0] 89 (0, 0)) := by rw [← z4]; rw [h5]; exact heap_alloc_new _ _
  have G5 : E5.heap[w.heap.size + 1 + 1 + 1 + 1 + 1]? = some (.cells #[.int .i64 0, .int .i64 4, .int .i64 0, .int .i64 0, .int .i64 0, .int .i64 4, .int .i64 0, .int .i64 0, .int .i64 1, .int .i64 4, .int .i64 0, .int .i64 0] 89 (0, 0)) := by exact g5
  have BN : Below w.heap.size w E5 := by rw [h5]; refine Below.alloc ?_ (by omega) _; rw [h4]; refine Below.alloc ?_ (by omega) _; rw [h3]; refine Below.alloc ?_ (by omega) _; rw [h2]; refine Below.alloc ?_ (by omega) _; rw [h1]; refine Below.alloc ?_ (by omega) _; rw [h0]; exact (Below.refl _ _).alloc (Nat.le_refl _) _
  have HG := Lib.hid (And.intro G0 (And.intro G1 (And.intro G2 (And.intro G3 (And.intro G4 (G5))))))
  have HB := Lib.hid BN
  have HE := Lib.hid h5
  clear BN g0 G0 z0 g1 G1 z1 g2 G2 z2 g3 G3 z3 g4 G4 z4 g5 G5 z5 h5
  subst h4 h3 h2 h1 h0
  go_enter Tryz.func25, Tryz.ntmps25
  go_wp2_with (fail)
  rw [← HE.out]
  obtain ⟨G0, G1, G2, G3, G4, G5⟩ := HG.out
  exact ret7 (i := 0) (b := w.heap.size) rfl rfl rfl G0 ⟨rfl, ⟨rw_block14 (α := Int) (k := 1) (F := inF) (l := [1000]) G1 (by simp [maxLen]), rw_block14 (α := Brk) (k := 4) (F := brkF) (l := [⟨0, 500, 0, 0⟩]) G2 (by simp [maxLen]), rw_block14 (α := Lp) (k := 2) (F := lpF) (l := [⟨1000, 0⟩]) G3 (by simp [maxLen]), rw_block14 (α := Rk) (k := 4) (F := rkF) (l := [⟨0, 0, 0, 0⟩, ⟨2, 0, 0, 0⟩]) G4 (by simp [maxLen]), Rw.nil _ _, rw_block14 (α := Hs) (k := 4) (F := hsF) (l := [⟨0, 4, 0, 0⟩, ⟨0, 4, 0, 0⟩, ⟨1, 4, 0, 0⟩]) G5 (by simp [maxLen])⟩, HB.out⟩
theorem wxs_at {X : World} {b b1 : Nat} (h : X.heap[b]? = some (.cells (cellsV 8 svV (wxs b1)).toArray 94 (0, 0))) (h1 : X.heap[b1]? = some (.cells #[.int .i64 0] 3 (0, 0))) : WiAt X (some ⟨b, 0, none⟩) 2 (wxs b1) := by
  refine ⟨rv_block (l := wxs b1) h (by simp [wxs, maxLen]), fun x hx => ?_⟩
  rcases List.mem_cons.1 hx with rfl | hx
  · exact ⟨Rv.nil _, Rv.nil _, by decide⟩
  rcases List.mem_cons.1 hx with rfl | hx
  · exact ⟨rv_block (k := 1) (F := inV) (l := [0]) h1 (by simp [maxLen]), Rv.nil _, (by show (0 : Nat) < 256; omega)⟩
  · cases hx
set_option maxHeartbeats 8000000 in
theorem c_wish (w : World) : Calls Tryz.prog 26 #[] w fun e w' => e = .returned (.agg #[.slice (some ⟨w.heap.size + 1 + 1, 0, none⟩) 2 2]) ∧ WiAt w' (some ⟨w.heap.size + 1 + 1, 0, none⟩) 2 (wxs (w.heap.size + 1)) ∧ Below w.heap.size w w' := by
  obtain ⟨E0, h0⟩ : ∃ X, X = w.alloc (.cells #[.slice (some ⟨w.heap.size + 1 + 1, 0, none⟩) 2 2] 32) := ⟨_, rfl⟩
  obtain ⟨E1, h1⟩ : ∃ X, X = E0.alloc (.cells #[.int .i64 0] 3) := ⟨_, rfl⟩
  obtain ⟨E2, h2⟩ : ∃ X, X = E1.alloc (.cells #[.int .i64 3, .int .i64 2, .int .i64 1, .int .u8 2, .int .i64 1, .slice none 0 0, .slice none 0 0, .int .i64 0, .int .i64 2, .int .i64 1, .int .i64 0, .int .u8 0, .int .i64 0, .slice (some ⟨w.heap.size + 1, 0, none⟩) 1 1, .slice none 0 0, .int .i64 0] 94) := ⟨_, rfl⟩
  have z0 : E0.heap.size = w.heap.size + 1 := by rw [h0, World.size_alloc]
  have z1 : E1.heap.size = w.heap.size + 1 + 1 := by rw [h1, World.size_alloc, z0]
  have z2 : E2.heap.size = w.heap.size + 1 + 1 + 1 := by rw [h2, World.size_alloc, z1]
  have g0 : E0.heap[w.heap.size]? = some (.cells #[.slice (some ⟨w.heap.size + 1 + 1, 0, none⟩) 2 2] 32 (0, 0)) := by rw [h0]; exact heap_alloc_new _ _
  have G0 : E2.heap[w.heap.size]? = some (.cells #[.slice (some ⟨w.heap.size + 1 + 1, 0, none⟩) 2 2] 32 (0, 0)) := by rw [h2]; refine old_heap _ ?_; rw [h1]; refine old_heap _ ?_; exact g0
  have g1 : E1.heap[w.heap.size + 1]? = some (.cells #[.int .i64 0] 3 (0, 0)) := by rw [← z0]; rw [h1]; exact heap_alloc_new _ _
  have G1 : E2.heap[w.heap.size + 1]? = some (.cells #[.int .i64 0] 3 (0, 0)) := by rw [h2]; refine old_heap _ ?_; exact g1
  have g2 : E2.heap[w.heap.size + 1 + 1]? = some (.cells #[.int .i64 3, .int .i64 2, .int .i64 1, .int .u8 2, .int .i64 1, .slice none 0 0, .slice none 0 0, .int .i64 0, .int .i64 2, .int .i64 1, .int .i64 0, .int .u8 0, .int .i64 0, .slice (some ⟨w.heap.size + 1, 0, none⟩) 1 1, .slice none 0 0, .int .i64 0] 94 (0, 0)) := by rw [← z1]; rw [h2]; exact heap_alloc_new _ _
  have G2 : E2.heap[w.heap.size + 1 + 1]? = some (.cells #[.int .i64 3, .int .i64 2, .int .i64 1, .int .u8 2, .int .i64 1, .slice none 0 0, .slice none 0 0, .int .i64 0, .int .i64 2, .int .i64 1, .int .i64 0, .int .u8 0, .int .i64 0, .slice (some ⟨w.heap.size + 1, 0, none⟩) 1 1, .slice none 0 0, .int .i64 0] 94 (0, 0)) := by exact g2
  have BN : Below w.heap.size w E2 := by rw [h2]; refine Below.alloc ?_ (by omega) _; rw [h1]; refine Below.alloc ?_ (by omega) _; rw [h0]; exact (Below.refl _ _).alloc (Nat.le_refl _) _
  have HG := Lib.hid (And.intro G0 (And.intro G1 (G2)))
  have HB := Lib.hid BN
  have HE := Lib.hid h2
  clear BN g0 G0 z0 g1 G1 z1 g2 G2 z2 h2
  subst h1 h0
  go_enter Tryz.func26, Tryz.ntmps26
  go_wp2_with (fail)
  rw [← HE.out]
  obtain ⟨G0, G1, G2⟩ := HG.out
  exact ret1w (i := 0) (b := w.heap.size) rfl rfl rfl G0 ⟨rfl, wxs_at G2 G1, HB.out⟩
def hz3 : List Hst := [⟨0, 0⟩, ⟨0, 0⟩, ⟨0, 0⟩]
theorem made3 : (madeCells (.agg #[.int .u8 0, .int .i64 0] : Value).cells (3 * 2)).toList = cellsV 2 hstV hz3 := by kernel_rfl
theorem own_cur2 {w : World} {base n g : Nat} {T : TypeId} {xs : List Value} (h : w.ownsRow base T 2 (.slice (some ⟨g, 0, none⟩) n n) n xs) : w.heap[g]? = some (.cells xs.toArray T (0, 0)) := by
  obtain ⟨k1, ⟨e, -⟩ | ⟨g', cap', cur, e, k3, k4, k5, k6, k7, k8⟩⟩ := h
  · cases e
  · injection e with e1 _ e2
    injection e1 with e1
    injection e1 with e1
    subst e1 e2
    rw [k4]
    have : cur = xs.toArray := by
      apply Array.ext'
      rw [← k8, List.take_of_length_le (by simp; omega)]
    rw [this]
set_option maxHeartbeats 8000000 in
theorem c_world (A : Option Addr) (c : Nat) (l : List Rep) (w : World) (h : Rv 2 repV w A c l) : Calls Tryz.prog 24 #[.slice A l.length c] w fun e w' => ∃ q, e = .returned (.agg #[.slice q.a1 3 q.c1, .slice q.a2 l.length q.c2]) ∧ WoAt w' q ⟨hz3, l⟩ ∧ Below w.heap.size w w' := by
  obtain ⟨i0, hi0, hz0, hz1, hz2⟩ := info_parts hst_info
  obtain ⟨E0, h0⟩ : ∃ X, X = w.alloc (.cells #[.slice none 0 0, .slice none 0 0] 36) := ⟨_, rfl⟩
  have B0 : Below w.heap.size w E0 := by rw [h0]; exact (Below.refl _ _).alloc (Nat.le_refl _) _
  have b0 : E0.heap[w.heap.size]? = some (.cells #[.slice none 0 0, .slice none 0 0] 36 (0, 0)) := by rw [h0]; exact box_new _ _ _
  have HS := Lib.hid (show E0.heap.size = w.heap.size + 1 by rw [h0, World.size_alloc])
  have HB := Lib.hid B0
  have HB0 := Lib.hid b0
  have HH := Lib.hid h
  clear B0 b0 h
  go_enter Tryz.func24, Tryz.ntmps24
  go_wp2_with (at_make; rw [← h0]; refine wpList_make_full (P := Tryz.prog) _ rfl _ _ 33 rfl E0.heap.size 58 i0 (.agg #[.int .u8 0, .int .i64 0]) 2 Tryz.underlying33 hi0 hz0 hz1 .i64 .i64 _ _ 3 rfl rfl rfl rfl (by rw [hz2]; decide) (by decide) (Nat.le_refl _) ?_; intro w1 ho1 hg1; have HR1 := Lib.hid (own_cur2 ho1); have HKY := Lib.hid ((Below.refl E0.heap.size E0).grown hg1 (Nat.le_refl _) (fun k hk => by cases hk)); have v0 : w1.cell? ⟨w.heap.size, 0, none⟩ = some (.slice none 0 0) := cell_of (box_on HB0.out HKY.out (Nat.le_refl _)) rfl; have v1 : w1.cell? ⟨w.heap.size, 1, none⟩ = some (.slice none 0 0) := cell_of (box_on HB0.out HKY.out (Nat.le_refl _)) rfl; have u0 : w1.frozen? ⟨w.heap.size, 0, none⟩ = false := frz0 (box_on HB0.out HKY.out (Nat.le_refl _)) 0; have u1 : w1.frozen? ⟨w.heap.size, 1, none⟩ = false := frz0 (box_on HB0.out HKY.out (Nat.le_refl _)) 1; clear ho1 hg1)
  have e1 := HS.out
  have e2 := HKY.out.size
  have hrow : w1.heap[w.heap.size + 1]? = some (.cells (cellsV 2 hstV hz3).toArray 58 (0, 0)) := by
    have h := HR1.out
    rw [made3, e1] at h
    exact h
  have hbe : Below w.heap.size w ((w1.setCell ⟨w.heap.size, 0, none⟩ (.slice (some ⟨w.heap.size + 1, 0, none⟩) 3 3)).setCell ⟨w.heap.size, 1, none⟩ (.slice A l.length c)) := ((HB.out.trans (HKY.out.mono HB.out.size)).setCell (p := ⟨w.heap.size, 0, none⟩) (Nat.le_refl _) _).setCell (p := ⟨w.heap.size, 1, none⟩) (Nat.le_refl _) _
  refine ret2w (i := 2) (b := w.heap.size) rfl rfl rfl (row_store2 (box_on HB0.out HKY.out (Nat.le_refl _)) _ _) ⟨⟨some ⟨w.heap.size + 1, 0, none⟩, 3, A, c⟩, by first | rfl | (rw [e1]; rfl), ⟨?_, HH.out.on ?_ (Nat.le_refl _), (show ∀ h ∈ hz3, h.phase < 256 by decide)⟩, ?_⟩
  · try rw [e1]
    exact rv_block (l := hz3) (set_else (set_else hrow (by omega)) (by omega)) (by simp [hz3, maxLen])
  · try rw [e1]
    exact hbe
  · try rw [e1]
    exact hbe
theorem c_siteTo (w : World) : Calls Tryz.prog 25 #[] w fun e w' => ∃ p, e = .returned (.agg #[.slice p.a1 1 p.c1, .slice p.a2 1 p.c2, .slice p.a3 1 p.c3, .slice p.a4 2 p.c4, .int .i64 1, .slice p.a5 0 p.c5, .slice p.a6 3 p.c6]) ∧ SiAt w' p exD ∧ Below w.heap.size w w' := (c_site w).mono fun e w' h => ⟨_, h.1, h.2.1, h.2.2⟩
theorem c_wishTo (w : World) : Calls Tryz.prog 26 #[] w fun e w' => ∃ A c b, e = .returned (.agg #[.slice A 2 c]) ∧ WiAt w' A c (wxs b) ∧ Below w.heap.size w w' := (c_wish w).mono fun e w' h => ⟨_, _, _, h.1, h.2.1, h.2.2⟩
end Go.Proofs.YtbbadnlaelgmlaaGreat

namespace Go.Proofs.YtbbadnlaelgmlaaGreat
set_option linter.unusedVariables false
set_option linter.unusedSimpArgs false
set_option maxRecDepth 100000

theorem exWish : WishOk exS := by
  refine ⟨by decide, fun i s h => ?_, by decide⟩
  match i, h with
  | 0, h => obtain rfl : _ = s := Option.some.inj h; decide +kernel
  | 1, h => obtain rfl : _ = s := Option.some.inj h; decide +kernel
def W0 : WorldD := ⟨hz3, []⟩
def W1 : WorldD := ⟨hz3, [⟨0, 0⟩, ⟨0, 2⟩]⟩
def W2 : WorldD := ⟨hz3, [⟨0, 0⟩, ⟨0, 1⟩, ⟨1, 0⟩]⟩
def W3 : WorldD := ⟨[⟨3, 0⟩, ⟨0, 0⟩, ⟨0, 0⟩], [⟨0, 0⟩]⟩
theorem ok0 : WorldOk exD exS W0 := ⟨by decide +kernel, exWish, by decide, by decide +kernel, by decide, by decide +kernel, by decide +kernel⟩
theorem ok1 : WorldOk exD exS W1 := ⟨by decide +kernel, exWish, by decide, by decide +kernel, by decide, by decide +kernel, by decide +kernel⟩
theorem ok2 : WorldOk exD exS W2 := ⟨by decide +kernel, exWish, by decide, by decide +kernel, by decide, by decide +kernel, by decide +kernel⟩
theorem ok3 : WorldOk exD exS W3 := ⟨by decide +kernel, exWish, by decide, by decide +kernel, by decide, by decide +kernel, by decide +kernel⟩
theorem br0 : bnV exD exS W0 true = [⟨3, 0, 0⟩] := by decide +kernel
theorem br1 : bnV exD exS W1 true = [] := by decide +kernel
theorem br2 : bnV exD exS W2 true = [⟨1, 0, 0⟩, ⟨4, 0, 0⟩, ⟨5, 1, 0⟩] := by decide +kernel
theorem br3 : bnV exD exS W3 true = [⟨2, 0, 0⟩] := by decide +kernel
end Go.Proofs.YtbbadnlaelgmlaaGreat
