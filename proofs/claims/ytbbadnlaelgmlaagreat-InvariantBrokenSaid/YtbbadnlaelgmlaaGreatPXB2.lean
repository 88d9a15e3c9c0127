/-
  DERIVED. Several texts in one.
-/
import Derived.Test.YtbbadnlaelgmlaaGreatPXB1
import Derived.OwnWalk
import Derived.Laws.IdiomCopy
import Derived.Test.YtbbadnlaelgmlaaGreatPXA3
set_option linter.unusedVariables false
set_option linter.unusedSimpArgs false

namespace Go.Proofs.YtbbadnlaelgmlaaGreat
open Go.RowKit
set_option maxRecDepth 100000
set_option linter.unusedVariables false
set_option linter.unusedSimpArgs false

theorem used_take {ss : List Svc} {l : List Rep} {k : Nat} {x : Rep} (h : l[k]? = some x) (host : Int) : usedD ss (l.take (k + 1)) host = usedStep ss host (usedD ss (l.take k) host) x := by
  rw [List.take_add_one, h]; exact used_snoc _ _ _ _
theorem cores_at {xs : List (Svc × SvA)} {m : Nat} {y : Svc × SvA} (h : xs[m]? = some y) : coresAt (svs xs) (m : Int) = y.1.cores := by
  unfold coresAt
  rw [show ((m : Nat) : Int).toNat = m by omega, svs_at h]; rfl
set_option maxHeartbeats 16000000 in
theorem c_woUsed (A : Option Addr) (c : Nat) (xs : List (Svc × SvA)) (p : WP) (d : WorldD) (host : Int) (w : World) (hx : WiAt w A c xs) (h : WoAt w p d) :
    Calls Tryz.prog 93 #[.agg #[.slice A xs.length c], .agg (woA p d), .int .i64 host] w fun e w' => e = .returned (.int .i64 (usedD (svs xs) d.reps host)) ∧ Below w.heap.size w w' := by
  unfold woA
  obtain ⟨W1, h1⟩ : ∃ W, W = w.alloc (.cells #[.slice A xs.length c] 32) := ⟨_, rfl⟩
  obtain ⟨W, h2⟩ : ∃ W, W = W1.alloc (.cells (woA p d) 36) := ⟨_, rfl⟩
  obtain ⟨B0, b1, b2, -⟩ := two_boxes h1 h2
  have HB := Lib.hid B0
  have HF := Lib.hid (fun (X : World) (hX : Below W.heap.size W X) => (⟨cell_of (box_on b1 hX (Nat.le_refl _)) rfl, cell_of (box_on b2 hX (Nat.le_refl _)) rfl⟩ : X.cell? ⟨w.heap.size, 0, none⟩ = some (.slice A xs.length c) ∧ X.cell? ⟨w.heap.size + 1, 1, none⟩ = some (.slice p.a2 d.reps.length p.c2)))
  have H := Lib.hid (h.on B0 (Nat.le_refl _)).reps
  have HX := Lib.hid (hx.on B0 (Nat.le_refl _))
  have hc1 := h.reps.1; have hc2 := h.reps.2.1; have hc3 := hx.row.1; have hc4 := hx.row.2.1
  unfold maxLen at hc2 hc4
  have hle := B0.size
  have HSL := Lib.hid (svs_len xs)
  obtain ⟨x0, x1⟩ := HF.out W (Below.refl _ _)
  clear h hx B0 b1 b2
  unfold woA at h2
  rw [h2, h1] at x0 x1
  generalize hA : w.heap.size = B at *
  go_enter Tryz.func93, Tryz.ntmps93
  go_wp2_with (fail)
  rw [← h1, ← h2]
  clear h1 h2 x0 x1
  go_loopw [7, 13] (fun v i wr => ∃ (k : Nat) (acc : Int), k ≤ d.reps.length ∧ v = .int .i64 acc ∧ i = .int .i64 (k : Int) ∧ Hid (acc = usedD (svs xs) (d.reps.take k) host) ∧ Hid (Below W.heap.size W wr)) (fun _ i _ => d.reps.length - (intOf i).toNat)
  case atStart => exact ⟨0, 0, Nat.zero_le _, rfl, rfl, Lib.hid rfl, Lib.hid (Below.refl _ _)⟩
  case round =>
    obtain ⟨k, acc, hk, rfl, rfl, hacc, hK⟩ := hrel
    have hki : ((k : Nat) : Int).toNat = k := by omega
    by_cases hlt : k < d.reps.length
    · obtain ⟨⟨sv, ho⟩, hx⟩ : ∃ x, d.reps[k]? = some x := ⟨_, List.getElem?_eq_getElem hlt⟩
      have HK := H.out.on hK.out (Nat.le_refl _)
      obtain ⟨b, o, e0, -, -⟩ := HK.at_ hx
      rw [e0] at HK
      obtain ⟨y0, y1⟩ := rep_at HK hx
      simp only at y0 y1
      have HXX := Lib.hid hx
      have hkl : (k : Int) < (d.reps.length : Int) := by omega
      obtain ⟨V, hV⟩ : ∃ V, V = wr.alloc (.cells #[.int .i64 sv, .int .i64 ho] 53) := ⟨_, rfl⟩
      have bV : Below wr.heap.size wr V := by subst hV; exact (Below.refl _ _).alloc (Nat.le_refl _) _
      have HKV := Lib.hid (below_join hK.out bV hK.out.size)
      have z0 : V.cell? ⟨wr.heap.size, 0, none⟩ = some (.int .i64 sv) := by subst hV; exact cell_of (box_new _ _ _) rfl
      have z1 : V.cell? ⟨wr.heap.size, 1, none⟩ = some (.int .i64 ho) := by subst hV; exact cell_of (box_new _ _ _) rfl
      obtain ⟨x0, x1⟩ := HF.out V HKV.out
      clear hx HK bV
      rw [e0]
      rcases hf : (ho == host) with _ | _
      · have HO := Lib.hid (show acc = usedD (svs xs) (d.reps.take (k + 1)) host by
          rw [used_take HXX.out]; unfold usedStep
          rw [show (({ svc := sv, host := ho } : Rep).host == host) = false from hf]
          simp only [Bool.false_and, Bool.false_eq_true, if_false]
          exact hacc.out)
        rw [hV] at z0 z1 x0 x1
        go_wp2_with (fail)
        rw [← hV]
        clear hV
        go_roundw
        case rel => exact ⟨k + 1, acc, by omega, rfl, by go_num, HO, HKV⟩
        case measure => simp only [intOf]; omega
      · obtain ⟨q, hq⟩ : ∃ q, ixB sv (xs.length : Int) = q := ⟨_, rfl⟩
        have HQ := Lib.hid hq
        have HFF := Lib.hid hf
        rw [hV] at z0 z1 x0 x1
        clear hq
        go_wp2_with (fail)
        rw [← hV] at z0 z1 x0 x1 ⊢
        clear hV
        go_at_call 43
        refine (c_woIsIndex sv (xs.length : Int) q HQ.out V).mono ?_
        rintro e wx ⟨rfl, hwx⟩
        rw [hwx]
        clear hwx wx
        cases q
        · have HO := Lib.hid (show acc = usedD (svs xs) (d.reps.take (k + 1)) host by
            rw [used_take HXX.out]; unfold usedStep
            rw [HSL.out, show ixB ({ svc := sv, host := ho } : Rep).svc (xs.length : Int) = false from HQ.out]
            simp only [Bool.and_false, Bool.false_eq_true, if_false]
            exact hacc.out)
          go_wp2_with (fail)
          go_roundw
          case rel => exact ⟨k + 1, acc, by omega, rfl, by go_num, HO, HKV⟩
          case measure => simp only [intOf]; omega
        · have hr := ixB_iff.1 HQ.out
          obtain ⟨m, rfl⟩ : ∃ m : Nat, sv = m := ⟨sv.toNat, by omega⟩
          have hml : m < xs.length := by omega
          obtain ⟨y, hy⟩ : ∃ y, xs[m]? = some y := ⟨_, List.getElem?_eq_getElem hml⟩
          have HXV := HX.out.on HKV.out (Nat.le_refl _)
          obtain ⟨pb, po, rfl, -, -⟩ := HXV.row.at_ hy
          have t0 := (sv_at HXV.row hy).1
          have hmi : ((m : Nat) : Int).toNat = m := by omega
          have hml2 : (m : Int) < (xs.length : Int) := by omega
          have hm0 : (0 : Int) ≤ (m : Int) := by omega
          obtain ⟨z, hz⟩ : ∃ z, IntKind.i64.wrap (acc + y.1.cores) = z := ⟨_, rfl⟩
          have HO := Lib.hid (show z = usedD (svs xs) (d.reps.take (k + 1)) host by
            rw [used_take HXX.out]; unfold usedStep
            rw [HSL.out, show ixB ({ svc := ((m : Nat) : Int), host := ho } : Rep).svc (xs.length : Int) = true from HQ.out, show (({ svc := ((m : Nat) : Int), host := ho } : Rep).host == host) = true from HFF.out]
            simp only [Bool.and_true, if_true]
            rw [cores_at hy, ← hz, hacc.out])
          clear hr HXV hy
          go_wp2_with (fail)
          go_roundw
          case rel => exact ⟨k + 1, z, by omega, rfl, by go_num, HO, HKV⟩
          case measure => simp only [intOf]; omega
    · obtain rfl : k = d.reps.length := by omega
      have HO := Lib.hid (show acc = usedD (svs xs) d.reps host by have := hacc.out; rwa [List.take_length] at this)
      go_wp2_with (fail)
      go_ret
      exact ⟨(show Ending.returned (.int .i64 acc) = .returned (.int .i64 (usedD (svs xs) d.reps host)) by rw [HO.out]), below_join HB.out hK.out hle⟩
end Go.Proofs.YtbbadnlaelgmlaaGreat

namespace Go.Proofs.YtbbadnlaelgmlaaGreat
open Go.RowKit
set_option maxRecDepth 100000
set_option linter.unusedVariables false
set_option linter.unusedSimpArgs false

set_option maxHeartbeats 16000000 in
theorem c_wrWhere (p : WP) (d : WorldD) (s : Int) (hm : d.reps.length ≤ 1000) (w : World) (h : WoAt w p d) :
    Calls Tryz.prog 66 #[.agg (woA p d), .int .i64 s] w fun e w' => ∃ v, e = .returned v ∧ w'.ownsRow w.heap.size 3 1 v (whereD d.reps s).length (ints (whereD d.reps s)) ∧ Below w.heap.size w w' := by
  unfold woA
  obtain ⟨W, hW⟩ : ∃ W, W = w.alloc (.cells (woA p d) 36) := ⟨_, rfl⟩
  have B0 : Below w.heap.size w W := by subst hW; exact (Below.refl _ _).alloc (Nat.le_refl _) _
  have HB := Lib.hid B0
  have HX := Lib.hid (show W.heap[w.heap.size]? = some (.cells (woA p d) 36 (0, 0)) by subst hW; exact box_new _ _ _)
  have HF := Lib.hid (fun (X : World) (hX : Below W.heap.size W X) => (cell_of (box_on HX.out hX (Nat.le_refl _)) rfl : X.cell? ⟨w.heap.size, 1, none⟩ = some (.slice p.a2 d.reps.length p.c2)))
  have H := Lib.hid (h.on B0 (Nat.le_refl _)).reps
  have hc1 := h.reps.1; have hc2 := h.reps.2.1
  unfold maxLen at hc2
  have hle := B0.size
  obtain ⟨i1, hi1, hz1, hz2, hz3⟩ := info_parts int_info
  clear h B0
  unfold woA at hW
  generalize hA : w.heap.size = B at *
  go_enter Tryz.func66, Tryz.ntmps66
  go_wp2_with (fail)
  rw [← hW]
  clear hW
  go_loopw [5, 6] (fun v i wr => ∃ k : Nat, k ≤ d.reps.length ∧ i = .int .i64 (k : Int) ∧ Hid (Below W.heap.size W wr) ∧ Hid (wr.ownsRow W.heap.size 3 1 v (whereD (d.reps.take k) s).length (ints (whereD (d.reps.take k) s)))) (fun _ i _ => d.reps.length - (intOf i).toNat)
  case atStart => exact ⟨0, Nat.zero_le _, rfl, Lib.hid (Below.refl _ _), Lib.hid (World.ownsRow_nil _ _ _ _)⟩
  case round =>
    obtain ⟨k, hk, rfl, hK, ho⟩ := hrel
    have hki : ((k : Nat) : Int).toNat = k := by omega
    have x1 := HF.out wr hK.out
    by_cases hlt : k < d.reps.length
    · obtain ⟨x, hx⟩ : ∃ x, d.reps[k]? = some x := ⟨_, List.getElem?_eq_getElem hlt⟩
      have HK := H.out.on hK.out (Nat.le_refl _)
      obtain ⟨b, o, e0, -, -⟩ := HK.at_ hx
      rw [e0] at HK x1
      obtain ⟨y0, y1⟩ := rep_at HK hx
      have HXX := Lib.hid hx
      have hkl : (k : Int) < (d.reps.length : Int) := by omega
      have hln : (whereD (d.reps.take k) s).length ≤ 1000 := Nat.le_trans (where_take_len hk s) (by omega)
      obtain ⟨nn, hnn⟩ : ∃ m, m = (whereD (d.reps.take k) s).length := ⟨_, rfl⟩
      rw [← hnn] at ho hln
      have HNN := Lib.hid hnn
      obtain ⟨As, cs, rfl⟩ := own_shape ho.out
      have hz4 := hK.out.size
      clear hnn hx HK e0
      rcases hf : (x.svc == s) with _ | _
      · have HO := Lib.hid (show wr.ownsRow W.heap.size 3 1 (.slice As nn cs) (whereD (d.reps.take (k + 1)) s).length (ints (whereD (d.reps.take (k + 1)) s)) by
          rw [where_take HXX.out, hf]
          simp only [Bool.false_eq_true, if_false, List.append_nil]
          rw [← HNN.out]; exact ho.out)
        go_wp2_with (fail)
        go_roundw
        case rel => exact ⟨k + 1, by omega, by go_num, hK, HO⟩
        case measure => simp only [intOf]; omega
      · have HFF := Lib.hid hf
        go_wp2_with (at_builtin; refine wpList_append_lies _ rfl _ _ 91 rfl W.heap.size 3 i1 (.int .i64 0) 1 8 Tryz.underlying91 hi1 hz1 hz2 hz3 rfl (by decide) (.slice As nn cs) nn _ rfl (ho.out.alloc _) ⟨wr.heap.size, 0, none⟩ 1 1 [.int .i64 x.host] rfl rfl (World.news_of_block (heap_alloc_new _ _)) (by simp [Value.oneCell']) (by decide) (by unfold maxLen; omega) (by omega) (by simp; omega) (wr.heap.size + 1) (by simp) ?_; intro g4 cap4 Z hown hgrow _ _; have HBZ := Lib.hid ((hK.out.alloc hK.out.size _).grown hgrow (by have := hK.out.size; simp; omega) (fun k hk => (ownsRow_lt ho.out hk).1)); have HOZ := Lib.hid hown; clear hown hgrow)
        have HO := Lib.hid (show Z.ownsRow W.heap.size 3 1 (.slice (some ⟨g4, 0, none⟩) (nn + 1) cap4) (whereD (d.reps.take (k + 1)) s).length (ints (whereD (d.reps.take (k + 1)) s)) by
          rw [where_take HXX.out, HFF.out]
          simp only [if_true]
          rw [List.length_append, List.length_singleton, ← HNN.out, ints_snoc]
          exact HOZ.out)
        go_roundw
        case rel => exact ⟨k + 1, by omega, by go_num, HBZ, HO⟩
        case measure => simp only [intOf]; omega
    · obtain rfl : k = d.reps.length := by omega
      have HO := Lib.hid (show wr.ownsRow W.heap.size 3 1 u5 (whereD d.reps s).length (ints (whereD d.reps s)) by have := ho.out; rwa [List.take_length] at this)
      go_wp2_with (fail)
      go_ret
      exact ⟨_, rfl, own_mono HO.out hle, below_join HB.out hK.out hle⟩
set_option maxHeartbeats 8000000 in
theorem c_wrRuns (p : WP) (d : WorldD) (s : Int) (hm : d.reps.length ≤ 1000) (w : World) (h : WoAt w p d) :
    Calls Tryz.prog 61 #[.agg (woA p d), .int .i64 s] w fun e w' => e = .returned (.int .i64 ((whereD d.reps s).length : Int)) ∧ Below w.heap.size w w' := by
  unfold woA
  obtain ⟨W, hW⟩ : ∃ W, W = w.alloc (.cells (woA p d) 36) := ⟨_, rfl⟩
  have B0 : Below w.heap.size w W := by subst hW; exact (Below.refl _ _).alloc (Nat.le_refl _) _
  have HB := Lib.hid B0
  have x0 : W.cell? ⟨w.heap.size, 0, none⟩ = some (.slice p.a1 d.hosts.length p.c1) := by subst hW; exact cell_of (box_new _ _ _) rfl
  have x1 : W.cell? ⟨w.heap.size, 1, none⟩ = some (.slice p.a2 d.reps.length p.c2) := by subst hW; exact cell_of (box_new _ _ _) rfl
  have HC := Lib.hid (c_wrWhere p d s hm W (h.on B0 (Nat.le_refl _)))
  have hle := B0.size
  have hln := Nat.le_trans (where_len d.reps s) hm
  clear h B0
  unfold woA at hW HC
  rw [hW] at x0 x1
  generalize hA : w.heap.size = B at *
  obtain ⟨l, hl⟩ : ∃ l, whereD d.reps s = l := ⟨_, rfl⟩
  rw [hl] at hln HC ⊢
  clear hl
  go_enter Tryz.func61, Tryz.ntmps61
  go_wp2_with (fail)
  rw [← hW]
  clear hW x0 x1
  go_at_call 66
  refine HC.out.mono ?_
  rintro e w1 ⟨v, rfl, ho, b1⟩
  obtain ⟨As, cs, rfl⟩ := own_shape ho
  have K1 := Lib.hid b1
  clear b1 ho
  go_wp2_with (fail)
  go_ret
  exact ⟨rfl, below_join HB.out K1.out hle⟩
set_option maxHeartbeats 8000000 in
theorem c_wrHas (p : WP) (d : WorldD) (x : Rep) (r : Bool) (hr : hasB d.reps x = r) (w : World) (hd : WoAt w p d) :
    Calls Tryz.prog 37 #[.agg (woA p d), .agg #[.int .i64 x.svc, .int .i64 x.host]] w fun e w' => e = .returned (.bool r) ∧ Below w.heap.size w w' := by
  unfold woA
  obtain ⟨W1, h1⟩ : ∃ W, W = w.alloc (.cells (woA p d) 36) := ⟨_, rfl⟩
  obtain ⟨W, h2⟩ : ∃ W, W = W1.alloc (.cells #[.int .i64 x.svc, .int .i64 x.host] 53) := ⟨_, rfl⟩
  obtain ⟨B0, b1, b2, -⟩ := two_boxes h1 h2
  have HB := Lib.hid B0
  have hle := B0.size
  have HF := Lib.hid (fun (X : World) (hX : Below W.heap.size W X) => (⟨cell_of (box_on b1 hX (Nat.le_refl _)) rfl, cell_of (box_on b2 hX (Nat.le_refl _)) rfl, cell_of (box_on b2 hX (Nat.le_refl _)) rfl⟩ : X.cell? ⟨w.heap.size, 1, none⟩ = some (.slice p.a2 d.reps.length p.c2) ∧ X.cell? ⟨w.heap.size + 1, 0, none⟩ = some (.int .i64 x.svc) ∧ X.cell? ⟨w.heap.size + 1, 1, none⟩ = some (.int .i64 x.host)))
  have H := Lib.hid (hd.on B0 (Nat.le_refl _)).reps
  have hc1 := hd.reps.1; have hc2 := hd.reps.2.1
  unfold maxLen at hc2
  have HR := Lib.hid hr
  clear hr hd B0 b1 b2
  unfold woA at h1
  generalize hA : w.heap.size = B at *
  go_enter Tryz.func37, Tryz.ntmps37
  go_wp2_with (fail)
  rw [← h1, ← h2]
  clear h1 h2
  go_loopw [5] (fun i wr => ∃ k : Nat, k ≤ d.reps.length ∧ i = .int .i64 (k : Int) ∧ Hid (x ∉ d.reps.take k) ∧ Hid (Below W.heap.size W wr)) (fun i _ => d.reps.length - (intOf i).toNat)
  case atStart => exact ⟨0, Nat.zero_le _, rfl, Lib.hid (by simp), Lib.hid (Below.refl _ _)⟩
  case round =>
    obtain ⟨k, hk, rfl, hno, hK⟩ := hrel
    have hki : ((k : Nat) : Int).toNat = k := by omega
    obtain ⟨x1, z0, z1⟩ := HF.out wr hK.out
    by_cases hlt : k < d.reps.length
    · obtain ⟨z, hz⟩ : ∃ z, d.reps[k]? = some z := ⟨_, List.getElem?_eq_getElem hlt⟩
      have HK := H.out.on hK.out (Nat.le_refl _)
      obtain ⟨b, o, e0, -, -⟩ := HK.at_ hz
      rw [e0] at HK x1
      obtain ⟨y0, y1⟩ := rep_at HK hz
      have HZ := Lib.hid hz
      have hk1 : (k : Int) < ((d.reps.length : Nat) : Int) := by omega
      clear hz HK e0
      have g1 := guardRp
      have g2 := eqlRp
      rcases hxz : ((z.svc == x.svc) && (z.host == x.host)) with _ | _
      · have hno2 := Lib.hid (show x ∉ d.reps.take (k + 1) by
          rw [List.take_add_one, HZ.out, List.mem_append]
          rintro (h | h)
          · exact hno.out h
          · simp at h; rw [h] at hxz; simp at hxz)
        go_wp2_with (fail)
        go_quiet (fail)
        go_wp2_with (fail)
        go_roundw
        case rel => exact ⟨k + 1, by omega, by go_num, hno2, Lib.hid (below_drewN hK.out)⟩
        case measure => simp only [intOf]; omega
      · obtain rfl : true = r := by
          rw [← HR.out]
          exact (decide_eq_true (show x ∈ d.reps by rw [rep_beq] at hxz; rw [← of_decide_eq_true hxz]; exact List.mem_of_getElem? HZ.out)).symm
        go_wp2_with (fail)
        go_quiet (fail)
        go_wp2_with (fail)
        go_ret
        exact ⟨rfl, below_drewN (below_join HB.out hK.out hle)⟩
    · obtain rfl : k = d.reps.length := by omega
      obtain rfl : false = r := by
        rw [← HR.out]
        have h := hno.out
        rw [List.take_length] at h
        exact (decide_eq_false h).symm
      go_wp2_with (fail)
      go_ret
      exact ⟨rfl, below_join HB.out hK.out hle⟩
set_option maxHeartbeats 16000000 in
theorem c_wrUsed (A : Option Addr) (c : Nat) (xs : List (Svc × SvA)) (p : WP) (d : WorldD) (host : Int) (w : World) (hx : WiAt w A c xs) (h : WoAt w p d) :
    Calls Tryz.prog 60 #[.agg #[.slice A xs.length c], .agg (woA p d), .int .i64 host] w fun e w' => e = .returned (.int .i64 (usedD (svs xs) d.reps host)) ∧ Below w.heap.size w w' := by
  unfold woA
  obtain ⟨W1, h1⟩ : ∃ W, W = w.alloc (.cells #[.slice A xs.length c] 32) := ⟨_, rfl⟩
  obtain ⟨W, h2⟩ : ∃ W, W = W1.alloc (.cells (woA p d) 36) := ⟨_, rfl⟩
  obtain ⟨B0, b1, b2, -⟩ := two_boxes h1 h2
  have HB := Lib.hid B0
  have HF := Lib.hid (fun (X : World) (hX : Below W.heap.size W X) => (⟨cell_of (box_on b1 hX (Nat.le_refl _)) rfl, cell_of (box_on b2 hX (Nat.le_refl _)) rfl⟩ : X.cell? ⟨w.heap.size, 0, none⟩ = some (.slice A xs.length c) ∧ X.cell? ⟨w.heap.size + 1, 1, none⟩ = some (.slice p.a2 d.reps.length p.c2)))
  have H := Lib.hid (h.on B0 (Nat.le_refl _)).reps
  have HX := Lib.hid (hx.on B0 (Nat.le_refl _))
  have hc1 := h.reps.1; have hc2 := h.reps.2.1; have hc3 := hx.row.1; have hc4 := hx.row.2.1
  unfold maxLen at hc2 hc4
  have hle := B0.size
  have HSL := Lib.hid (svs_len xs)
  clear h hx B0 b1 b2
  unfold woA at h2
  generalize hA : w.heap.size = B at *
  go_enter Tryz.func60, Tryz.ntmps60
  go_wp2_with (fail)
  rw [← h1, ← h2]
  clear h1 h2
  go_loopw [7, 8] (fun v i wr => ∃ (k : Nat) (acc : Int), k ≤ d.reps.length ∧ v = .int .i64 acc ∧ i = .int .i64 (k : Int) ∧ Hid (acc = usedD (svs xs) (d.reps.take k) host) ∧ Hid (Below W.heap.size W wr)) (fun _ i _ => d.reps.length - (intOf i).toNat)
  case atStart => exact ⟨0, 0, Nat.zero_le _, rfl, rfl, Lib.hid rfl, Lib.hid (Below.refl _ _)⟩
  case round =>
    obtain ⟨k, acc, hk, rfl, rfl, hacc, hK⟩ := hrel
    have hki : ((k : Nat) : Int).toNat = k := by omega
    obtain ⟨x0, x1⟩ := HF.out wr hK.out
    by_cases hlt : k < d.reps.length
    · obtain ⟨⟨sv, ho⟩, hx⟩ : ∃ x, d.reps[k]? = some x := ⟨_, List.getElem?_eq_getElem hlt⟩
      have HK := H.out.on hK.out (Nat.le_refl _)
      obtain ⟨b, o, e0, -, -⟩ := HK.at_ hx
      rw [e0] at HK x1
      obtain ⟨y0, y1⟩ := rep_at HK hx
      simp only at y0 y1
      have HXX := Lib.hid hx
      have hkl : (k : Int) < (d.reps.length : Int) := by omega
      obtain ⟨V, hV⟩ : ∃ V, V = wr.alloc (.cells #[.int .i64 sv, .int .i64 ho] 53) := ⟨_, rfl⟩
      have bV : Below wr.heap.size wr V := by subst hV; exact (Below.refl _ _).alloc (Nat.le_refl _) _
      have HKV := Lib.hid (below_join hK.out bV hK.out.size)
      have z0 : V.cell? ⟨wr.heap.size, 0, none⟩ = some (.int .i64 sv) := by subst hV; exact cell_of (box_new _ _ _) rfl
      have z1 : V.cell? ⟨wr.heap.size, 1, none⟩ = some (.int .i64 ho) := by subst hV; exact cell_of (box_new _ _ _) rfl
      obtain ⟨v0, v1⟩ := HF.out V HKV.out
      rw [e0] at v1
      clear hx HK bV e0
      have HNO : (ho == host && ixB sv (xs.length : Int)) = false → Hid (acc = usedD (svs xs) (d.reps.take (k + 1)) host) := fun hn => Lib.hid (by
        rw [used_take HXX.out]; unfold usedStep
        rw [HSL.out, show (({ svc := sv, host := ho } : Rep).host == host && ixB ({ svc := sv, host := ho } : Rep).svc (xs.length : Int)) = false from hn]
        simp only [Bool.false_eq_true, if_false]
        exact hacc.out)
      have HNN := Lib.hid HNO
      clear HNO
      rcases hf : (ho == host) with _ | _
      · have HO := HNN.out (by rw [hf]; rfl)
        rw [hV] at z0 z1 v0 v1
        go_wp2_with (fail)
        rw [← hV]
        clear hV
        go_roundw
        case rel => exact ⟨k + 1, acc, by omega, rfl, by go_num, HO, HKV⟩
        case measure => simp only [intOf]; omega
      · rcases hg : decide (0 ≤ sv) with _ | _
        · have HO := HNN.out (by unfold ixB; rw [hg]; simp)
          rw [hV] at z0 z1 v0 v1
          go_wp2_with (fail)
          rw [← hV]
          clear hV
          go_roundw
          case rel => exact ⟨k + 1, acc, by omega, rfl, by go_num, HO, HKV⟩
          case measure => simp only [intOf]; omega
        · rcases hh : decide (sv < (xs.length : Int)) with _ | _
          · have HO := HNN.out (by unfold ixB; rw [hh]; simp)
            rw [hV] at z0 z1 v0 v1
            go_wp2_with (fail)
            rw [← hV]
            clear hV
            go_roundw
            case rel => exact ⟨k + 1, acc, by omega, rfl, by go_num, HO, HKV⟩
            case measure => simp only [intOf]; omega
          · have hg2 := of_decide_eq_true hg
            have hh2 := of_decide_eq_true hh
            have HIX := Lib.hid (show ixB sv (xs.length : Int) = true from ixB_iff.2 ⟨hg2, hh2⟩)
            have HFF := Lib.hid hf
            obtain ⟨m, rfl⟩ : ∃ m : Nat, sv = m := ⟨sv.toNat, by omega⟩
            have hml : m < xs.length := by omega
            obtain ⟨y, hy⟩ : ∃ y, xs[m]? = some y := ⟨_, List.getElem?_eq_getElem hml⟩
            have HXV := HX.out.on HKV.out (Nat.le_refl _)
            obtain ⟨pb, po, rfl, -, -⟩ := HXV.row.at_ hy
            have t0 := (sv_at HXV.row hy).1
            have hmi : ((m : Nat) : Int).toNat = m := by omega
            obtain ⟨z, hz⟩ : ∃ z, IntKind.i64.wrap (acc + y.1.cores) = z := ⟨_, rfl⟩
            have HO := Lib.hid (show z = usedD (svs xs) (d.reps.take (k + 1)) host by
              rw [used_take HXX.out]; unfold usedStep
              rw [HSL.out, show ixB ({ svc := ((m : Nat) : Int), host := ho } : Rep).svc (xs.length : Int) = true from HIX.out, show (({ svc := ((m : Nat) : Int), host := ho } : Rep).host == host) = true from HFF.out]
              simp only [Bool.and_true, if_true]
              rw [cores_at hy, ← hz, hacc.out])
            rw [hV] at z0 z1 v0 v1 t0
            clear HXV hy HNN
            go_wp2_with (fail)
            rw [← hV]
            clear hV
            go_roundw
            case rel => exact ⟨k + 1, z, by omega, rfl, by go_num, HO, HKV⟩
            case measure => simp only [intOf]; omega
    · obtain rfl : k = d.reps.length := by omega
      have HO := Lib.hid (show acc = usedD (svs xs) d.reps host by have := hacc.out; rwa [List.take_length] at this)
      go_wp2_with (fail)
      go_ret
      exact ⟨(show Ending.returned (.int .i64 acc) = .returned (.int .i64 (usedD (svs xs) d.reps host)) by rw [HO.out]), below_join HB.out hK.out hle⟩
end Go.Proofs.YtbbadnlaelgmlaaGreat

namespace Go.Proofs.YtbbadnlaelgmlaaGreat
open Go.RowKit
set_option maxRecDepth 100000
set_option linter.unusedVariables false
set_option linter.unusedSimpArgs false

theorem any_bad {α : Type} {f : α → Bool} {l : List α} : l.any (fun x => !f x) = false ↔ ∀ x ∈ l, f x = true := by simp
set_option maxHeartbeats 16000000 in
theorem c_woValid (p : SP) (s : SiteD) (A : Option Addr) (c : Nat) (xs : List (Svc × SvA)) (q : WP) (d : WorldD) (r : Bool) (hr : r = true ↔ WorldOk s (svs xs) d) (w : World) (hs : SiAt w p s) (hx : WiAt w A c xs) (hd : WoAt w q d) :
    Calls Tryz.prog 27 #[siV p s, .agg #[.slice A xs.length c], .agg (woA q d)] w fun e w' => e = .returned (.bool r) ∧ Below w.heap.size w w' := by
  unfold siV woA
  obtain ⟨W1, h1⟩ : ∃ W, W = w.alloc (.cells #[.slice p.a1 s.feeds.length p.c1, .slice p.a2 s.brks.length p.c2, .slice p.a3 s.loops.length p.c3, .slice p.a4 s.racks.length p.c4, .int .i64 s.sw, .slice p.a5 s.links.length p.c5, .slice p.a6 s.hosts.length p.c6] 29) := ⟨_, rfl⟩
  obtain ⟨W2, h2⟩ : ∃ W, W = W1.alloc (.cells #[.slice A xs.length c] 32) := ⟨_, rfl⟩
  obtain ⟨W, h3⟩ : ∃ W, W = W2.alloc (.cells (woA q d) 36) := ⟨_, rfl⟩
  have s1 : W1.heap.size = w.heap.size + 1 := by rw [h1, World.size_alloc]
  have s2 : W2.heap.size = w.heap.size + 1 + 1 := by rw [h2, World.size_alloc, s1]
  have s3 : W.heap.size = w.heap.size + 1 + 1 + 1 := by rw [h3, World.size_alloc, s2]
  have B0 : Below w.heap.size w W := by
    have e1 : Below w.heap.size w W1 := by rw [h1]; exact (Below.refl _ _).alloc (Nat.le_refl _) _
    have e2 : Below w.heap.size w W2 := by rw [h2]; exact e1.alloc (by omega) _
    rw [h3]; exact e2.alloc (by omega) _
  have HB := Lib.hid B0
  have X1 : SiBox W w.heap.size p s := by
    have e1 : SiBox W1 w.heap.size p s := by rw [h1]; exact siBox_new _ _ _
    unfold SiBox at e1 ⊢
    rw [h3, h2]; exact old_heap _ (old_heap _ e1)
  have X2 : WiBox W (w.heap.size + 1) A xs.length c := by
    have e1 : W2.heap[w.heap.size + 1]? = some (.cells #[.slice A xs.length c] 32 (0, 0)) := by rw [h2, ← s1]; exact box_new _ _ _
    unfold WiBox
    rw [h3]; exact old_heap _ e1
  have X3 : WoBox W (w.heap.size + 1 + 1) q d := by
    unfold WoBox
    rw [h3, ← s2]; exact box_new _ _ _
  have HS := Lib.hid (hs.on B0 (Nat.le_refl _))
  have HX := Lib.hid (hx.on B0 (Nat.le_refl _))
  have HD := Lib.hid (hd.on B0 (Nat.le_refl _))
  have B1 := Lib.hid X1
  have B2 := Lib.hid X2
  have B3 := Lib.hid X3
  have HF := Lib.hid (fun (X : World) (hX : Below W.heap.size W X) => (⟨(X1.on hX (Nat.le_refl _)).c0, (X1.on hX (Nat.le_refl _)).c1, (X1.on hX (Nat.le_refl _)).c2, (X1.on hX (Nat.le_refl _)).c3, (X1.on hX (Nat.le_refl _)).c4, (X1.on hX (Nat.le_refl _)).c5, (X1.on hX (Nat.le_refl _)).c6, (X2.on hX (Nat.le_refl _)).c0, (X3.on hX (Nat.le_refl _)).c0, (X3.on hX (Nat.le_refl _)).c1⟩ : X.cell? ⟨w.heap.size, 0, none⟩ = some (.slice p.a1 s.feeds.length p.c1) ∧ X.cell? ⟨w.heap.size, 1, none⟩ = some (.slice p.a2 s.brks.length p.c2) ∧ X.cell? ⟨w.heap.size, 2, none⟩ = some (.slice p.a3 s.loops.length p.c3) ∧ X.cell? ⟨w.heap.size, 3, none⟩ = some (.slice p.a4 s.racks.length p.c4) ∧ X.cell? ⟨w.heap.size, 4, none⟩ = some (.int .i64 s.sw) ∧ X.cell? ⟨w.heap.size, 5, none⟩ = some (.slice p.a5 s.links.length p.c5) ∧ X.cell? ⟨w.heap.size, 6, none⟩ = some (.slice p.a6 s.hosts.length p.c6) ∧ X.cell? ⟨w.heap.size + 1, 0, none⟩ = some (.slice A xs.length c) ∧ X.cell? ⟨w.heap.size + 1 + 1, 0, none⟩ = some (.slice q.a1 d.hosts.length q.c1) ∧ X.cell? ⟨w.heap.size + 1 + 1, 1, none⟩ = some (.slice q.a2 d.reps.length q.c2)))
  have n1 := hd.hosts.1; have n2 := hd.hosts.2.1; have n3 := hd.reps.1; have n4 := hd.reps.2.1; have n5 := hs.hosts.1; have n6 := hs.hosts.2.1
  unfold maxLen at n2 n4 n6
  have HR := Lib.hid hr
  have KW := Lib.hid (Below.refl W.heap.size W)
  have hle : w.heap.size ≤ W.heap.size := B0.size
  clear B0 hr hs hx hd X1 X2 X3 s1 s2 s3
  obtain ⟨f0, f1, f2, f3, f4, f5, f6, g0, g1, g2⟩ := HF.out W KW.out
  unfold woA at h3
  rw [h3, h2, h1] at f0 f1 f2 f3 f4 f5 f6 g0 g1 g2
  generalize hA : w.heap.size = B at *
  go_enter Tryz.func27, Tryz.ntmps27
  go_wp2_with (fail)
  rw [← h1, ← h2, ← h3] at f0 f1 f2 f3 f4 f5 f6 g0 g1 g2 ⊢
  clear h1 h2 h3
  obtain ⟨q0, h0⟩ : ∃ b, siteOk s = b := ⟨_, rfl⟩
  have Q0 := Lib.hid h0
  clear h0
  go_at_call 44
  refine (c_stValid p s q0 Q0.out W HS.out).mono ?_
  rintro e w1 ⟨rfl, b1⟩
  have K1 := Lib.hid b1
  clear b1
  clear f0 f1 f2 f3 f4 f5 f6 g0 g1 g2
  obtain ⟨f0, f1, f2, f3, f4, f5, f6, g0, g1, g2⟩ := HF.out w1 K1.out
  cases q0
  · obtain rfl : false = r := by
      rcases r with _ | _
      · rfl
      · exact absurd (HR.out.1 rfl) (fun h => by have := h.1; rw [Q0.out] at this; cases this)
    go_wp2_with (fail)
    go_ret
    exact ⟨rfl, below_join HB.out K1.out hle⟩
  go_wp2_with (fail)
  obtain ⟨q1, h1⟩ : ∃ b : Bool, b = true ↔ WishOk (svs xs) := by
    by_cases h : WishOk (svs xs)
    · exact ⟨true, by simp [h]⟩
    · exact ⟨false, by simp [h]⟩
  have Q1 := Lib.hid h1
  clear h1
  go_at_call 45
  refine (c_ValidWish A c xs q1 Q1.out w1 (HX.out.on K1.out (Nat.le_refl _))).mono ?_
  rintro e w2 ⟨rfl, b2⟩
  have K2 := Lib.hid (below_join K1.out b2 K1.out.size)
  clear b2
  clear f0 f1 f2 f3 f4 f5 f6 g0 g1 g2
  obtain ⟨f0, f1, f2, f3, f4, f5, f6, g0, g1, g2⟩ := HF.out w2 K2.out
  cases q1
  · obtain rfl : false = r := by
      rcases r with _ | _
      · rfl
      · exact absurd (HR.out.1 rfl) (fun h => by have := Q1.out.2 h.2.1; cases this)
    go_wp2_with (fail)
    go_ret
    exact ⟨rfl, below_join HB.out K2.out hle⟩
  rcases h2 : ((d.hosts.length : Int) == (s.hosts.length : Int)) with _ | _
  · have Q2 := Lib.hid h2
    obtain rfl : false = r := by
      rcases r with _ | _
      · rfl
      · exact absurd (HR.out.1 rfl) (fun h => by have e := h.2.2.1; have := Q2.out; rw [e] at this; simp at this)
    go_wp2_with (fail)
    go_ret
    exact ⟨rfl, below_join HB.out K2.out hle⟩
  have Q2 := Lib.hid (show d.hosts.length = s.hosts.length by have := eq_of_beq h2; omega)
  go_wp2_with (fail)
  clear h2
  obtain ⟨q3, h3⟩ : ∃ b, d.hosts.any (fun x => !hstOk x) = b := ⟨_, rfl⟩
  have Q3 := Lib.hid h3
  clear h3
  go_at_call 46
  refine (c_CF_HostState q.a1 q.c1 d.hosts w2 (HD.out.on K2.out (Nat.le_refl _)).hosts q3 Q3.out).mono ?_
  rintro e w3 ⟨rfl, b3⟩
  have K3 := Lib.hid (below_join K2.out b3 K2.out.size)
  clear b3
  clear f0 f1 f2 f3 f4 f5 f6 g0 g1 g2
  obtain ⟨f0, f1, f2, f3, f4, f5, f6, g0, g1, g2⟩ := HF.out w3 K3.out
  cases q3
  rotate_left
  · obtain rfl : false = r := by
      rcases r with _ | _
      · rfl
      · exact absurd (HR.out.1 rfl) (fun h => by have := any_bad.2 h.2.2.2.1; rw [Q3.out] at this; cases this)
    go_wp2_with (fail)
    go_ret
    exact ⟨rfl, below_join HB.out K3.out hle⟩
  rcases h4 : decide ((d.reps.length : Int) ≤ 24) with _ | _
  · have Q4 := Lib.hid h4
    obtain rfl : false = r := by
      rcases r with _ | _
      · rfl
      · exact absurd (HR.out.1 rfl) (fun h => by have e := h.2.2.2.2.1; have := of_decide_eq_false Q4.out; omega)
    go_wp2_with (fail)
    go_ret
    exact ⟨rfl, below_join HB.out K3.out hle⟩
  have Q4 := Lib.hid (show d.reps.length ≤ 24 by have := of_decide_eq_true h4; omega)
  go_wp2_with (fail)
  clear h4
  obtain ⟨q5, h5⟩ : ∃ b, d.reps.any (fun x => !repOk xs.length s.hosts.length x) = b := ⟨_, rfl⟩
  have Q5 := Lib.hid h5
  clear h5
  go_at_call 47
  refine (c_CF_Replica (B + 1) B p s A xs.length c q.a2 q.c2 d.reps w3 (B2.out.on K3.out (Nat.le_refl _)) (B1.out.on K3.out (Nat.le_refl _)) (HD.out.on K3.out (Nat.le_refl _)).reps q5 Q5.out).mono ?_
  rintro e w4 ⟨rfl, b4⟩
  have K4 := Lib.hid (below_join K3.out b4 K3.out.size)
  clear b4
  clear f0 f1 f2 f3 f4 f5 f6 g0 g1 g2
  obtain ⟨f0, f1, f2, f3, f4, f5, f6, g0, g1, g2⟩ := HF.out w4 K4.out
  cases q5
  rotate_left
  · obtain rfl : false = r := by
      rcases r with _ | _
      · rfl
      · exact absurd (HR.out.1 rfl) (fun h => by have e := h.2.2.2.2.2.1; rw [svs_len] at e; have := any_bad.2 e; rw [Q5.out] at this; cases this)
    go_wp2_with (fail)
    go_ret
    exact ⟨rfl, below_join HB.out K4.out hle⟩
  go_wp2_with (fail)
  obtain ⟨q6, h6⟩ : ∃ b, ascB d.reps = b := ⟨_, rfl⟩
  have Q6 := Lib.hid h6
  clear h6
  have HE := Lib.hid (show q6 = r by
    rw [Bool.eq_iff_iff, HR.out, ← Q6.out]
    exact ⟨fun h => ⟨Q0.out, Q1.out.1 (by trivial), Q2.out, any_bad.1 Q3.out, Q4.out, by rw [svs_len]; exact any_bad.1 Q5.out, h⟩, fun h => h.2.2.2.2.2.2⟩)
  go_at_call 48
  refine (c_ascend q.a2 q.c2 d.reps q6 Q6.out w4 (HD.out.on K4.out (Nat.le_refl _)).reps).mono ?_
  rintro e w5 ⟨rfl, b5⟩
  have K5 := Lib.hid (below_join K4.out b5 K4.out.size)
  clear b5
  go_wp2_with (fail)
  go_ret
  exact ⟨(show Ending.returned (.bool q6) = .returned (.bool r) by rw [HE.out]), below_join HB.out K5.out hle⟩
end Go.Proofs.YtbbadnlaelgmlaaGreat

namespace Go.Proofs.YtbbadnlaelgmlaaGreat
open Go.RowKit
set_option maxRecDepth 100000
set_option linter.unusedVariables false
set_option linter.unusedSimpArgs false

def RpBox (w : World) (b : Nat) (A : Option Addr) (n c : Nat) : Prop := w.heap[b]? = some (.cells #[.slice A n c] 34 (0, 0))
def XpBox (w : World) (b : Nat) (x : Rep) : Prop := w.heap[b]? = some (.cells #[.int .i64 x.svc, .int .i64 x.host] 53 (0, 0))
theorem RpBox.on {w w' : World} {b : Nat} {A : Option Addr} {n c B : Nat} (h : RpBox w b A n c) (hb : Below B w w') (hB : w.heap.size ≤ B) : RpBox w' b A n c := box_on h hb hB
theorem XpBox.on {w w' : World} {b : Nat} {x : Rep} {B : Nat} (h : XpBox w b x) (hb : Below B w w') (hB : w.heap.size ≤ B) : XpBox w' b x := box_on h hb hB
end Go.Proofs.YtbbadnlaelgmlaaGreat

namespace Go.Proofs.YtbbadnlaelgmlaaGreat
open Go.RowKit
set_option maxRecDepth 100000
set_option linter.unusedVariables false
set_option linter.unusedSimpArgs false

/-- A world whose lists a function has made itself. -/
def OwnW (base : Nat) (w : World) (p : WP) (d : WorldD) : Prop :=
  w.ownsRow base 58 2 (.slice p.a1 d.hosts.length p.c1) d.hosts.length (cellsV 2 hstV d.hosts) ∧ w.ownsRow base 53 2 (.slice p.a2 d.reps.length p.c2) d.reps.length (cellsV 2 repV d.reps)
theorem OwnW.wo {base : Nat} {w : World} {p : WP} {d : WorldD} (h : OwnW base w p d) (hp : ∀ x ∈ d.hosts, x.phase < 256) : WoAt w p d := by
  obtain ⟨A1, c1, e1, r1⟩ := own_rv h.1
  obtain ⟨A2, c2, e2, r2⟩ := own_rv h.2
  injection e1 with e1 _ e1'
  injection e2 with e2 _ e2'
  subst e1 e1' e2 e2'
  exact ⟨r1, r2, hp⟩
theorem OwnW.on {base B : Nat} {w w' : World} {p : WP} {d : WorldD} (h : OwnW base w p d) (hb : Below B w w') (hB : w.heap.size ≤ B) : OwnW base w' p d := ⟨own_on h.1 hb hB, own_on h.2 hb hB⟩
theorem OwnW.mono {base base' : Nat} {w : World} {p : WP} {d : WorldD} (h : OwnW base w p d) (hb : base' ≤ base) : OwnW base' w p d := ⟨own_mono h.1 hb, own_mono h.2 hb⟩
theorem row_store2 {W : World} {b : Nat} {y0 y1 : Value} {T : TypeId} (h : W.heap[b]? = some (.cells #[y0, y1] T (0, 0))) (x0 x1 : Value) :
    ((W.setCell ⟨b, 0, none⟩ x0).setCell ⟨b, 1, none⟩ x1).heap[b]? = some (.cells #[x0, x1] T (0, 0)) := set_field (set_field h x0) x1
end Go.Proofs.YtbbadnlaelgmlaaGreat

namespace Go.Proofs.YtbbadnlaelgmlaaGreat
open Go.RowKit
set_option maxRecDepth 100000
set_option linter.unusedVariables false
set_option linter.unusedSimpArgs false

theorem three_boxes {w : World} {c1 c2 c3 : Array Value} {T1 T2 T3 : TypeId} {W1 W2 W : World} (h1 : W1 = w.alloc (.cells c1 T1)) (h2 : W2 = W1.alloc (.cells c2 T2)) (h3 : W = W2.alloc (.cells c3 T3)) :
    Below w.heap.size w W ∧ W.heap[w.heap.size]? = some (.cells c1 T1 (0, 0)) ∧ W.heap[w.heap.size + 1]? = some (.cells c2 T2 (0, 0)) ∧ W.heap[w.heap.size + 1 + 1]? = some (.cells c3 T3 (0, 0)) := by
  obtain ⟨e1, b1, b2, s2⟩ := two_boxes h1 h2
  refine ⟨by rw [h3]; exact e1.alloc (by omega) _, by rw [h3]; exact old_heap _ b1, by rw [h3]; exact old_heap _ b2, by rw [h3, ← s2]; exact box_new _ _ _⟩
end Go.Proofs.YtbbadnlaelgmlaaGreat

namespace Go.Proofs.YtbbadnlaelgmlaaGreat
open Go.RowKit
set_option maxRecDepth 100000
set_option linter.unusedVariables false
set_option linter.unusedSimpArgs false

theorem svcB_of {s : Svc} {own many : Int} (h : svcB s own many = true) : ((1 ≤ s.cores ∧ s.cores ≤ 1000) ∧ (0 ≤ s.reps ∧ s.reps ≤ 24) ∧ (0 ≤ s.least ∧ s.least ≤ s.reps) ∧ (0 ≤ s.fw ∧ s.fw ≤ 1000000) ∧ s.dom ≤ 5 ∧ ((if s.dom = 0 then 0 else 1) ≤ s.spread ∧ s.spread ≤ (if s.dom = 0 then 0 else 24)) ∧ ∀ n ∈ s.near, 0 ≤ n.lat ∧ n.lat ≤ 1000000) ∧ othB own many s.apart = true ∧ othB own many (s.near.map (·.svc)) = true := by
  unfold svcB nameB at h
  rw [Bool.and_eq_true, Bool.and_eq_true, keepB_iff] at h
  exact h
theorem svcB_mk {s : Svc} {own many : Int} (h1 : (1 ≤ s.cores ∧ s.cores ≤ 1000) ∧ (0 ≤ s.reps ∧ s.reps ≤ 24) ∧ (0 ≤ s.least ∧ s.least ≤ s.reps) ∧ (0 ≤ s.fw ∧ s.fw ≤ 1000000) ∧ s.dom ≤ 5 ∧ ((if s.dom = 0 then 0 else 1) ≤ s.spread ∧ s.spread ≤ (if s.dom = 0 then 0 else 24)) ∧ ∀ n ∈ s.near, 0 ≤ n.lat ∧ n.lat ≤ 1000000) (h2 : othB own many s.apart = true) (h3 : othB own many (s.near.map (·.svc)) = true) : svcB s own many = true := by
  unfold svcB nameB
  rw [Bool.and_eq_true, Bool.and_eq_true, keepB_iff]
  exact ⟨h1, h2, h3⟩
theorem svcB_no {s : Svc} {own many : Int} {r : Bool} (hr : svcB s own many = r) (h : svcB s own many = true → False) : r = false := by
  rcases r with _ | _
  · rfl
  · exact absurd hr h
theorem nr_split (x : Nr) : ∃ a b, x = ⟨a, b⟩ := ⟨x.svc, x.lat, rfl⟩
set_option maxHeartbeats 32000000 in
theorem c_service (A : Option Addr) (c : Nat) (xs : List (Svc × SvA)) (k : Nat) (x : Svc × SvA) (hk : xs[k]? = some x) (r : Bool) (hr : svcB x.1 (k : Int) (xs.length : Int) = r) (w : World) (h : WiAt w A c xs) :
    Calls Tryz.prog 73 #[.agg #[.slice A xs.length c], .int .i64 (k : Int)] w fun e w' => e = .returned (.bool r) ∧ Below w.heap.size w w' := by
  obtain ⟨W1, h1⟩ : ∃ W, W = w.alloc (.cells #[.slice A xs.length c] 32) := ⟨_, rfl⟩
  obtain ⟨W, h2⟩ : ∃ W, W = W1.alloc (.cells (svA x) 94) := ⟨_, rfl⟩
  obtain ⟨B0, b1, b2, -⟩ := two_boxes h1 h2
  have HB := Lib.hid B0
  have hle := B0.size
  have B1 : Below w.heap.size w W1 := by rw [h1]; exact (Below.refl _ _).alloc (Nat.le_refl _) _
  have HW1 := h.on B1 (Nat.le_refl _)
  obtain ⟨pb, po, rfl, -, -⟩ := h.row.at_ hk
  obtain ⟨y0, y1, y2, y3, y4, y5, y6, y7⟩ := sv_at HW1.row hk
  have yg : W1.cell? ⟨w.heap.size, 0, none⟩ = some (.slice (some ⟨pb, po, none⟩) xs.length c) := by rw [h1]; exact cell_of (box_new _ _ _) rfl
  have HF := Lib.hid (fun (X : World) (hX : Below W.heap.size W X) => (⟨cell_of (box_on b1 hX (Nat.le_refl _)) rfl, cell_of (box_on b2 hX (Nat.le_refl _)) rfl, cell_of (box_on b2 hX (Nat.le_refl _)) rfl⟩ : X.cell? ⟨w.heap.size, 0, none⟩ = some (.slice (some ⟨pb, po, none⟩) xs.length c) ∧ X.cell? ⟨w.heap.size + 1, 5, none⟩ = some (.slice x.2.a1 x.1.apart.length x.2.c1) ∧ X.cell? ⟨w.heap.size + 1, 6, none⟩ = some (.slice x.2.a2 x.1.near.length x.2.c2)))
  have S := h.each x (List.mem_of_getElem? hk)
  have HS := Lib.hid (S.on B0 (Nat.le_refl _))
  have m1 := S.apart.1; have m2 := S.apart.2.1; have m3 := S.near.1; have m4 := S.near.2.1; have m5 := h.row.1; have m6 := h.row.2.1
  unfold maxLen at m2 m4 m6
  obtain ⟨t0, t1, t2, t3, t4, t5, t6, t7⟩ := sv_box (show W.heap[w.heap.size + 1]? = some (.cells (svA x) 94 (0, 0)) from b2)
  have hkl : (k : Int) < (xs.length : Int) := by have := (List.getElem?_eq_some_iff.1 hk).1; omega
  have hki : ((k : Nat) : Int).toNat = k := by omega
  have HR := Lib.hid hr
  have KW := Lib.hid (Below.refl W.heap.size W)
  clear hr hk h S HW1 B0 B1 b1 b2
  unfold svA at h2
  rw [h1] at y0 y1 y2 y3 y4 y5 y6 y7 yg
  rw [h2, h1] at t0 t1 t2 t3 t4 t5 t6 t7
  generalize hA : w.heap.size = B at *
  rcases hd0 : decide (x.1.cores < 1) with _ | _
  rotate_left
  · have HDD := Lib.hid hd0
    obtain rfl : false = r := (svcB_no HR.out (fun h => by have h1 := (svcB_of h).1.1.1; have h2 := of_decide_eq_true HDD.out; omega)).symm
    go_enter Tryz.func73, Tryz.ntmps73
    go_wp2_with (fail)
    rw [← h1, ← h2]
    go_ret
    exact ⟨rfl, HB.out⟩
  rcases hd1 : decide (1000 < x.1.cores) with _ | _
  rotate_left
  · have HDD := Lib.hid hd1
    obtain rfl : false = r := (svcB_no HR.out (fun h => by have h1 := (svcB_of h).1.1.2; have h2 := of_decide_eq_true HDD.out; omega)).symm
    go_enter Tryz.func73, Tryz.ntmps73
    go_wp2_with (fail)
    rw [← h1, ← h2]
    go_ret
    exact ⟨rfl, HB.out⟩
  rcases hd2 : decide (x.1.reps < 0) with _ | _
  rotate_left
  · have HDD := Lib.hid hd2
    obtain rfl : false = r := (svcB_no HR.out (fun h => by have h1 := (svcB_of h).1.2.1.1; have h2 := of_decide_eq_true HDD.out; omega)).symm
    go_enter Tryz.func73, Tryz.ntmps73
    go_wp2_with (fail)
    rw [← h1, ← h2]
    go_ret
    exact ⟨rfl, HB.out⟩
  rcases hd3 : decide (24 < x.1.reps) with _ | _
  rotate_left
  · have HDD := Lib.hid hd3
    obtain rfl : false = r := (svcB_no HR.out (fun h => by have h1 := (svcB_of h).1.2.1.2; have h2 := of_decide_eq_true HDD.out; omega)).symm
    go_enter Tryz.func73, Tryz.ntmps73
    go_wp2_with (fail)
    rw [← h1, ← h2]
    go_ret
    exact ⟨rfl, HB.out⟩
  rcases hd4 : decide (x.1.least < 0) with _ | _
  rotate_left
  · have HDD := Lib.hid hd4
    obtain rfl : false = r := (svcB_no HR.out (fun h => by have h1 := (svcB_of h).1.2.2.1.1; have h2 := of_decide_eq_true HDD.out; omega)).symm
    go_enter Tryz.func73, Tryz.ntmps73
    go_wp2_with (fail)
    rw [← h1, ← h2]
    go_ret
    exact ⟨rfl, HB.out⟩
  rcases hd5 : decide (x.1.reps < x.1.least) with _ | _
  rotate_left
  · have HDD := Lib.hid hd5
    obtain rfl : false = r := (svcB_no HR.out (fun h => by have h1 := (svcB_of h).1.2.2.1.2; have h2 := of_decide_eq_true HDD.out; omega)).symm
    go_enter Tryz.func73, Tryz.ntmps73
    go_wp2_with (fail)
    rw [← h1, ← h2]
    go_ret
    exact ⟨rfl, HB.out⟩
  rcases hd6 : decide (x.1.fw < 0) with _ | _
  rotate_left
  · have HDD := Lib.hid hd6
    obtain rfl : false = r := (svcB_no HR.out (fun h => by have h1 := (svcB_of h).1.2.2.2.1.1; have h2 := of_decide_eq_true HDD.out; omega)).symm
    go_enter Tryz.func73, Tryz.ntmps73
    go_wp2_with (fail)
    rw [← h1, ← h2]
    go_ret
    exact ⟨rfl, HB.out⟩
  rcases hd7 : decide (1000000 < x.1.fw) with _ | _
  rotate_left
  · have HDD := Lib.hid hd7
    obtain rfl : false = r := (svcB_no HR.out (fun h => by have h1 := (svcB_of h).1.2.2.2.1.2; have h2 := of_decide_eq_true HDD.out; omega)).symm
    go_enter Tryz.func73, Tryz.ntmps73
    go_wp2_with (fail)
    rw [← h1, ← h2]
    go_ret
    exact ⟨rfl, HB.out⟩
  rcases hd8 : decide ((5 : Int) < (x.1.dom : Int)) with _ | _
  rotate_left
  · have HDD := Lib.hid hd8
    obtain rfl : false = r := (svcB_no HR.out (fun h => by have h1 := (svcB_of h).1.2.2.2.2.1; have h2 := of_decide_eq_true HDD.out; omega)).symm
    go_enter Tryz.func73, Tryz.ntmps73
    go_wp2_with (fail)
    rw [← h1, ← h2]
    go_ret
    exact ⟨rfl, HB.out⟩
  have HE := Lib.hid (show (1 ≤ x.1.cores ∧ x.1.cores ≤ 1000) ∧ (0 ≤ x.1.reps ∧ x.1.reps ≤ 24) ∧ (0 ≤ x.1.least ∧ x.1.least ≤ x.1.reps) ∧ (0 ≤ x.1.fw ∧ x.1.fw ≤ 1000000) ∧ x.1.dom ≤ 5 by
    have e0 := of_decide_eq_false hd0; have e1 := of_decide_eq_false hd1; have e2 := of_decide_eq_false hd2; have e3 := of_decide_eq_false hd3; have e4 := of_decide_eq_false hd4; have e5 := of_decide_eq_false hd5; have e6 := of_decide_eq_false hd6; have e7 := of_decide_eq_false hd7; have e8 := of_decide_eq_false hd8
    omega)
  obtain ⟨z0, z1, u0, u1, u2, hzz, huu⟩ : ∃ z0 z1 u0 u1 u2 : Bool, (((x.1.dom : Int) == 0) = z0 ∧ ((x.1.dom : Int) != 0) = z1 ∧ (x.1.spread != 0) = u0 ∧ decide (x.1.spread < 1) = u1 ∧ decide ((24 : Int) < x.1.spread) = u2) ∧ True := ⟨_, _, _, _, _, ⟨rfl, rfl, rfl, rfl, rfl⟩, trivial⟩
  obtain ⟨e0, e1, e2, e3, e4⟩ := hzz
  have HSP := Lib.hid (show z1 = !z0 ∧ (((if x.1.dom = 0 then 0 else 1) ≤ x.1.spread ∧ x.1.spread ≤ (if x.1.dom = 0 then 0 else 24)) ↔ (z0 && u0 || !z0 && (u1 || u2)) = false) by
    rw [← e0, ← e1, ← e2, ← e3, ← e4]
    refine ⟨by simp [bne], ?_⟩
    by_cases hz : x.1.dom = 0
    · rw [if_pos hz, if_pos hz, hz]
      simp
      (try omega)
    · rw [if_neg hz, if_neg hz]
      have : ((x.1.dom : Int) == 0) = false := by simpa using hz
      rw [this]
      simp
      (try omega))
  have hz1 : z1 = !z0 := HSP.out.1
  subst hz1
  clear huu
  have GO : (z0 && u0 || !z0 && (u1 || u2)) = true → r = false := fun ht => svcB_no HR.out (fun h => by
    have h1 := HSP.out.2.1 (svcB_of h).1.2.2.2.2.2.1
    rw [ht] at h1; cases h1)
  have HGO := Lib.hid GO
  clear GO
  rcases z0 with _ | _
  · simp only [Bool.not_false] at e1
    rcases u1 with _ | _
    rotate_left
    · obtain rfl : r = false := HGO.out (by simp)
      go_enter Tryz.func73, Tryz.ntmps73
      go_wp2_with (fail)
      rw [← h1, ← h2]
      go_ret
      exact ⟨rfl, HB.out⟩
    rcases u2 with _ | _
    rotate_left
    · obtain rfl : r = false := HGO.out (by simp)
      go_enter Tryz.func73, Tryz.ntmps73
      go_wp2_with (fail)
      rw [← h1, ← h2]
      go_ret
      exact ⟨rfl, HB.out⟩
    have HSQ := Lib.hid (HSP.out.2.2 (by simp))
    go_enter Tryz.func73, Tryz.ntmps73
    go_wp2_with (fail)
    rw [← h1, ← h2]
    clear h1 h2 y0 y1 y2 y3 y4 y5 y6 y7 yg t0 t1 t2 t3 t4 t5 t6 t7 hd0 hd1 hd2 hd3 hd4 hd5 hd6 hd7 hd8 e0 e1 e2 e3 e4
    go_loopw [6, 7] (fun la i wr => ∃ (j : Nat) (last : Int), j ≤ x.1.apart.length ∧ la = .int .i64 last ∧ i = .int .i64 (j : Int) ∧ Hid (othB (k : Int) (xs.length : Int) x.1.apart = othGo (k : Int) (xs.length : Int) last (x.1.apart.drop j)) ∧ Hid (Below W.heap.size W wr)) (fun _ i _ => x.1.apart.length - (intOf i).toNat)
    case atStart => exact ⟨0, -1, Nat.zero_le _, rfl, rfl, Lib.hid rfl, KW⟩
    case round =>
      obtain ⟨j, last, hj, rfl, rfl, hgo, hK⟩ := hrel
      have hji : ((j : Nat) : Int).toNat = j := by omega
      obtain ⟨f0, f1, f2⟩ := HF.out wr hK.out
      by_cases hlt : j < x.1.apart.length
      · obtain ⟨z, hz⟩ : ∃ z, x.1.apart[j]? = some z := ⟨_, List.getElem?_eq_getElem hlt⟩
        have HK := (HS.out.on hK.out (Nat.le_refl _)).apart
        obtain ⟨b, o, ea, -, -⟩ := HK.at_ hz
        rw [ea] at HK f1
        have g0 := int_at HK hz
        have HD := Lib.hid (show othB (k : Int) (xs.length : Int) x.1.apart = othGo (k : Int) (xs.length : Int) last (z :: x.1.apart.drop (j + 1)) by rw [hgo.out, drop_at hz])
        have hjl : (j : Int) < (x.1.apart.length : Int) := by omega
        clear hz HK ea hgo
        rcases c1 : decide (z ≤ last) with _ | _
        · rcases c2 : (z == (k : Int)) with _ | _
          · rcases c3 : decide ((xs.length : Int) ≤ z) with _ | _
            · have HN := Lib.hid (show othB (k : Int) (xs.length : Int) x.1.apart = othGo (k : Int) (xs.length : Int) z (x.1.apart.drop (j + 1)) by rw [HD.out, othGo_cons_ok (fun h => h.elim (fun h => of_decide_eq_false c1 h) (fun h => h.elim (fun h => of_decide_eq_false c3 h) (fun h => (beq_eq_false_iff_ne.1 c2) h)))])
              go_wp2_with (fail)
              go_quiet (fail)
              go_wp2_with (fail)
              go_roundw
              case rel => exact ⟨j + 1, z, by omega, rfl, by go_num, HN, Lib.hid (below_drewN hK.out)⟩
              case measure => simp only [intOf]; omega
            · have HDD := Lib.hid (of_decide_eq_true c3)
              obtain rfl : r = false := svcB_no HR.out (fun h => by have h1 := (svcB_of h).2.1; rw [HD.out, othGo_cons_no (.inr (.inl HDD.out))] at h1; cases h1)
              go_wp2_with (fail)
              go_quiet (fail)
              go_wp2_with (fail)
              go_ret
              exact ⟨rfl, below_drewN (below_join HB.out hK.out hle)⟩
          · have HDD := Lib.hid (eq_of_beq c2)
            obtain rfl : r = false := svcB_no HR.out (fun h => by have h1 := (svcB_of h).2.1; rw [HD.out, othGo_cons_no (.inr (.inr HDD.out))] at h1; cases h1)
            go_wp2_with (fail)
            go_quiet (fail)
            go_wp2_with (fail)
            go_ret
            exact ⟨rfl, below_drewN (below_join HB.out hK.out hle)⟩
        · have HDD := Lib.hid (of_decide_eq_true c1)
          obtain rfl : r = false := svcB_no HR.out (fun h => by have h1 := (svcB_of h).2.1; rw [HD.out, othGo_cons_no (.inl HDD.out)] at h1; cases h1)
          go_wp2_with (fail)
          go_quiet (fail)
          go_wp2_with (fail)
          go_ret
          exact ⟨rfl, below_drewN (below_join HB.out hK.out hle)⟩
      · obtain rfl : j = x.1.apart.length := by omega
        have HAP := Lib.hid (show othB (k : Int) (xs.length : Int) x.1.apart = true by rw [hgo.out, List.drop_eq_nil_of_le (Nat.le_refl _)]; rfl)
        clear hgo
        go_wp2_with (fail)
        clear f0 f1 f2
        go_loopw [6, 8] (fun la i wr => ∃ (j : Nat) (last : Int), j ≤ x.1.near.length ∧ la = .int .i64 last ∧ i = .int .i64 (j : Int) ∧ Hid (othB (k : Int) (xs.length : Int) (x.1.near.map (·.svc)) = othGo (k : Int) (xs.length : Int) last ((x.1.near.map (·.svc)).drop j)) ∧ Hid (∀ (i : Nat) n, i < j → x.1.near[i]? = some n → 0 ≤ n.lat ∧ n.lat ≤ 1000000) ∧ Hid (Below W.heap.size W wr)) (fun _ i _ => x.1.near.length - (intOf i).toNat)
        case atStart => exact ⟨0, -1, Nat.zero_le _, rfl, rfl, Lib.hid rfl, Lib.hid (fun i n hi => absurd hi (by omega)), hK⟩
        case round =>
          obtain ⟨j, last, hj, rfl, rfl, hgo, hla, hK⟩ := hrel
          have hji : ((j : Nat) : Int).toNat = j := by omega
          obtain ⟨f0, f1, f2⟩ := HF.out wr hK.out
          by_cases hlt : j < x.1.near.length
          · obtain ⟨z, hz⟩ : ∃ z, x.1.near[j]? = some z := ⟨_, List.getElem?_eq_getElem hlt⟩
            obtain ⟨zs, zl, rfl⟩ := nr_split z
            have HK := (HS.out.on hK.out (Nat.le_refl _)).near
            obtain ⟨b, o, ea, -, -⟩ := HK.at_ hz
            rw [ea] at HK f2
            obtain ⟨g0, g1⟩ := near_at HK hz
            simp only at g0 g1
            have HD := Lib.hid (show othB (k : Int) (xs.length : Int) (x.1.near.map (·.svc)) = othGo (k : Int) (xs.length : Int) last (zs :: (x.1.near.map (·.svc)).drop (j + 1)) by rw [hgo.out, drop_at (show (x.1.near.map (·.svc))[j]? = some zs by simp [hz])])
            have hjl : (j : Int) < (x.1.near.length : Int) := by omega
            have HZ := Lib.hid hz
            obtain ⟨V, hV⟩ : ∃ V, V = wr.alloc (.cells #[.int .i64 zs, .int .i64 zl] 109) := ⟨_, rfl⟩
            have bV : Below wr.heap.size wr V := by subst hV; exact (Below.refl _ _).alloc (Nat.le_refl _) _
            have HKV := Lib.hid (below_join hK.out bV hK.out.size)
            have q0 : V.cell? ⟨wr.heap.size, 0, none⟩ = some (.int .i64 zs) := by subst hV; exact cell_of (box_new _ _ _) rfl
            have q1 : V.cell? ⟨wr.heap.size, 1, none⟩ = some (.int .i64 zl) := by subst hV; exact cell_of (box_new _ _ _) rfl
            obtain ⟨v0, -, -⟩ := HF.out V HKV.out
            rw [hV] at q0 q1 v0
            clear hz HK ea hgo bV
            have HNO := Lib.hid (fun (hn : zs ≤ last ∨ (xs.length : Int) ≤ zs ∨ zs = (k : Int)) => (svcB_no HR.out (fun h => by have h1 := (svcB_of h).2.2; rw [HD.out, othGo_cons_no hn] at h1; cases h1) : r = false))
            have HNL := Lib.hid (fun (hn : zl < 0 ∨ 1000000 < zl) => (svcB_no HR.out (fun h => by have h1 := (svcB_of h).1.2.2.2.2.2.2 ⟨zs, zl⟩ (List.mem_of_getElem? HZ.out); simp only at h1; omega) : r = false))
            rcases c1 : decide (zs ≤ last) with _ | _
            rotate_left
            · obtain rfl : r = false := HNO.out (.inl (of_decide_eq_true c1))
              go_wp2_with (fail)
              rw [← hV]
              go_ret
              exact ⟨rfl, below_join HB.out HKV.out hle⟩
            rcases c2 : (zs == (k : Int)) with _ | _
            rotate_left
            · obtain rfl : r = false := HNO.out (.inr (.inr (eq_of_beq c2)))
              go_wp2_with (fail)
              rw [← hV]
              go_ret
              exact ⟨rfl, below_join HB.out HKV.out hle⟩
            rcases c3 : decide ((xs.length : Int) ≤ zs) with _ | _
            rotate_left
            · obtain rfl : r = false := HNO.out (.inr (.inl (of_decide_eq_true c3)))
              go_wp2_with (fail)
              rw [← hV]
              go_ret
              exact ⟨rfl, below_join HB.out HKV.out hle⟩
            rcases c4 : decide (zl < 0) with _ | _
            rotate_left
            · obtain rfl : r = false := HNL.out (.inl (of_decide_eq_true c4))
              go_wp2_with (fail)
              rw [← hV]
              go_ret
              exact ⟨rfl, below_join HB.out HKV.out hle⟩
            rcases c5 : decide ((1000000 : Int) < zl) with _ | _
            rotate_left
            · obtain rfl : r = false := HNL.out (.inr (of_decide_eq_true c5))
              go_wp2_with (fail)
              rw [← hV]
              go_ret
              exact ⟨rfl, below_join HB.out HKV.out hle⟩
            have HN := Lib.hid (show othB (k : Int) (xs.length : Int) (x.1.near.map (·.svc)) = othGo (k : Int) (xs.length : Int) zs ((x.1.near.map (·.svc)).drop (j + 1)) by rw [HD.out, othGo_cons_ok (fun h => h.elim (fun h => of_decide_eq_false c1 h) (fun h => h.elim (fun h => of_decide_eq_false c3 h) (fun h => (beq_eq_false_iff_ne.1 c2) h)))])
            have HLA := Lib.hid (show ∀ (i : Nat) n, i < j + 1 → x.1.near[i]? = some n → 0 ≤ n.lat ∧ n.lat ≤ 1000000 from fun i n hi hn => by
              rcases Nat.lt_or_ge i j with h | h
              · exact hla.out i n h hn
              · obtain rfl : i = j := by omega
                rw [HZ.out] at hn
                injection hn with hn
                subst hn
                have h1 := of_decide_eq_false c4
                have h2 := of_decide_eq_false c5
                simp only
                omega)
            go_wp2_with (fail)
            rw [← hV]
            clear hV
            go_roundw
            case rel => exact ⟨j + 1, zs, by omega, rfl, by go_num, HN, HLA, HKV⟩
            case measure => simp only [intOf]; omega
          · obtain rfl : j = x.1.near.length := by omega
            have HNP := Lib.hid (show othB (k : Int) (xs.length : Int) (x.1.near.map (·.svc)) = true by rw [hgo.out, List.drop_eq_nil_of_le (by simp)]; rfl)
            obtain rfl : true = r := by
              rw [← HR.out]
              obtain ⟨a1, a2, a3, a4, a5⟩ := HE.out
              refine (svcB_mk ⟨a1, a2, a3, a4, a5, HSQ.out, fun n hn => ?_⟩ HAP.out HNP.out).symm
              obtain ⟨i, hi⟩ := List.getElem?_of_mem hn
              exact hla.out i n (List.getElem?_eq_some_iff.1 hi).1 hi
            go_wp2_with (fail)
            go_ret
            exact ⟨rfl, below_join HB.out hK.out hle⟩
  · simp only [Bool.not_true] at e1
    rcases u0 with _ | _
    rotate_left
    · obtain rfl : r = false := HGO.out (by simp)
      go_enter Tryz.func73, Tryz.ntmps73
      go_wp2_with (fail)
      rw [← h1, ← h2]
      go_ret
      exact ⟨rfl, HB.out⟩
    have HSQ := Lib.hid (HSP.out.2.2 (by simp))
    go_enter Tryz.func73, Tryz.ntmps73
    go_wp2_with (fail)
    rw [← h1, ← h2]
    clear h1 h2 y0 y1 y2 y3 y4 y5 y6 y7 yg t0 t1 t2 t3 t4 t5 t6 t7 hd0 hd1 hd2 hd3 hd4 hd5 hd6 hd7 hd8 e0 e1 e2 e3 e4
    go_loopw [6, 7] (fun la i wr => ∃ (j : Nat) (last : Int), j ≤ x.1.apart.length ∧ la = .int .i64 last ∧ i = .int .i64 (j : Int) ∧ Hid (othB (k : Int) (xs.length : Int) x.1.apart = othGo (k : Int) (xs.length : Int) last (x.1.apart.drop j)) ∧ Hid (Below W.heap.size W wr)) (fun _ i _ => x.1.apart.length - (intOf i).toNat)
    case atStart => exact ⟨0, -1, Nat.zero_le _, rfl, rfl, Lib.hid rfl, KW⟩
    case round =>
      obtain ⟨j, last, hj, rfl, rfl, hgo, hK⟩ := hrel
      have hji : ((j : Nat) : Int).toNat = j := by omega
      obtain ⟨f0, f1, f2⟩ := HF.out wr hK.out
      by_cases hlt : j < x.1.apart.length
      · obtain ⟨z, hz⟩ : ∃ z, x.1.apart[j]? = some z := ⟨_, List.getElem?_eq_getElem hlt⟩
        have HK := (HS.out.on hK.out (Nat.le_refl _)).apart
        obtain ⟨b, o, ea, -, -⟩ := HK.at_ hz
        rw [ea] at HK f1
        have g0 := int_at HK hz
        have HD := Lib.hid (show othB (k : Int) (xs.length : Int) x.1.apart = othGo (k : Int) (xs.length : Int) last (z :: x.1.apart.drop (j + 1)) by rw [hgo.out, drop_at hz])
        have hjl : (j : Int) < (x.1.apart.length : Int) := by omega
        clear hz HK ea hgo
        rcases c1 : decide (z ≤ last) with _ | _
        · rcases c2 : (z == (k : Int)) with _ | _
          · rcases c3 : decide ((xs.length : Int) ≤ z) with _ | _
            · have HN := Lib.hid (show othB (k : Int) (xs.length : Int) x.1.apart = othGo (k : Int) (xs.length : Int) z (x.1.apart.drop (j + 1)) by rw [HD.out, othGo_cons_ok (fun h => h.elim (fun h => of_decide_eq_false c1 h) (fun h => h.elim (fun h => of_decide_eq_false c3 h) (fun h => (beq_eq_false_iff_ne.1 c2) h)))])
              go_wp2_with (fail)
              go_quiet (fail)
              go_wp2_with (fail)
              go_roundw
              case rel => exact ⟨j + 1, z, by omega, rfl, by go_num, HN, Lib.hid (below_drewN hK.out)⟩
              case measure => simp only [intOf]; omega
            · have HDD := Lib.hid (of_decide_eq_true c3)
              obtain rfl : r = false := svcB_no HR.out (fun h => by have h1 := (svcB_of h).2.1; rw [HD.out, othGo_cons_no (.inr (.inl HDD.out))] at h1; cases h1)
              go_wp2_with (fail)
              go_quiet (fail)
              go_wp2_with (fail)
              go_ret
              exact ⟨rfl, below_drewN (below_join HB.out hK.out hle)⟩
          · have HDD := Lib.hid (eq_of_beq c2)
            obtain rfl : r = false := svcB_no HR.out (fun h => by have h1 := (svcB_of h).2.1; rw [HD.out, othGo_cons_no (.inr (.inr HDD.out))] at h1; cases h1)
            go_wp2_with (fail)
            go_quiet (fail)
            go_wp2_with (fail)
            go_ret
            exact ⟨rfl, below_drewN (below_join HB.out hK.out hle)⟩
        · have HDD := Lib.hid (of_decide_eq_true c1)
          obtain rfl : r = false := svcB_no HR.out (fun h => by have h1 := (svcB_of h).2.1; rw [HD.out, othGo_cons_no (.inl HDD.out)] at h1; cases h1)
          go_wp2_with (fail)
          go_quiet (fail)
          go_wp2_with (fail)
          go_ret
          exact ⟨rfl, below_drewN (below_join HB.out hK.out hle)⟩
      · obtain rfl : j = x.1.apart.length := by omega
        have HAP := Lib.hid (show othB (k : Int) (xs.length : Int) x.1.apart = true by rw [hgo.out, List.drop_eq_nil_of_le (Nat.le_refl _)]; rfl)
        clear hgo
        go_wp2_with (fail)
        clear f0 f1 f2
        go_loopw [6, 8] (fun la i wr => ∃ (j : Nat) (last : Int), j ≤ x.1.near.length ∧ la = .int .i64 last ∧ i = .int .i64 (j : Int) ∧ Hid (othB (k : Int) (xs.length : Int) (x.1.near.map (·.svc)) = othGo (k : Int) (xs.length : Int) last ((x.1.near.map (·.svc)).drop j)) ∧ Hid (∀ (i : Nat) n, i < j → x.1.near[i]? = some n → 0 ≤ n.lat ∧ n.lat ≤ 1000000) ∧ Hid (Below W.heap.size W wr)) (fun _ i _ => x.1.near.length - (intOf i).toNat)
        case atStart => exact ⟨0, -1, Nat.zero_le _, rfl, rfl, Lib.hid rfl, Lib.hid (fun i n hi => absurd hi (by omega)), hK⟩
        case round =>
          obtain ⟨j, last, hj, rfl, rfl, hgo, hla, hK⟩ := hrel
          have hji : ((j : Nat) : Int).toNat = j := by omega
          obtain ⟨f0, f1, f2⟩ := HF.out wr hK.out
          by_cases hlt : j < x.1.near.length
          · obtain ⟨z, hz⟩ : ∃ z, x.1.near[j]? = some z := ⟨_, List.getElem?_eq_getElem hlt⟩
            obtain ⟨zs, zl, rfl⟩ := nr_split z
            have HK := (HS.out.on hK.out (Nat.le_refl _)).near
            obtain ⟨b, o, ea, -, -⟩ := HK.at_ hz
            rw [ea] at HK f2
            obtain ⟨g0, g1⟩ := near_at HK hz
            simp only at g0 g1
            have HD := Lib.hid (show othB (k : Int) (xs.length : Int) (x.1.near.map (·.svc)) = othGo (k : Int) (xs.length : Int) last (zs :: (x.1.near.map (·.svc)).drop (j + 1)) by rw [hgo.out, drop_at (show (x.1.near.map (·.svc))[j]? = some zs by simp [hz])])
            have hjl : (j : Int) < (x.1.near.length : Int) := by omega
            have HZ := Lib.hid hz
            obtain ⟨V, hV⟩ : ∃ V, V = wr.alloc (.cells #[.int .i64 zs, .int .i64 zl] 109) := ⟨_, rfl⟩
            have bV : Below wr.heap.size wr V := by subst hV; exact (Below.refl _ _).alloc (Nat.le_refl _) _
            have HKV := Lib.hid (below_join hK.out bV hK.out.size)
            have q0 : V.cell? ⟨wr.heap.size, 0, none⟩ = some (.int .i64 zs) := by subst hV; exact cell_of (box_new _ _ _) rfl
            have q1 : V.cell? ⟨wr.heap.size, 1, none⟩ = some (.int .i64 zl) := by subst hV; exact cell_of (box_new _ _ _) rfl
            obtain ⟨v0, -, -⟩ := HF.out V HKV.out
            rw [hV] at q0 q1 v0
            clear hz HK ea hgo bV
            have HNO := Lib.hid (fun (hn : zs ≤ last ∨ (xs.length : Int) ≤ zs ∨ zs = (k : Int)) => (svcB_no HR.out (fun h => by have h1 := (svcB_of h).2.2; rw [HD.out, othGo_cons_no hn] at h1; cases h1) : r = false))
            have HNL := Lib.hid (fun (hn : zl < 0 ∨ 1000000 < zl) => (svcB_no HR.out (fun h => by have h1 := (svcB_of h).1.2.2.2.2.2.2 ⟨zs, zl⟩ (List.mem_of_getElem? HZ.out); simp only at h1; omega) : r = false))
            rcases c1 : decide (zs ≤ last) with _ | _
            rotate_left
            · obtain rfl : r = false := HNO.out (.inl (of_decide_eq_true c1))
              go_wp2_with (fail)
              rw [← hV]
              go_ret
              exact ⟨rfl, below_join HB.out HKV.out hle⟩
            rcases c2 : (zs == (k : Int)) with _ | _
            rotate_left
            · obtain rfl : r = false := HNO.out (.inr (.inr (eq_of_beq c2)))
              go_wp2_with (fail)
              rw [← hV]
              go_ret
              exact ⟨rfl, below_join HB.out HKV.out hle⟩
            rcases c3 : decide ((xs.length : Int) ≤ zs) with _ | _
            rotate_left
            · obtain rfl : r = false := HNO.out (.inr (.inl (of_decide_eq_true c3)))
              go_wp2_with (fail)
              rw [← hV]
              go_ret
              exact ⟨rfl, below_join HB.out HKV.out hle⟩
            rcases c4 : decide (zl < 0) with _ | _
            rotate_left
            · obtain rfl : r = false := HNL.out (.inl (of_decide_eq_true c4))
              go_wp2_with (fail)
              rw [← hV]
              go_ret
              exact ⟨rfl, below_join HB.out HKV.out hle⟩
            rcases c5 : decide ((1000000 : Int) < zl) with _ | _
            rotate_left
            · obtain rfl : r = false := HNL.out (.inr (of_decide_eq_true c5))
              go_wp2_with (fail)
              rw [← hV]
              go_ret
              exact ⟨rfl, below_join HB.out HKV.out hle⟩
            have HN := Lib.hid (show othB (k : Int) (xs.length : Int) (x.1.near.map (·.svc)) = othGo (k : Int) (xs.length : Int) zs ((x.1.near.map (·.svc)).drop (j + 1)) by rw [HD.out, othGo_cons_ok (fun h => h.elim (fun h => of_decide_eq_false c1 h) (fun h => h.elim (fun h => of_decide_eq_false c3 h) (fun h => (beq_eq_false_iff_ne.1 c2) h)))])
            have HLA := Lib.hid (show ∀ (i : Nat) n, i < j + 1 → x.1.near[i]? = some n → 0 ≤ n.lat ∧ n.lat ≤ 1000000 from fun i n hi hn => by
              rcases Nat.lt_or_ge i j with h | h
              · exact hla.out i n h hn
              · obtain rfl : i = j := by omega
                rw [HZ.out] at hn
                injection hn with hn
                subst hn
                have h1 := of_decide_eq_false c4
                have h2 := of_decide_eq_false c5
                simp only
                omega)
            go_wp2_with (fail)
            rw [← hV]
            clear hV
            go_roundw
            case rel => exact ⟨j + 1, zs, by omega, rfl, by go_num, HN, HLA, HKV⟩
            case measure => simp only [intOf]; omega
          · obtain rfl : j = x.1.near.length := by omega
            have HNP := Lib.hid (show othB (k : Int) (xs.length : Int) (x.1.near.map (·.svc)) = true by rw [hgo.out, List.drop_eq_nil_of_le (by simp)]; rfl)
            obtain rfl : true = r := by
              rw [← HR.out]
              obtain ⟨a1, a2, a3, a4, a5⟩ := HE.out
              refine (svcB_mk ⟨a1, a2, a3, a4, a5, HSQ.out, fun n hn => ?_⟩ HAP.out HNP.out).symm
              obtain ⟨i, hi⟩ := List.getElem?_of_mem hn
              exact hla.out i n (List.getElem?_eq_some_iff.1 hi).1 hi
            go_wp2_with (fail)
            go_ret
            exact ⟨rfl, below_join HB.out hK.out hle⟩
end Go.Proofs.YtbbadnlaelgmlaaGreat

namespace Go.Proofs.YtbbadnlaelgmlaaGreat
open Go.RowKit
set_option maxRecDepth 100000
set_option linter.unusedVariables false
set_option linter.unusedSimpArgs false

set_option maxHeartbeats 16000000 in
theorem c_wrValidWish (A : Option Addr) (c : Nat) (xs : List (Svc × SvA)) (r : Bool) (hr : r = true ↔ WishOk (svs xs)) (w : World) (h : WiAt w A c xs) :
    Calls Tryz.prog 35 #[.agg #[.slice A xs.length c]] w fun e w' => e = .returned (.bool r) ∧ Below w.heap.size w w' := by
  obtain ⟨W, hW⟩ : ∃ W, W = w.alloc (.cells #[.slice A xs.length c] 32) := ⟨_, rfl⟩
  have B0 : Below w.heap.size w W := by subst hW; exact (Below.refl _ _).alloc (Nat.le_refl _) _
  have HB := Lib.hid B0
  have hle := B0.size
  have HX : W.heap[w.heap.size]? = some (.cells #[.slice A xs.length c] 32 (0, 0)) := by subst hW; exact box_new _ _ _
  have HF := Lib.hid (fun (X : World) (hX : Below W.heap.size W X) => (cell_of (box_on HX hX (Nat.le_refl _)) rfl : X.cell? ⟨w.heap.size, 0, none⟩ = some (.slice A xs.length c)))
  have x0 := HF.out W (Below.refl _ _)
  have H := Lib.hid (h.on B0 (Nat.le_refl _))
  have hc1 := h.row.1
  have hc2 := h.row.2.1
  unfold maxLen at hc2
  have hsl := svs_len xs
  have HR := Lib.hid hr
  clear hr h HX B0
  generalize hA : w.heap.size = B at *
  rw [hW] at x0
  by_cases h8 : xs.length ≤ 8
  · have hd8 : decide ((8 : Int) < (xs.length : Int)) = false := decide_eq_false (by omega)
    go_enter Tryz.func35, Tryz.ntmps35
    go_wp2_with (fail)
    rw [← hW]
    clear hW x0
    go_loopw [3, 4] (fun sm i wr => ∃ k : Nat, k ≤ xs.length ∧ sm = .int .i64 (sumR ((svs xs).take k)) ∧ i = .int .i64 (k : Int) ∧ Hid (∀ (i : Nat) s, i < k → (svs xs)[i]? = some s → svcB s i xs.length = true) ∧ Hid (Below W.heap.size W wr)) (fun _ i _ => xs.length - (intOf i).toNat)
    case atStart => exact ⟨0, Nat.zero_le _, rfl, rfl, Lib.hid (fun i s hi => absurd hi (by omega)), Lib.hid (Below.refl _ _)⟩
    case round =>
      obtain ⟨k, hk, rfl, rfl, hok, hK⟩ := hrel
      have hbd := sumR_bound (ss := svs xs) (k := k) (by omega) fun i s hi hs => keepB_reps (by have := hok.out i s hi hs; unfold svcB at this; rw [Bool.and_eq_true] at this; exact this.1)
      obtain ⟨sm, hsm⟩ : ∃ sm, sumR ((svs xs).take k) = sm := ⟨_, rfl⟩
      have HSM := Lib.hid hsm
      rw [hsm] at hbd ⊢
      clear hsm
      have x0 := HF.out wr hK.out
      by_cases hlt : k < xs.length
      · obtain ⟨x, hx⟩ : ∃ x, xs[k]? = some x := ⟨_, List.getElem?_eq_getElem hlt⟩
        have HXX := Lib.hid hx
        have HSV := Lib.hid (svs_at hx)
        have hki : ((k : Nat) : Int).toNat = k := by omega
        have hlt' : (k : Int) < ((xs.length : Nat) : Int) := by omega
        obtain ⟨q1, hq1⟩ : ∃ q, svcB x.1 (k : Int) (xs.length : Int) = q := ⟨_, rfl⟩
        have Q1 := Lib.hid hq1
        clear hq1 hx
        go_wp2_with (fail)
        go_at_call 73
        refine (c_service A c xs k x HXX.out q1 Q1.out wr (H.out.on hK.out (Nat.le_refl _))).mono ?_
        rintro e w1 ⟨rfl, b1⟩
        have K1 := Lib.hid (below_join hK.out b1 hK.out.size)
        clear b1 x0
        cases q1
        · obtain rfl : false = r := by
            rcases r with _ | _
            · rfl
            · exact absurd (HR.out.1 rfl) (wish_no HSV.out Q1.out)
          go_wp2_with (fail)
          go_ret
          exact ⟨rfl, below_join HB.out K1.out hle⟩
        · have x0 := HF.out w1 K1.out
          have HK := H.out.on K1.out (Nat.le_refl _)
          obtain ⟨pb, po, rfl, -, -⟩ := HK.row.at_ HXX.out
          obtain ⟨-, y1, -⟩ := sv_at HK.row HXX.out
          have hrp := keepB_reps (by have := Q1.out; unfold svcB at this; rw [Bool.and_eq_true] at this; exact this.1)
          have HN := Lib.hid (show sumR ((svs xs).take (k + 1)) = sm + x.1.reps by rw [sumR_take HSV.out, HSM.out])
          have HO := Lib.hid (show ∀ (i : Nat) s, i < k + 1 → (svs xs)[i]? = some s → svcB s i xs.length = true from fun i s hi hs => by
            rcases Nat.lt_or_ge i k with h | h
            · exact hok.out i s h hs
            · obtain rfl : i = k := by omega
              rw [HSV.out] at hs
              injection hs with hs
              subst hs
              exact Q1.out)
          clear HK
          go_wp2_with (fail)
          go_roundw
          case rel => exact ⟨k + 1, by omega, by rw [HN.out], by go_num, HO, K1⟩
          case measure => simp only [intOf]; omega
      · obtain rfl : k = xs.length := by omega
        have hd : decide (sm ≤ 24) = r := by
          have e : sumR (svs xs) = sm := by rw [← HSM.out, ← hsl, List.take_length]
          rw [Bool.eq_iff_iff, decide_eq_true_eq, HR.out, ← e]
          exact ⟨fun h => ⟨by omega, fun i s hs => by rw [hsl]; exact hok.out i s (by have := (List.getElem?_eq_some_iff.1 hs).1; omega) hs, h⟩, fun h => h.2.2⟩
        go_wp2_with (fail)
        go_ret
        exact ⟨rfl, below_join HB.out hK.out hle⟩
  · have hd8 : decide ((8 : Int) < (xs.length : Int)) = true := decide_eq_true (by omega)
    obtain rfl : false = r := by
      rcases r with _ | _
      · rfl
      · exact absurd (HR.out.1 rfl).1 (by omega)
    go_enter Tryz.func35, Tryz.ntmps35
    go_wp2_with (fail)
    go_ret
    rw [← hW]
    exact ⟨rfl, HB.out⟩
theorem no_of {P : Prop} {r : Bool} (hr : r = true ↔ P) (h : ¬ P) : r = false := by
  rcases r with _ | _
  · rfl
  · exact absurd (hr.1 rfl) h
set_option maxHeartbeats 32000000 in
theorem c_wrValid (p : SP) (s : SiteD) (A : Option Addr) (c : Nat) (xs : List (Svc × SvA)) (q : WP) (d : WorldD) (r : Bool) (hr : r = true ↔ WorldOk s (svs xs) d) (w : World) (hs : SiAt w p s) (hx : WiAt w A c xs) (hd : WoAt w q d) :
    Calls Tryz.prog 21 #[siV p s, .agg #[.slice A xs.length c], .agg (woA q d)] w fun e w' => e = .returned (.bool r) ∧ Below w.heap.size w w' := by
  unfold siV woA
  obtain ⟨W1, h1⟩ : ∃ W, W = w.alloc (.cells #[.slice p.a1 s.feeds.length p.c1, .slice p.a2 s.brks.length p.c2, .slice p.a3 s.loops.length p.c3, .slice p.a4 s.racks.length p.c4, .int .i64 s.sw, .slice p.a5 s.links.length p.c5, .slice p.a6 s.hosts.length p.c6] 29) := ⟨_, rfl⟩
  obtain ⟨W2, h2⟩ : ∃ W, W = W1.alloc (.cells #[.slice A xs.length c] 32) := ⟨_, rfl⟩
  obtain ⟨W, h3⟩ : ∃ W, W = W2.alloc (.cells (woA q d) 36) := ⟨_, rfl⟩
  obtain ⟨B0, X1, X2, X3⟩ := three_boxes h1 h2 h3
  have HB := Lib.hid B0
  have HS := Lib.hid (hs.on B0 (Nat.le_refl _))
  have HX := Lib.hid (hx.on B0 (Nat.le_refl _))
  have HD := Lib.hid (hd.on B0 (Nat.le_refl _))
  have HF := Lib.hid (fun (X : World) (hX : Below W.heap.size W X) => (⟨cell_of (box_on X1 hX (Nat.le_refl _)) rfl, cell_of (box_on X1 hX (Nat.le_refl _)) rfl, cell_of (box_on X1 hX (Nat.le_refl _)) rfl, cell_of (box_on X1 hX (Nat.le_refl _)) rfl, cell_of (box_on X1 hX (Nat.le_refl _)) rfl, cell_of (box_on X1 hX (Nat.le_refl _)) rfl, cell_of (box_on X1 hX (Nat.le_refl _)) rfl, cell_of (box_on X2 hX (Nat.le_refl _)) rfl, cell_of (box_on X3 hX (Nat.le_refl _)) rfl, cell_of (box_on X3 hX (Nat.le_refl _)) rfl⟩ : X.cell? ⟨w.heap.size, 0, none⟩ = some (.slice p.a1 s.feeds.length p.c1) ∧ X.cell? ⟨w.heap.size, 1, none⟩ = some (.slice p.a2 s.brks.length p.c2) ∧ X.cell? ⟨w.heap.size, 2, none⟩ = some (.slice p.a3 s.loops.length p.c3) ∧ X.cell? ⟨w.heap.size, 3, none⟩ = some (.slice p.a4 s.racks.length p.c4) ∧ X.cell? ⟨w.heap.size, 4, none⟩ = some (.int .i64 s.sw) ∧ X.cell? ⟨w.heap.size, 5, none⟩ = some (.slice p.a5 s.links.length p.c5) ∧ X.cell? ⟨w.heap.size, 6, none⟩ = some (.slice p.a6 s.hosts.length p.c6) ∧ X.cell? ⟨w.heap.size + 1, 0, none⟩ = some (.slice A xs.length c) ∧ X.cell? ⟨w.heap.size + 1 + 1, 0, none⟩ = some (.slice q.a1 d.hosts.length q.c1) ∧ X.cell? ⟨w.heap.size + 1 + 1, 1, none⟩ = some (.slice q.a2 d.reps.length q.c2)))
  have n1 := hd.hosts.1; have n2 := hd.hosts.2.1; have n3 := hd.reps.1; have n4 := hd.reps.2.1; have n5 := hs.hosts.1; have n6 := hs.hosts.2.1; have n7 := hx.row.1; have n8 := hx.row.2.1
  unfold maxLen at n2 n4 n6 n8
  have HR := Lib.hid hr
  have KW := Lib.hid (Below.refl W.heap.size W)
  have hle : w.heap.size ≤ W.heap.size := B0.size
  have HSL := Lib.hid (svs_len xs)
  clear B0 hr hs hx hd X1 X2 X3
  obtain ⟨f0, f1, f2, f3, f4, f5, f6, g0, g1, g2⟩ := HF.out W KW.out
  unfold woA at h3
  rw [h3, h2, h1] at f0 f1 f2 f3 f4 f5 f6 g0 g1 g2
  generalize hA : w.heap.size = B at *
  go_enter Tryz.func21, Tryz.ntmps21
  go_wp2_with (fail)
  rw [← h1, ← h2, ← h3] at f0 f1 f2 f3 f4 f5 f6 g0 g1 g2 ⊢
  clear h1 h2 h3
  obtain ⟨q0, h0⟩ : ∃ b, siteOk s = b := ⟨_, rfl⟩
  have Q0 := Lib.hid h0
  clear h0
  go_at_call 34
  refine (c_srValid p s q0 Q0.out W HS.out).mono ?_
  rintro e w1 ⟨rfl, b1⟩
  have K1 := Lib.hid b1
  clear b1
  clear f0 f1 f2 f3 f4 f5 f6 g0 g1 g2
  obtain ⟨f0, f1, f2, f3, f4, f5, f6, g0, g1, g2⟩ := HF.out w1 K1.out
  cases q0
  · obtain rfl : r = false := no_of HR.out (fun h => by have := h.1; rw [Q0.out] at this; cases this)
    go_wp2_with (fail)
    go_ret
    exact ⟨rfl, below_join HB.out K1.out hle⟩
  go_wp2_with (fail)
  obtain ⟨q1, h1⟩ : ∃ b : Bool, b = true ↔ WishOk (svs xs) := by
    by_cases h : WishOk (svs xs)
    · exact ⟨true, by simp [h]⟩
    · exact ⟨false, by simp [h]⟩
  have Q1 := Lib.hid h1
  clear h1
  go_at_call 35
  refine (c_wrValidWish A c xs q1 Q1.out w1 (HX.out.on K1.out (Nat.le_refl _))).mono ?_
  rintro e w2 ⟨rfl, b2⟩
  have K2 := Lib.hid (below_join K1.out b2 K1.out.size)
  clear b2
  clear f0 f1 f2 f3 f4 f5 f6 g0 g1 g2
  obtain ⟨f0, f1, f2, f3, f4, f5, f6, g0, g1, g2⟩ := HF.out w2 K2.out
  cases q1
  · obtain rfl : r = false := no_of HR.out (fun h => by have := Q1.out.2 h.2.1; cases this)
    go_wp2_with (fail)
    go_ret
    exact ⟨rfl, below_join HB.out K2.out hle⟩
  rcases h2 : ((d.hosts.length : Int) != (s.hosts.length : Int)) with _ | _
  rotate_left
  · have Q2 := Lib.hid h2
    obtain rfl : r = false := no_of HR.out (fun h => by have e := h.2.2.1; have := Q2.out; rw [e] at this; simp at this)
    go_wp2_with (fail)
    go_ret
    exact ⟨rfl, below_join HB.out K2.out hle⟩
  have Q2 := Lib.hid (show d.hosts.length = s.hosts.length by rw [bne_eq_false_iff_eq] at h2; omega)
  rcases h4 : decide ((24 : Int) < (d.reps.length : Int)) with _ | _
  rotate_left
  · have Q4 := Lib.hid h4
    obtain rfl : r = false := no_of HR.out (fun h => by have e := h.2.2.2.2.1; have := of_decide_eq_true Q4.out; omega)
    go_wp2_with (fail)
    go_ret
    exact ⟨rfl, below_join HB.out K2.out hle⟩
  have Q4 := Lib.hid (show d.reps.length ≤ 24 by have := of_decide_eq_false h4; omega)
  go_wp2_with (fail)
  clear h2 h4
  obtain ⟨q6, h6⟩ : ∃ b, ascB d.reps = b := ⟨_, rfl⟩
  have Q6 := Lib.hid h6
  clear h6
  go_at_call 36
  refine (c_Ascending q.a2 q.c2 d.reps q6 Q6.out w2 (HD.out.on K2.out (Nat.le_refl _)).reps).mono ?_
  rintro e w3 ⟨rfl, b3⟩
  have K3 := Lib.hid (below_join K2.out b3 K2.out.size)
  clear b3
  clear f0 f1 f2 f3 f4 f5 f6 g0 g1 g2
  obtain ⟨f0, f1, f2, f3, f4, f5, f6, g0, g1, g2⟩ := HF.out w3 K3.out
  cases q6
  · obtain rfl : r = false := no_of HR.out (fun h => by have e := h.2.2.2.2.2.2; rw [Q6.out] at e; cases e)
    go_wp2_with (fail)
    go_ret
    exact ⟨rfl, below_join HB.out K3.out hle⟩
  have HOW := Lib.hid (Q1.out.1 (by trivial))
  go_wp2_with (fail)
  clear f0 f1 f2 f3 f4 f5 f6 g0 g1 g2
  go_loopw [7] (fun i wr => ∃ k : Nat, k ≤ d.hosts.length ∧ i = .int .i64 (k : Int) ∧ Hid (∀ (j : Nat) x, j < k → d.hosts[j]? = some x → hstOk x = true) ∧ Hid (Below W.heap.size W wr)) (fun i _ => d.hosts.length - (intOf i).toNat)
  case atStart => exact ⟨0, Nat.zero_le _, rfl, Lib.hid (fun j x hj => absurd hj (by omega)), K3⟩
  case round =>
    obtain ⟨k, hk, rfl, hok, hK⟩ := hrel
    have hki : ((k : Nat) : Int).toNat = k := by omega
    obtain ⟨-, -, -, -, -, -, f6, g0, g1, g2⟩ := HF.out wr hK.out
    by_cases hlt : k < d.hosts.length
    · obtain ⟨⟨ph, fw⟩, hx⟩ : ∃ x, d.hosts[k]? = some x := ⟨_, List.getElem?_eq_getElem hlt⟩
      have HK := (HD.out.on hK.out (Nat.le_refl _)).hosts
      obtain ⟨b, o, ea, -, -⟩ := HK.at_ hx
      rw [ea] at HK g1
      obtain ⟨y0, y1⟩ := hst_at HK hx
      simp only at y0 y1
      have hkl : (k : Int) < (d.hosts.length : Int) := by omega
      have HXX := Lib.hid hx
      have HNO := Lib.hid (fun (hn : hstOk ⟨ph, fw⟩ = false) => (no_of HR.out (fun h => by have h1 := h.2.2.2.1 _ (List.mem_of_getElem? HXX.out); rw [hn] at h1; cases h1) : r = false))
      clear hx HK ea
      rcases c1 : decide ((4 : Int) < (ph : Int)) with _ | _
      rotate_left
      · obtain rfl : r = false := HNO.out (by unfold hstOk; rw [decide_eq_false (show ¬ ph ≤ 4 by have := of_decide_eq_true c1; omega)]; rfl)
        go_wp2_with (fail)
        go_ret
        exact ⟨rfl, below_join HB.out hK.out hle⟩
      rcases c2 : decide (fw < 0) with _ | _
      rotate_left
      · obtain rfl : r = false := HNO.out (by unfold hstOk inB; rw [decide_eq_false (show ¬ (0 ≤ fw) by have := of_decide_eq_true c2; omega)]; simp)
        go_wp2_with (fail)
        go_ret
        exact ⟨rfl, below_join HB.out hK.out hle⟩
      rcases c3 : decide ((1000000 : Int) < fw) with _ | _
      rotate_left
      · obtain rfl : r = false := HNO.out (by unfold hstOk inB; rw [decide_eq_false (show ¬ (fw ≤ 1000000) by have := of_decide_eq_true c3; omega)]; simp)
        go_wp2_with (fail)
        go_ret
        exact ⟨rfl, below_join HB.out hK.out hle⟩
      have HO := Lib.hid (show ∀ (j : Nat) x, j < k + 1 → d.hosts[j]? = some x → hstOk x = true from fun j z hj hz => by
        rcases Nat.lt_or_ge j k with h | h
        · exact hok.out j z h hz
        · obtain rfl : j = k := by omega
          rw [HXX.out] at hz
          injection hz with hz
          subst hz
          have e1 := of_decide_eq_false c1
          have e2 := of_decide_eq_false c2
          have e3 := of_decide_eq_false c3
          unfold hstOk
          rw [Bool.and_eq_true, inB_iff, decide_eq_true_eq]
          simp only
          omega)
      go_wp2_with (fail)
      go_roundw
      case rel => exact ⟨k + 1, by omega, by go_num, HO, hK⟩
      case measure => simp only [intOf]; omega
    · obtain rfl : k = d.hosts.length := by omega
      have HHO := Lib.hid (show ∀ h ∈ d.hosts, hstOk h = true from fun h hh => by
        obtain ⟨i, hi⟩ := List.getElem?_of_mem hh
        exact hok.out i h (List.getElem?_eq_some_iff.1 hi).1 hi)
      go_wp2_with (fail)
      clear f6 g0 g1 g2
      go_loopw [8] (fun i wr => ∃ k : Nat, k ≤ d.reps.length ∧ i = .int .i64 (k : Int) ∧ Hid (∀ (j : Nat) x, j < k → d.reps[j]? = some x → repOk xs.length s.hosts.length x = true) ∧ Hid (Below W.heap.size W wr)) (fun i _ => d.reps.length - (intOf i).toNat)
      case atStart => exact ⟨0, Nat.zero_le _, rfl, Lib.hid (fun j x hj => absurd hj (by omega)), hK⟩
      case round =>
        obtain ⟨k, hk, rfl, hok, hK⟩ := hrel
        have hki : ((k : Nat) : Int).toNat = k := by omega
        obtain ⟨-, -, -, -, -, -, f6, g0, g1, g2⟩ := HF.out wr hK.out
        by_cases hlt : k < d.reps.length
        · obtain ⟨⟨sv, ho⟩, hx⟩ : ∃ x, d.reps[k]? = some x := ⟨_, List.getElem?_eq_getElem hlt⟩
          have HK := (HD.out.on hK.out (Nat.le_refl _)).reps
          obtain ⟨b, o, ea, -, -⟩ := HK.at_ hx
          rw [ea] at HK g2
          obtain ⟨y0, y1⟩ := rep_at HK hx
          simp only at y0 y1
          have hkl : (k : Int) < (d.reps.length : Int) := by omega
          have HXX := Lib.hid hx
          have HNO := Lib.hid (fun (hn : ¬ repOk xs.length s.hosts.length ⟨sv, ho⟩ = true) => (no_of HR.out (fun h => by have h1 := h.2.2.2.2.2.1 _ (List.mem_of_getElem? HXX.out); rw [HSL.out] at h1; exact hn h1) : r = false))
          obtain ⟨V, hV⟩ : ∃ V, V = wr.alloc (.cells #[.int .i64 sv, .int .i64 ho] 53) := ⟨_, rfl⟩
          have bV : Below wr.heap.size wr V := by subst hV; exact (Below.refl _ _).alloc (Nat.le_refl _) _
          have HKV := Lib.hid (below_join hK.out bV hK.out.size)
          have q0 : V.cell? ⟨wr.heap.size, 0, none⟩ = some (.int .i64 sv) := by subst hV; exact cell_of (box_new _ _ _) rfl
          have q1 : V.cell? ⟨wr.heap.size, 1, none⟩ = some (.int .i64 ho) := by subst hV; exact cell_of (box_new _ _ _) rfl
          obtain ⟨-, -, -, -, -, -, u6, v0, -, -⟩ := HF.out V HKV.out
          rw [hV] at q0 q1 u6 v0
          clear hx HK ea bV
          rcases c1 : decide (sv < 0) with _ | _
          rotate_left
          · obtain rfl : r = false := HNO.out (fun h => by unfold repOk at h; rw [Bool.and_eq_true, ixB_iff, ixB_iff] at h; have := of_decide_eq_true c1; simp only at h; omega)
            go_wp2_with (fail)
            rw [← hV]
            go_ret
            exact ⟨rfl, below_join HB.out HKV.out hle⟩
          rcases c2 : decide ((xs.length : Int) ≤ sv) with _ | _
          rotate_left
          · obtain rfl : r = false := HNO.out (fun h => by unfold repOk at h; rw [Bool.and_eq_true, ixB_iff, ixB_iff] at h; have := of_decide_eq_true c2; simp only at h; omega)
            go_wp2_with (fail)
            rw [← hV]
            go_ret
            exact ⟨rfl, below_join HB.out HKV.out hle⟩
          rcases c3 : decide (ho < 0) with _ | _
          rotate_left
          · obtain rfl : r = false := HNO.out (fun h => by unfold repOk at h; rw [Bool.and_eq_true, ixB_iff, ixB_iff] at h; have := of_decide_eq_true c3; simp only at h; omega)
            go_wp2_with (fail)
            rw [← hV]
            go_ret
            exact ⟨rfl, below_join HB.out HKV.out hle⟩
          rcases c4 : decide ((s.hosts.length : Int) ≤ ho) with _ | _
          rotate_left
          · obtain rfl : r = false := HNO.out (fun h => by unfold repOk at h; rw [Bool.and_eq_true, ixB_iff, ixB_iff] at h; have := of_decide_eq_true c4; simp only at h; omega)
            go_wp2_with (fail)
            rw [← hV]
            go_ret
            exact ⟨rfl, below_join HB.out HKV.out hle⟩
          have HO := Lib.hid (show ∀ (j : Nat) x, j < k + 1 → d.reps[j]? = some x → repOk xs.length s.hosts.length x = true from fun j z hj hz => by
            rcases Nat.lt_or_ge j k with h | h
            · exact hok.out j z h hz
            · obtain rfl : j = k := by omega
              rw [HXX.out] at hz
              injection hz with hz
              subst hz
              have e1 := of_decide_eq_false c1
              have e2 := of_decide_eq_false c2
              have e3 := of_decide_eq_false c3
              have e4 := of_decide_eq_false c4
              unfold repOk
              rw [Bool.and_eq_true, ixB_iff, ixB_iff]
              simp only
              omega)
          go_wp2_with (fail)
          rw [← hV]
          clear hV
          go_roundw
          case rel => exact ⟨k + 1, by omega, by go_num, HO, HKV⟩
          case measure => simp only [intOf]; omega
        · obtain rfl : k = d.reps.length := by omega
          obtain rfl : true = r := by
            refine (HR.out.2 ⟨Q0.out, HOW.out, Q2.out, HHO.out, Q4.out, fun x hx => ?_, Q6.out⟩).symm
            obtain ⟨i, hi⟩ := List.getElem?_of_mem hx
            rw [HSL.out]
            exact hok.out i x (List.getElem?_eq_some_iff.1 hi).1 hi
          go_wp2_with (fail)
          go_ret
          exact ⟨rfl, below_join HB.out hK.out hle⟩
end Go.Proofs.YtbbadnlaelgmlaaGreat

namespace Go.Proofs.YtbbadnlaelgmlaaGreat
set_option linter.unusedVariables false
set_option linter.unusedSimpArgs false

theorem sumN_le {f g : Nat → Int} : ∀ {n : Nat}, (∀ i, i < n → f i ≤ g i) → sumN f n ≤ sumN g n := by
  intro n
  induction n with
  | zero => intro _; exact Int.le_refl _
  | succ n ih =>
    intro h
    have h1 := ih fun i hi => h i (by omega)
    have h2 := h n (by omega)
    rw [sumN, sumN]; omega
theorem sumN_mul (c : Int) (f : Nat → Int) (n : Nat) : sumN (fun i => c * f i) n = c * sumN f n := by
  induction n with
  | zero => simp [sumN]
  | succ n ih => rw [sumN, sumN, ih, Int.mul_add]
/-- Sums in either order. -/
theorem sumN_swap (f : Nat → Nat → Int) (n m : Nat) : sumN (fun i => sumN (fun j => f i j) m) n = sumN (fun j => sumN (fun i => f i j) n) m := by
  induction n with
  | zero => simp only [sumN]; exact (sumN_zero m).symm
  | succ n ih => rw [sumN, ih, ← sumN_add]; rfl
theorem sumN_if (c : Prop) [Decidable c] (f : Nat → Int) (n : Nat) : (if c then sumN f n else 0) = sumN (fun i => if c then f i else 0) n := by
  split
  · rfl
  · exact (sumN_zero n).symm
theorem sumN_at {f : Nat → Int} {a n : Nat} (ha : a < n) (hf : ∀ i, i < n → i ≠ a → f i = 0) : sumN f n = f a := by
  have h1 : sumN f n = sumN (fun i => if a = i then f a else 0) n := sumN_ext fun i hi => by
    by_cases e : a = i
    · subst e; rw [if_pos rfl]
    · rw [if_neg e]; exact hf i hi (fun h => e h.symm)
  rw [h1, sumN_one, if_pos ha]
/-- What is summed by groups is summed. -/
theorem sumN_group (c : Nat → Bool) (g : Nat → Int) (w : Nat → Int) (n m : Nat) (hg : ∀ h, h < n → 0 ≤ g h ∧ g h < m) :
    sumN (fun j => if c j = true then sumN (fun h => if g h = (j : Int) then w h else 0) n else 0) m = sumN (fun h => if c (g h).toNat = true then w h else 0) n := by
  rw [sumN_ext (g := fun j => sumN (fun h => if c j = true then (if g h = (j : Int) then w h else 0) else 0) n) (fun j _ => sumN_if _ _ _), sumN_swap]
  refine sumN_ext fun h hh => ?_
  have hb := hg h hh
  rw [sumN_at (a := (g h).toNat) (by omega) (fun j hj hne => by
    split
    · rw [if_neg (by omega)]
    · rfl)]
  split
  · rw [if_pos (by omega)]
  · rfl
/-- The watts of a host. -/
def hsAt (s : SiteD) (h : Nat) : Hs := (s.hosts[h]?).getD ⟨0, 0, 0, 0⟩
def phAt (d : WorldD) (h : Nat) : Nat := ((d.hosts[h]?).map (·.phase)).getD 0
def watN (s : SiteD) (ss : List Svc) (d : WorldD) (h : Nat) : Int := if phAt d h = 4 then 0 else (hsAt s h).idle + (hsAt s h).per * usedD ss d.reps (h : Int)
def brkAt (s : SiteD) (h : Nat) : Int := (rkAt s h).brk
/-- The sum over the hosts that belong to it. -/
def loadN (s : SiteD) (ss : List Svc) (d : WorldD) (b : Nat → Bool) : Int := sumN (fun h => if b h = true then watN s ss d h else 0) s.hosts.length
def isHost (k : Int) (h : Nat) : Bool := (h : Int) == k
def isRack (s : SiteD) (k : Int) (h : Nat) : Bool := rackAt s h == k
def isBrk (s : SiteD) (k : Int) (h : Nat) : Bool := brkAt s h == k
def isFeed (s : SiteD) (k : Int) (h : Nat) : Bool := feedAt s h == k
theorem hsAt_eq {s : SiteD} {h : Nat} {x : Hs} (hx : s.hosts[h]? = some x) : hsAt s h = x := by unfold hsAt; rw [hx]; rfl
theorem phAt_eq {d : WorldD} {h : Nat} {x : Hst} (hx : d.hosts[h]? = some x) : phAt d h = x.phase := by unfold phAt; rw [hx]; rfl
section
variable {s : SiteD} {ss : List Svc} {d : WorldD}
theorem host_ok (ok : WorldOk s ss d) {h : Nat} (hh : h < s.hosts.length) : ∃ x y, s.hosts[h]? = some x ∧ d.hosts[h]? = some y ∧ (0 ≤ x.rack ∧ x.rack < s.racks.length) ∧ (0 ≤ x.idle ∧ x.idle ≤ 10000) ∧ (0 ≤ x.per ∧ x.per ≤ 1000) := by
  have h1 := siteOk_iff.1 ok.1
  have hl := ok.2.2.1
  have hm := h1.hosts _ (List.getElem_mem hh)
  exact ⟨_, _, List.getElem?_eq_getElem hh, List.getElem?_eq_getElem (by omega), hm.1, hm.2.2.1, hm.2.2.2⟩
theorem used_bd (ok : WorldOk s ss d) (h : Int) : 0 ≤ usedD ss d.reps h ∧ usedD ss d.reps h ≤ 24000 := (sums_ok ok).2.2.1 h
theorem used_sum (ok : WorldOk s ss d) : sumN (fun i => usedD ss d.reps i) s.hosts.length ≤ 24000 := by
  obtain ⟨h1, h2, -, h4⟩ := sums_ok ok
  rw [← h2]
  have h5 : sumN (fun i => (((whereD d.reps i).length : Nat) : Int) * coresAt ss i) ss.length ≤ sumN (fun i => 1000 * (((whereD d.reps i).length : Nat) : Int)) ss.length := sumN_le fun i hi => by
    have := h4 i hi
    rw [Int.mul_comm 1000]
    exact Int.mul_le_mul_of_nonneg_left this.2 (by omega)
  rw [sumN_mul, h1] at h5
  have := ok.2.2.2.2.1
  omega
/-- How great the watts of a host can be. -/
def capN (ss : List Svc) (d : WorldD) (h : Nat) : Int := 10000 + 1000 * usedD ss d.reps (h : Int)
theorem wat_bd (ok : WorldOk s ss d) {h : Nat} (hh : h < s.hosts.length) : 0 ≤ watN s ss d h ∧ watN s ss d h ≤ capN ss d h ∧ watN s ss d h ≤ 24010000 := by
  obtain ⟨x, y, hx, hy, -, h2, h3⟩ := host_ok ok hh
  have hu := used_bd ok (h : Int)
  unfold watN capN
  rw [hsAt_eq hx]
  have p1 : 0 ≤ x.per * usedD ss d.reps (h : Int) := Int.mul_nonneg h3.1 hu.1
  have p2 : x.per * usedD ss d.reps (h : Int) ≤ 1000 * usedD ss d.reps (h : Int) := Int.mul_le_mul_of_nonneg_right h3.2 hu.1
  split <;> omega
theorem cap_sum (ok : WorldOk s ss d) : sumN (capN ss d) s.hosts.length ≤ 24160000 := by
  have h0 : sumN (capN ss d) s.hosts.length = sumN (fun _ => 10000) s.hosts.length + 1000 * sumN (fun h => usedD ss d.reps (h : Int)) s.hosts.length := by
    rw [← sumN_mul, ← sumN_add]; rfl
  have h1 := used_sum ok
  have h2 := (siteOk_iff.1 ok.1).nhosts
  have h3 := sumN_bound (f := fun _ => 10000) (m := 10000) (n := s.hosts.length) (fun _ _ => ⟨by omega, by omega⟩)
  omega
/-- A load is at least 0 and less than the greatest capacity of an arc. -/
theorem load_bd (ok : WorldOk s ss d) (b : Nat → Bool) : 0 ≤ loadN s ss d b ∧ loadN s ss d b ≤ 24160000 := by
  unfold loadN
  have h1 := sumN_bound (f := fun h => if b h = true then watN s ss d h else 0) (m := 24010000) (n := s.hosts.length) (fun i hi => by have := wat_bd ok hi; split <;> omega)
  have h2 := sumN_le (f := fun h => if b h = true then watN s ss d h else 0) (g := capN ss d) (n := s.hosts.length) (fun i hi => by have := wat_bd ok hi; have := used_bd ok (i : Int); unfold capN at *; split <;> omega)
  have h3 := cap_sum ok
  exact ⟨h1.1, by omega⟩
/-- The sums so far. -/
theorem part_bd (ok : WorldOk s ss d) (b : Nat → Bool) {k : Nat} (hk : k ≤ s.hosts.length) : 0 ≤ sumN (fun h => if b h = true then watN s ss d h else 0) k ∧ sumN (fun h => if b h = true then watN s ss d h else 0) k ≤ 400000000 := by
  have h1 := sumN_bound (f := fun h => if b h = true then watN s ss d h else 0) (m := 24010000) (n := k) (fun i hi => by have := wat_bd ok (h := i) (by omega); split <;> omega)
  have h2 := (siteOk_iff.1 ok.1).nhosts
  exact ⟨h1.1, by omega⟩
theorem load_host (k : Int) : loadN s ss d (isHost k) = if 0 ≤ k ∧ k < s.hosts.length then watN s ss d k.toNat else 0 := by
  unfold loadN
  split
  · rename_i h
    rw [sumN_at (a := k.toNat) (by omega) (fun i hi hne => by rw [if_neg]; unfold isHost; simp; omega), if_pos]
    unfold isHost; simp; omega
  · rename_i h
    rw [sumN_ext (g := fun _ => 0) (fun i hi => by rw [if_neg]; unfold isHost; simp; omega), sumN_zero]
theorem rack_in (ok : WorldOk s ss d) {h : Nat} (hh : h < s.hosts.length) : 0 ≤ rackAt s h ∧ rackAt s h < s.racks.length := by
  obtain ⟨x, y, hx, -, h1, -⟩ := host_ok ok hh
  unfold rackAt; rw [hx]; exact h1
theorem rk_in (ok : WorldOk s ss d) {h : Nat} (hh : h < s.hosts.length) : s.racks[(rackAt s h).toNat]? = some (rkAt s h) := by
  have := rack_in ok hh
  unfold rkAt
  rw [List.getElem?_eq_getElem (show (rackAt s h).toNat < s.racks.length by omega)]; rfl
theorem brk_in (ok : WorldOk s ss d) {h : Nat} (hh : h < s.hosts.length) : 0 ≤ brkAt s h ∧ brkAt s h < s.brks.length := by
  have h1 := (siteOk_iff.1 ok.1).racks _ (List.mem_of_getElem? (rk_in ok hh))
  exact h1.2.1
/-- The breaker of a rack, the feed of a breaker, by number. -/
def rkB (s : SiteD) (i : Nat) : Int := ((s.racks[i]?).map (·.brk)).getD 0
def bkF (s : SiteD) (i : Nat) : Int := ((s.brks[i]?).map (·.feed)).getD 0
theorem rkB_at (ok : WorldOk s ss d) {h : Nat} (hh : h < s.hosts.length) : rkB s (rackAt s h).toNat = brkAt s h := by
  unfold rkB brkAt; rw [rk_in ok hh]; rfl
theorem bkF_at (s : SiteD) (h : Nat) : bkF s (brkAt s h).toNat = feedAt s h := rfl
/-- The load of a breaker is the sum over its racks. -/
theorem load_brk (ok : WorldOk s ss d) (k : Int) : sumN (fun i => if rkB s i = k then loadN s ss d (isRack s (i : Int)) else 0) s.racks.length = loadN s ss d (isBrk s k) := by
  have h1 := sumN_group (fun i => rkB s i == k) (rackAt s) (watN s ss d) s.hosts.length s.racks.length (fun h hh => rack_in ok hh)
  unfold loadN isRack isBrk
  simp only [beq_iff_eq] at h1 ⊢
  rw [h1]
  exact sumN_ext fun h hh => by rw [rkB_at ok hh]
/-- The load of a feed is the sum over its breakers. -/
theorem load_feed (ok : WorldOk s ss d) (k : Int) : sumN (fun i => if bkF s i = k then loadN s ss d (isBrk s (i : Int)) else 0) s.brks.length = loadN s ss d (isFeed s k) := by
  have h1 := sumN_group (fun i => bkF s i == k) (brkAt s) (watN s ss d) s.hosts.length s.brks.length (fun h hh => brk_in ok hh)
  unfold loadN isBrk isFeed
  simp only [beq_iff_eq] at h1 ⊢
  rw [h1]
  exact sumN_ext fun h hh => by rw [bkF_at]
end
end Go.Proofs.YtbbadnlaelgmlaaGreat

namespace Go.Proofs.YtbbadnlaelgmlaaGreat
open Go.RowKit
set_option maxRecDepth 100000
set_option linter.unusedVariables false
set_option linter.unusedSimpArgs false

structure Sn where
  p : SP
  s : SiteD
  A : Option Addr
  c : Nat
  xs : List (Svc × SvA)
  q : WP
  d : WorldD
def Sn.ss (z : Sn) : List Svc := svs z.xs
structure SnAt (w : World) (z : Sn) : Prop where
  si : SiAt w z.p z.s
  wi : WiAt w z.A z.c z.xs
  wo : WoAt w z.q z.d
theorem SnAt.on {w w' : World} {z : Sn} {B : Nat} (h : SnAt w z) (hb : Below B w w') (hB : w.heap.size ≤ B) : SnAt w' z := ⟨h.si.on hb hB, h.wi.on hb hB, h.wo.on hb hB⟩
theorem SnAt.drew {w : World} {z : Sn} (h : SnAt w z) : SnAt w.drew z := h.on (Below.refl _ _).drew (Nat.le_refl _)
def Sn.Ok (z : Sn) : Prop := WorldOk z.s z.ss z.d
theorem SnAt.bounds {w : World} {z : Sn} (h : SnAt w z) : z.s.hosts.length ≤ 9223372036854775807 ∧ z.s.racks.length ≤ 9223372036854775807 ∧ z.s.brks.length ≤ 9223372036854775807 ∧ z.s.feeds.length ≤ 9223372036854775807 ∧ z.d.hosts.length ≤ 9223372036854775807 ∧ z.d.reps.length ≤ 9223372036854775807 ∧ z.xs.length ≤ 9223372036854775807 ∧ z.s.loops.length ≤ 9223372036854775807 := by
  have a1 := h.si.hosts.1; have b1 := h.si.hosts.2.1; have a2 := h.si.racks.1; have b2 := h.si.racks.2.1; have a3 := h.si.brks.1; have b3 := h.si.brks.2.1; have a4 := h.si.feeds.1; have b4 := h.si.feeds.2.1
  have a5 := h.wo.hosts.1; have b5 := h.wo.hosts.2.1; have a6 := h.wo.reps.1; have b6 := h.wo.reps.2.1; have a7 := h.wi.row.1; have b7 := h.wi.row.2.1; have a8 := h.si.loops.1; have b8 := h.si.loops.2.1
  unfold maxLen at *
  omega
def Bx (w : World) (b : Nat) (cs : Array Value) (T : TypeId) : Prop := w.heap[b]? = some (.cells cs T (0, 0))
theorem Bx.on {w w' : World} {b : Nat} {cs : Array Value} {T : TypeId} {B : Nat} (h : Bx w b cs T) (hb : Below B w w') (hB : w.heap.size ≤ B) : Bx w' b cs T := box_on h hb hB
/-- The boxes of a scene's parameters. -/
structure SnBx (X : World) (b : Nat) (z : Sn) : Prop where
  b1 : X.heap[b]? = some (.cells #[.slice z.p.a1 z.s.feeds.length z.p.c1, .slice z.p.a2 z.s.brks.length z.p.c2, .slice z.p.a3 z.s.loops.length z.p.c3, .slice z.p.a4 z.s.racks.length z.p.c4, .int .i64 z.s.sw, .slice z.p.a5 z.s.links.length z.p.c5, .slice z.p.a6 z.s.hosts.length z.p.c6] 29 (0, 0))
  b2 : X.heap[b + 1]? = some (.cells #[.slice z.A z.xs.length z.c] 32 (0, 0))
  b3 : X.heap[b + 1 + 1]? = some (.cells #[.slice z.q.a1 z.d.hosts.length z.q.c1, .slice z.q.a2 z.d.reps.length z.q.c2] 36 (0, 0))
section
variable {w w' X : World} {z : Sn} {b B : Nat}
theorem SnBx.on (h : SnBx w b z) (hb : Below B w w') (hB : w.heap.size ≤ B) : SnBx w' b z := ⟨box_on h.b1 hb hB, box_on h.b2 hb hB, box_on h.b3 hb hB⟩
theorem SnBx.alloc (h : SnBx w b z) (o : Obj) : SnBx (w.alloc o) b z := ⟨old_heap _ h.b1, old_heap _ h.b2, old_heap _ h.b3⟩
theorem SnBx.cells (h : SnBx X b z) : X.cell? ⟨b, 0, none⟩ = some (.slice z.p.a1 z.s.feeds.length z.p.c1) ∧ X.cell? ⟨b, 1, none⟩ = some (.slice z.p.a2 z.s.brks.length z.p.c2) ∧ X.cell? ⟨b, 2, none⟩ = some (.slice z.p.a3 z.s.loops.length z.p.c3) ∧ X.cell? ⟨b, 3, none⟩ = some (.slice z.p.a4 z.s.racks.length z.p.c4) ∧ X.cell? ⟨b, 4, none⟩ = some (.int .i64 z.s.sw) ∧ X.cell? ⟨b, 5, none⟩ = some (.slice z.p.a5 z.s.links.length z.p.c5) ∧ X.cell? ⟨b, 6, none⟩ = some (.slice z.p.a6 z.s.hosts.length z.p.c6) ∧ X.cell? ⟨b + 1, 0, none⟩ = some (.slice z.A z.xs.length z.c) ∧ X.cell? ⟨b + 1 + 1, 0, none⟩ = some (.slice z.q.a1 z.d.hosts.length z.q.c1) ∧ X.cell? ⟨b + 1 + 1, 1, none⟩ = some (.slice z.q.a2 z.d.reps.length z.q.c2) :=
  ⟨cell_of h.b1 rfl, cell_of h.b1 rfl, cell_of h.b1 rfl, cell_of h.b1 rfl, cell_of h.b1 rfl, cell_of h.b1 rfl, cell_of h.b1 rfl, cell_of h.b2 rfl, cell_of h.b3 rfl, cell_of h.b3 rfl⟩
end
section
variable {w W1 W2 W : World} {z : Sn}
theorem sn_boxes (h1 : W1 = w.alloc (.cells #[.slice z.p.a1 z.s.feeds.length z.p.c1, .slice z.p.a2 z.s.brks.length z.p.c2, .slice z.p.a3 z.s.loops.length z.p.c3, .slice z.p.a4 z.s.racks.length z.p.c4, .int .i64 z.s.sw, .slice z.p.a5 z.s.links.length z.p.c5, .slice z.p.a6 z.s.hosts.length z.p.c6] 29))
    (h2 : W2 = W1.alloc (.cells #[.slice z.A z.xs.length z.c] 32)) (h3 : W = W2.alloc (.cells #[.slice z.q.a1 z.d.hosts.length z.q.c1, .slice z.q.a2 z.d.reps.length z.q.c2] 36)) : Below w.heap.size w W ∧ SnBx W w.heap.size z := by
  obtain ⟨B0, b1, b2, b3⟩ := three_boxes h1 h2 h3
  exact ⟨B0, b1, b2, b3⟩
theorem sn_size {c1 c2 c3 : Array Value} {T1 T2 T3 : TypeId} (h1 : W1 = w.alloc (.cells c1 T1)) (h2 : W2 = W1.alloc (.cells c2 T2)) (h3 : W = W2.alloc (.cells c3 T3)) : W.heap.size = w.heap.size + 1 + 1 + 1 := by
  rw [h3, World.size_alloc, h2, World.size_alloc, h1, World.size_alloc]
end
theorem bool_of (P : Prop) : ∃ b : Bool, b = true ↔ P := by
  by_cases h : P
  · exact ⟨true, by simp [h]⟩
  · exact ⟨false, by simp [h]⟩
section
variable (z : Sn) (r : Bool) (hr : r = true ↔ z.Ok) (w : World) (h : SnAt w z)
include hr h
theorem c_vTo : Calls Tryz.prog 27 #[.agg #[.slice z.p.a1 z.s.feeds.length z.p.c1, .slice z.p.a2 z.s.brks.length z.p.c2, .slice z.p.a3 z.s.loops.length z.p.c3, .slice z.p.a4 z.s.racks.length z.p.c4, .int .i64 z.s.sw, .slice z.p.a5 z.s.links.length z.p.c5, .slice z.p.a6 z.s.hosts.length z.p.c6], .agg #[.slice z.A z.xs.length z.c], .agg #[.slice z.q.a1 z.d.hosts.length z.q.c1, .slice z.q.a2 z.d.reps.length z.q.c2]] w fun e w' => e = .returned (.bool r) ∧ Below w.heap.size w w' := c_woValid z.p z.s z.A z.c z.xs z.q z.d r hr w h.si h.wi h.wo
theorem c_wvTo : Calls Tryz.prog 21 #[.agg #[.slice z.p.a1 z.s.feeds.length z.p.c1, .slice z.p.a2 z.s.brks.length z.p.c2, .slice z.p.a3 z.s.loops.length z.p.c3, .slice z.p.a4 z.s.racks.length z.p.c4, .int .i64 z.s.sw, .slice z.p.a5 z.s.links.length z.p.c5, .slice z.p.a6 z.s.hosts.length z.p.c6], .agg #[.slice z.A z.xs.length z.c], .agg #[.slice z.q.a1 z.d.hosts.length z.q.c1, .slice z.q.a2 z.d.reps.length z.q.c2]] w fun e w' => e = .returned (.bool r) ∧ Below w.heap.size w w' := c_wrValid z.p z.s z.A z.c z.xs z.q z.d r hr w h.si h.wi h.wo
end
theorem c_usedTo (z : Sn) (host u : Int) (hu : usedD z.ss z.d.reps host = u) (w : World) (h : SnAt w z) :
    Calls Tryz.prog 93 #[.agg #[.slice z.A z.xs.length z.c], .agg #[.slice z.q.a1 z.d.hosts.length z.q.c1, .slice z.q.a2 z.d.reps.length z.q.c2], .int .i64 host] w fun e w' => e = .returned (.int .i64 u) ∧ Below w.heap.size w w' := by subst hu; exact c_woUsed z.A z.c z.xs z.q z.d host w h.wi h.wo
theorem c_wrUsedTo (z : Sn) (host u : Int) (hu : usedD z.ss z.d.reps host = u) (w : World) (h : SnAt w z) :
    Calls Tryz.prog 60 #[.agg #[.slice z.A z.xs.length z.c], .agg #[.slice z.q.a1 z.d.hosts.length z.q.c1, .slice z.q.a2 z.d.reps.length z.q.c2], .int .i64 host] w fun e w' => e = .returned (.int .i64 u) ∧ Below w.heap.size w w' := by subst hu; exact c_wrUsed z.A z.c z.xs z.q z.d host w h.wi h.wo
end Go.Proofs.YtbbadnlaelgmlaaGreat
