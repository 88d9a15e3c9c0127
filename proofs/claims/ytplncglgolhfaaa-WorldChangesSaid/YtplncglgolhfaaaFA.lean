/-
  DERIVED. Where, Runs, Has, Used of the specification (written by gen/world_FA.py).
-/
import Derived.Test.YtplncglgolhfaaaEJ
import Derived.Test.YtplncglgolhfaaaEK
namespace Go.Proofs.Ytplncglgolhfaaa
open Go.RowKit
set_option maxRecDepth 100000
set_option linter.unusedVariables false
set_option linter.unusedSimpArgs false

set_option maxHeartbeats 16000000 in
theorem c_wrWhere (p : WP) (d : WorldD) (s : Int) (hm : d.reps.length ≤ 1000) (w : World) (h : WoAt w p d) :
    Calls Try.prog 20 #[.agg (woA p d), .int .i64 s] w fun e w' => ∃ v, e = .returned v ∧ w'.ownsRow w.heap.size 3 1 v (whereD d.reps s).length (ints (whereD d.reps s)) ∧ Below w.heap.size w w' := by
  unfold woA
  obtain ⟨W, hW⟩ : ∃ W, W = w.alloc (.cells (woA p d) 36) := ⟨_, rfl⟩
  have B0 : Below w.heap.size w W := by subst hW; exact (Below.refl _ _).alloc (Nat.le_refl _) _
  have HB := Lib.hid B0
  have HX := Lib.hid (show W.heap[w.heap.size]? = some (.cells (woA p d) 36 (0, 0)) by subst hW; exact box_new _ _ _)
  have HF := Lib.hid (fun (X : World) (hX : Below W.heap.size W X) => (cell_of (box_on HX.out hX (Nat.le_refl _)) rfl : X.cell? ⟨w.heap.size, 1, none⟩ = some (.slice p.a2 d.reps.length p.c2)))
  have H := Lib.hid (h.on B0 (Nat.le_refl _)).reps
  have hc1 := h.reps.1; have hc2 := h.reps.2.1
  unfold maxLen at hc2
  have hle := B0.size
  obtain ⟨i1, hi1, hz1, hz2, hz3⟩ := info_parts int_info
  clear h B0
  unfold woA at hW
  generalize hA : w.heap.size = B at *
  go_enter Try.func20, Try.ntmps20
  go_wp2_with (fail)
  rw [← hW]
  clear hW
  go_loopw [5, 6] (fun v i wr => ∃ k : Nat, k ≤ d.reps.length ∧ i = .int .i64 (k : Int) ∧ Hid (Below W.heap.size W wr) ∧ Hid (wr.ownsRow W.heap.size 3 1 v (whereD (d.reps.take k) s).length (ints (whereD (d.reps.take k) s)))) (fun _ i _ => d.reps.length - (intOf i).toNat)
  case atStart => exact ⟨0, Nat.zero_le _, rfl, Lib.hid (Below.refl _ _), Lib.hid (World.ownsRow_nil _ _ _ _)⟩
  case round =>
    obtain ⟨k, hk, rfl, hK, ho⟩ := hrel
    have hki : ((k : Nat) : Int).toNat = k := by omega
    have x1 := HF.out wr hK.out
    by_cases hlt : k < d.reps.length
    · obtain ⟨x, hx⟩ : ∃ x, d.reps[k]? = some x := ⟨_, List.getElem?_eq_getElem hlt⟩
      have HK := H.out.on hK.out (Nat.le_refl _)
      obtain ⟨b, o, e0, -, -⟩ := HK.at_ hx
      rw [e0] at HK x1
      obtain ⟨y0, y1⟩ := rep_at HK hx
      have HXX := Lib.hid hx
      have hkl : (k : Int) < (d.reps.length : Int) := by omega
      have hln : (whereD (d.reps.take k) s).length ≤ 1000 := Nat.le_trans (where_take_len hk s) (by omega)
      obtain ⟨nn, hnn⟩ : ∃ m, m = (whereD (d.reps.take k) s).length := ⟨_, rfl⟩
      rw [← hnn] at ho hln
      have HNN := Lib.hid hnn
      obtain ⟨As, cs, rfl⟩ := own_shape ho.out
      have hz4 := hK.out.size
      clear hnn hx HK e0
      rcases hf : (x.svc == s) with _ | _
      · have HO := Lib.hid (show wr.ownsRow W.heap.size 3 1 (.slice As nn cs) (whereD (d.reps.take (k + 1)) s).length (ints (whereD (d.reps.take (k + 1)) s)) by
          rw [where_take HXX.out, hf]
          simp only [Bool.false_eq_true, if_false, List.append_nil]
          rw [← HNN.out]; exact ho.out)
        go_wp2_with (fail)
        go_roundw
        case rel => exact ⟨k + 1, by omega, by go_num, hK, HO⟩
        case measure => simp only [intOf]; omega
      · have HFF := Lib.hid hf
        go_wp2_with (at_builtin; refine wpList_append_lies _ rfl _ _ 44 rfl W.heap.size 3 i1 (.int .i64 0) 1 8 Try.underlying44 hi1 hz1 hz2 hz3 rfl (by decide) (.slice As nn cs) nn _ rfl (ho.out.alloc _) ⟨wr.heap.size, 0, none⟩ 1 1 [.int .i64 x.host] rfl rfl (World.news_of_block (heap_alloc_new _ _)) (by simp [Value.oneCell']) (by decide) (by unfold maxLen; omega) (by omega) (by simp; omega) (wr.heap.size + 1) (by simp) ?_; intro g4 cap4 Z hown hgrow _ _; have HBZ := Lib.hid ((hK.out.alloc hK.out.size _).grown hgrow (by have := hK.out.size; simp; omega) (fun k hk => (ownsRow_lt ho.out hk).1)); have HOZ := Lib.hid hown; clear hown hgrow)
        have HO := Lib.hid (show Z.ownsRow W.heap.size 3 1 (.slice (some ⟨g4, 0, none⟩) (nn + 1) cap4) (whereD (d.reps.take (k + 1)) s).length (ints (whereD (d.reps.take (k + 1)) s)) by
          rw [where_take HXX.out, HFF.out]
          simp only [if_true]
          rw [List.length_append, List.length_singleton, ← HNN.out, ints_snoc]
          exact HOZ.out)
        go_roundw
        case rel => exact ⟨k + 1, by omega, by go_num, HBZ, HO⟩
        case measure => simp only [intOf]; omega
    · obtain rfl : k = d.reps.length := by omega
      have HO := Lib.hid (show wr.ownsRow W.heap.size 3 1 u5 (whereD d.reps s).length (ints (whereD d.reps s)) by have := ho.out; rwa [List.take_length] at this)
      go_wp2_with (fail)
      go_ret
      exact ⟨_, rfl, own_mono HO.out hle, below_join HB.out hK.out hle⟩
set_option maxHeartbeats 8000000 in
theorem c_wrRuns (p : WP) (d : WorldD) (s : Int) (hm : d.reps.length ≤ 1000) (w : World) (h : WoAt w p d) :
    Calls Try.prog 17 #[.agg (woA p d), .int .i64 s] w fun e w' => e = .returned (.int .i64 ((whereD d.reps s).length : Int)) ∧ Below w.heap.size w w' := by
  unfold woA
  obtain ⟨W, hW⟩ : ∃ W, W = w.alloc (.cells (woA p d) 36) := ⟨_, rfl⟩
  have B0 : Below w.heap.size w W := by subst hW; exact (Below.refl _ _).alloc (Nat.le_refl _) _
  have HB := Lib.hid B0
  have x0 : W.cell? ⟨w.heap.size, 0, none⟩ = some (.slice p.a1 d.hosts.length p.c1) := by subst hW; exact cell_of (box_new _ _ _) rfl
  have x1 : W.cell? ⟨w.heap.size, 1, none⟩ = some (.slice p.a2 d.reps.length p.c2) := by subst hW; exact cell_of (box_new _ _ _) rfl
  have HC := Lib.hid (c_wrWhere p d s hm W (h.on B0 (Nat.le_refl _)))
  have hle := B0.size
  have hln := Nat.le_trans (where_len d.reps s) hm
  clear h B0
  unfold woA at hW HC
  rw [hW] at x0 x1
  generalize hA : w.heap.size = B at *
  obtain ⟨l, hl⟩ : ∃ l, whereD d.reps s = l := ⟨_, rfl⟩
  rw [hl] at hln HC ⊢
  clear hl
  go_enter Try.func17, Try.ntmps17
  go_wp2_with (fail)
  rw [← hW]
  clear hW x0 x1
  go_at_call 20
  refine HC.out.mono ?_
  rintro e w1 ⟨v, rfl, ho, b1⟩
  obtain ⟨As, cs, rfl⟩ := own_shape ho
  have K1 := Lib.hid b1
  clear b1 ho
  go_wp2_with (fail)
  go_ret
  exact ⟨rfl, below_join HB.out K1.out hle⟩
set_option maxHeartbeats 8000000 in
theorem c_wrHas (p : WP) (d : WorldD) (x : Rep) (r : Bool) (hr : hasB d.reps x = r) (w : World) (hd : WoAt w p d) :
    Calls Try.prog 22 #[.agg (woA p d), .agg #[.int .i64 x.svc, .int .i64 x.host]] w fun e w' => e = .returned (.bool r) ∧ Below w.heap.size w w' := by
  unfold woA
  obtain ⟨W1, h1⟩ : ∃ W, W = w.alloc (.cells (woA p d) 36) := ⟨_, rfl⟩
  obtain ⟨W, h2⟩ : ∃ W, W = W1.alloc (.cells #[.int .i64 x.svc, .int .i64 x.host] 41) := ⟨_, rfl⟩
  obtain ⟨B0, b1, b2, -⟩ := two_boxes h1 h2
  have HB := Lib.hid B0
  have hle := B0.size
  have HF := Lib.hid (fun (X : World) (hX : Below W.heap.size W X) => (⟨cell_of (box_on b1 hX (Nat.le_refl _)) rfl, cell_of (box_on b2 hX (Nat.le_refl _)) rfl, cell_of (box_on b2 hX (Nat.le_refl _)) rfl⟩ : X.cell? ⟨w.heap.size, 1, none⟩ = some (.slice p.a2 d.reps.length p.c2) ∧ X.cell? ⟨w.heap.size + 1, 0, none⟩ = some (.int .i64 x.svc) ∧ X.cell? ⟨w.heap.size + 1, 1, none⟩ = some (.int .i64 x.host)))
  have H := Lib.hid (hd.on B0 (Nat.le_refl _)).reps
  have hc1 := hd.reps.1; have hc2 := hd.reps.2.1
  unfold maxLen at hc2
  have HR := Lib.hid hr
  clear hr hd B0 b1 b2
  unfold woA at h1
  generalize hA : w.heap.size = B at *
  go_enter Try.func22, Try.ntmps22
  go_wp2_with (fail)
  rw [← h1, ← h2]
  clear h1 h2
  go_loopw [5] (fun i wr => ∃ k : Nat, k ≤ d.reps.length ∧ i = .int .i64 (k : Int) ∧ Hid (x ∉ d.reps.take k) ∧ Hid (Below W.heap.size W wr)) (fun i _ => d.reps.length - (intOf i).toNat)
  case atStart => exact ⟨0, Nat.zero_le _, rfl, Lib.hid (by simp), Lib.hid (Below.refl _ _)⟩
  case round =>
    obtain ⟨k, hk, rfl, hno, hK⟩ := hrel
    have hki : ((k : Nat) : Int).toNat = k := by omega
    obtain ⟨x1, z0, z1⟩ := HF.out wr hK.out
    by_cases hlt : k < d.reps.length
    · obtain ⟨z, hz⟩ : ∃ z, d.reps[k]? = some z := ⟨_, List.getElem?_eq_getElem hlt⟩
      have HK := H.out.on hK.out (Nat.le_refl _)
      obtain ⟨b, o, e0, -, -⟩ := HK.at_ hz
      rw [e0] at HK x1
      obtain ⟨y0, y1⟩ := rep_at HK hz
      have HZ := Lib.hid hz
      have hk1 : (k : Int) < ((d.reps.length : Nat) : Int) := by omega
      clear hz HK e0
      have g1 := guardRp
      have g2 := eqlRp
      rcases hxz : ((z.svc == x.svc) && (z.host == x.host)) with _ | _
      · have hno2 := Lib.hid (show x ∉ d.reps.take (k + 1) by
          rw [List.take_add_one, HZ.out, List.mem_append]
          rintro (h | h)
          · exact hno.out h
          · simp at h; rw [h] at hxz; simp at hxz)
        go_wp2_with (fail)
        go_quiet (fail)
        go_wp2_with (fail)
        go_roundw
        case rel => exact ⟨k + 1, by omega, by go_num, hno2, Lib.hid (below_drewN hK.out)⟩
        case measure => simp only [intOf]; omega
      · obtain rfl : true = r := by
          rw [← HR.out]
          exact (decide_eq_true (show x ∈ d.reps by rw [rep_beq] at hxz; rw [← of_decide_eq_true hxz]; exact List.mem_of_getElem? HZ.out)).symm
        go_wp2_with (fail)
        go_quiet (fail)
        go_wp2_with (fail)
        go_ret
        exact ⟨rfl, below_drewN (below_join HB.out hK.out hle)⟩
    · obtain rfl : k = d.reps.length := by omega
      obtain rfl : false = r := by
        rw [← HR.out]
        have h := hno.out
        rw [List.take_length] at h
        exact (decide_eq_false h).symm
      go_wp2_with (fail)
      go_ret
      exact ⟨rfl, below_join HB.out hK.out hle⟩
set_option maxHeartbeats 16000000 in
theorem c_wrUsed (A : Option Addr) (c : Nat) (xs : List (Svc × SvA)) (p : WP) (d : WorldD) (host : Int) (w : World) (hx : WiAt w A c xs) (h : WoAt w p d) :
    Calls Try.prog 24 #[.agg #[.slice A xs.length c], .agg (woA p d), .int .i64 host] w fun e w' => e = .returned (.int .i64 (usedD (svs xs) d.reps host)) ∧ Below w.heap.size w w' := by
  unfold woA
  obtain ⟨W1, h1⟩ : ∃ W, W = w.alloc (.cells #[.slice A xs.length c] 32) := ⟨_, rfl⟩
  obtain ⟨W, h2⟩ : ∃ W, W = W1.alloc (.cells (woA p d) 36) := ⟨_, rfl⟩
  obtain ⟨B0, b1, b2, -⟩ := two_boxes h1 h2
  have HB := Lib.hid B0
  have HF := Lib.hid (fun (X : World) (hX : Below W.heap.size W X) => (⟨cell_of (box_on b1 hX (Nat.le_refl _)) rfl, cell_of (box_on b2 hX (Nat.le_refl _)) rfl⟩ : X.cell? ⟨w.heap.size, 0, none⟩ = some (.slice A xs.length c) ∧ X.cell? ⟨w.heap.size + 1, 1, none⟩ = some (.slice p.a2 d.reps.length p.c2)))
  have H := Lib.hid (h.on B0 (Nat.le_refl _)).reps
  have HX := Lib.hid (hx.on B0 (Nat.le_refl _))
  have hc1 := h.reps.1; have hc2 := h.reps.2.1; have hc3 := hx.row.1; have hc4 := hx.row.2.1
  unfold maxLen at hc2 hc4
  have hle := B0.size
  have HSL := Lib.hid (svs_len xs)
  clear h hx B0 b1 b2
  unfold woA at h2
  generalize hA : w.heap.size = B at *
  go_enter Try.func24, Try.ntmps24
  go_wp2_with (fail)
  rw [← h1, ← h2]
  clear h1 h2
  go_loopw [7, 8] (fun v i wr => ∃ (k : Nat) (acc : Int), k ≤ d.reps.length ∧ v = .int .i64 acc ∧ i = .int .i64 (k : Int) ∧ Hid (acc = usedD (svs xs) (d.reps.take k) host) ∧ Hid (Below W.heap.size W wr)) (fun _ i _ => d.reps.length - (intOf i).toNat)
  case atStart => exact ⟨0, 0, Nat.zero_le _, rfl, rfl, Lib.hid rfl, Lib.hid (Below.refl _ _)⟩
  case round =>
    obtain ⟨k, acc, hk, rfl, rfl, hacc, hK⟩ := hrel
    have hki : ((k : Nat) : Int).toNat = k := by omega
    obtain ⟨x0, x1⟩ := HF.out wr hK.out
    by_cases hlt : k < d.reps.length
    · obtain ⟨⟨sv, ho⟩, hx⟩ : ∃ x, d.reps[k]? = some x := ⟨_, List.getElem?_eq_getElem hlt⟩
      have HK := H.out.on hK.out (Nat.le_refl _)
      obtain ⟨b, o, e0, -, -⟩ := HK.at_ hx
      rw [e0] at HK x1
      obtain ⟨y0, y1⟩ := rep_at HK hx
      simp only at y0 y1
      have HXX := Lib.hid hx
      have hkl : (k : Int) < (d.reps.length : Int) := by omega
      obtain ⟨V, hV⟩ : ∃ V, V = wr.alloc (.cells #[.int .i64 sv, .int .i64 ho] 41) := ⟨_, rfl⟩
      have bV : Below wr.heap.size wr V := by subst hV; exact (Below.refl _ _).alloc (Nat.le_refl _) _
      have HKV := Lib.hid (below_join hK.out bV hK.out.size)
      have z0 : V.cell? ⟨wr.heap.size, 0, none⟩ = some (.int .i64 sv) := by subst hV; exact cell_of (box_new _ _ _) rfl
      have z1 : V.cell? ⟨wr.heap.size, 1, none⟩ = some (.int .i64 ho) := by subst hV; exact cell_of (box_new _ _ _) rfl
      obtain ⟨v0, v1⟩ := HF.out V HKV.out
      rw [e0] at v1
      clear hx HK bV e0
      have HNO : (ho == host && ixB sv (xs.length : Int)) = false → Hid (acc = usedD (svs xs) (d.reps.take (k + 1)) host) := fun hn => Lib.hid (by
        rw [used_take HXX.out]; unfold usedStep
        rw [HSL.out, show (({ svc := sv, host := ho } : Rep).host == host && ixB ({ svc := sv, host := ho } : Rep).svc (xs.length : Int)) = false from hn]
        simp only [Bool.false_eq_true, if_false]
        exact hacc.out)
      have HNN := Lib.hid HNO
      clear HNO
      rcases hf : (ho == host) with _ | _
      · have HO := HNN.out (by rw [hf]; rfl)
        rw [hV] at z0 z1 v0 v1
        go_wp2_with (fail)
        rw [← hV]
        clear hV
        go_roundw
        case rel => exact ⟨k + 1, acc, by omega, rfl, by go_num, HO, HKV⟩
        case measure => simp only [intOf]; omega
      · rcases hg : decide (0 ≤ sv) with _ | _
        · have HO := HNN.out (by unfold ixB; rw [hg]; simp)
          rw [hV] at z0 z1 v0 v1
          go_wp2_with (fail)
          rw [← hV]
          clear hV
          go_roundw
          case rel => exact ⟨k + 1, acc, by omega, rfl, by go_num, HO, HKV⟩
          case measure => simp only [intOf]; omega
        · rcases hh : decide (sv < (xs.length : Int)) with _ | _
          · have HO := HNN.out (by unfold ixB; rw [hh]; simp)
            rw [hV] at z0 z1 v0 v1
            go_wp2_with (fail)
            rw [← hV]
            clear hV
            go_roundw
            case rel => exact ⟨k + 1, acc, by omega, rfl, by go_num, HO, HKV⟩
            case measure => simp only [intOf]; omega
          · have hg2 := of_decide_eq_true hg
            have hh2 := of_decide_eq_true hh
            have HIX := Lib.hid (show ixB sv (xs.length : Int) = true from ixB_iff.2 ⟨hg2, hh2⟩)
            have HFF := Lib.hid hf
            obtain ⟨m, rfl⟩ : ∃ m : Nat, sv = m := ⟨sv.toNat, by omega⟩
            have hml : m < xs.length := by omega
            obtain ⟨y, hy⟩ : ∃ y, xs[m]? = some y := ⟨_, List.getElem?_eq_getElem hml⟩
            have HXV := HX.out.on HKV.out (Nat.le_refl _)
            obtain ⟨pb, po, rfl, -, -⟩ := HXV.row.at_ hy
            have t0 := (sv_at HXV.row hy).1
            have hmi : ((m : Nat) : Int).toNat = m := by omega
            obtain ⟨z, hz⟩ : ∃ z, IntKind.i64.wrap (acc + y.1.cores) = z := ⟨_, rfl⟩
            have HO := Lib.hid (show z = usedD (svs xs) (d.reps.take (k + 1)) host by
              rw [used_take HXX.out]; unfold usedStep
              rw [HSL.out, show ixB ({ svc := ((m : Nat) : Int), host := ho } : Rep).svc (xs.length : Int) = true from HIX.out, show (({ svc := ((m : Nat) : Int), host := ho } : Rep).host == host) = true from HFF.out]
              simp only [Bool.and_true, if_true]
              rw [cores_at hy, ← hz, hacc.out])
            rw [hV] at z0 z1 v0 v1 t0
            clear HXV hy HNN
            go_wp2_with (fail)
            rw [← hV]
            clear hV
            go_roundw
            case rel => exact ⟨k + 1, z, by omega, rfl, by go_num, HO, HKV⟩
            case measure => simp only [intOf]; omega
    · obtain rfl : k = d.reps.length := by omega
      have HO := Lib.hid (show acc = usedD (svs xs) d.reps host by have := hacc.out; rwa [List.take_length] at this)
      go_wp2_with (fail)
      go_ret
      exact ⟨(show Ending.returned (.int .i64 acc) = .returned (.int .i64 (usedD (svs xs) d.reps host)) by rw [HO.out]), below_join HB.out hK.out hle⟩
end Go.Proofs.Ytplncglgolhfaaa
