/-
  DERIVED. Where, Runs, Used of the landed package (stage 13).
-/
import Derived.Test.YtplncglgolhfaaaEI
namespace Go.Proofs.Ytplncglgolhfaaa
open Go.RowKit
set_option maxRecDepth 100000
set_option linter.unusedVariables false
set_option linter.unusedSimpArgs false

theorem where_take {l : List Rep} {k : Nat} {x : Rep} (h : l[k]? = some x) (s : Int) : whereD (l.take (k + 1)) s = whereD (l.take k) s ++ if x.svc == s then [x.host] else [] := by
  rw [List.take_add_one, h]; exact where_snoc _ _ _
theorem where_take_len {l : List Rep} {k : Nat} (hk : k ≤ l.length) (s : Int) : (whereD (l.take k) s).length ≤ k := by
  have := where_len (l.take k) s
  rw [List.length_take] at this; omega
set_option maxHeartbeats 16000000 in
theorem c_woWhere (p : WP) (d : WorldD) (s : Int) (hm : d.reps.length ≤ 1000) (w : World) (h : WoAt w p d) :
    Calls Try.prog 19 #[.agg (woA p d), .int .i64 s] w fun e w' => ∃ v, e = .returned v ∧ w'.ownsRow w.heap.size 3 1 v (whereD d.reps s).length (ints (whereD d.reps s)) ∧ Below w.heap.size w w' := by
  unfold woA
  obtain ⟨W, hW⟩ : ∃ W, W = w.alloc (.cells (woA p d) 36) := ⟨_, rfl⟩
  have B0 : Below w.heap.size w W := by subst hW; exact (Below.refl _ _).alloc (Nat.le_refl _) _
  have HB := Lib.hid B0
  have x1 : W.cell? ⟨w.heap.size, 1, none⟩ = some (.slice p.a2 d.reps.length p.c2) := by subst hW; exact cell_of (box_new _ _ _) rfl
  have H := Lib.hid (h.on B0 (Nat.le_refl _)).reps
  have hc1 := h.reps.1; have hc2 := h.reps.2.1
  unfold maxLen at hc2
  have hle := B0.size
  obtain ⟨i1, hi1, hz1, hz2, hz3⟩ := info_parts int_info
  clear h B0
  unfold woA at hW
  rw [hW] at x1
  generalize hA : w.heap.size = B at *
  go_enter Try.func19, Try.ntmps19
  go_wp2_with (fail)
  rw [← hW]
  clear hW x1
  go_loopw [5, 11] (fun v i wr => ∃ k : Nat, k ≤ d.reps.length ∧ i = .int .i64 (k : Int) ∧ Hid (Below W.heap.size W wr) ∧ Hid (wr.ownsRow W.heap.size 3 1 v (whereD (d.reps.take k) s).length (ints (whereD (d.reps.take k) s)))) (fun _ i _ => d.reps.length - (intOf i).toNat)
  case atStart => exact ⟨0, Nat.zero_le _, rfl, Lib.hid (Below.refl _ _), Lib.hid (World.ownsRow_nil _ _ _ _)⟩
  case round =>
    obtain ⟨k, hk, rfl, hK, ho⟩ := hrel
    have hki : ((k : Nat) : Int).toNat = k := by omega
    by_cases hlt : k < d.reps.length
    · obtain ⟨x, hx⟩ : ∃ x, d.reps[k]? = some x := ⟨_, List.getElem?_eq_getElem hlt⟩
      have HK := H.out.on hK.out (Nat.le_refl _)
      obtain ⟨b, o, e0, -, -⟩ := HK.at_ hx
      rw [e0] at HK
      obtain ⟨y0, y1⟩ := rep_at HK hx
      have HX := Lib.hid hx
      have hkl : (k : Int) < (d.reps.length : Int) := by omega
      have hln : (whereD (d.reps.take k) s).length ≤ 1000 := Nat.le_trans (where_take_len hk s) (by omega)
      obtain ⟨nn, hnn⟩ : ∃ m, m = (whereD (d.reps.take k) s).length := ⟨_, rfl⟩
      rw [← hnn] at ho hln
      have HNN := Lib.hid hnn
      obtain ⟨As, cs, rfl⟩ := own_shape ho.out
      have hz4 := hK.out.size
      obtain ⟨V, hV⟩ : ∃ V, V = wr.alloc (.cells #[.int .i64 x.svc, .int .i64 x.host] 41) := ⟨_, rfl⟩
      have bV : Below wr.heap.size wr V := by subst hV; exact (Below.refl _ _).alloc (Nat.le_refl _) _
      have HKV := Lib.hid (below_join hK.out bV hK.out.size)
      have HOV := Lib.hid (own_on ho.out bV (Nat.le_refl _))
      have z0 : V.cell? ⟨wr.heap.size, 0, none⟩ = some (.int .i64 x.svc) := by subst hV; exact cell_of (box_new _ _ _) rfl
      have z1 : V.cell? ⟨wr.heap.size, 1, none⟩ = some (.int .i64 x.host) := by subst hV; exact cell_of (box_new _ _ _) rfl
      have hz5 := bV.size
      clear hnn hx HK bV
      rw [e0]
      rcases hf : (x.svc == s) with _ | _
      · have HO := Lib.hid (show V.ownsRow W.heap.size 3 1 (.slice As nn cs) (whereD (d.reps.take (k + 1)) s).length (ints (whereD (d.reps.take (k + 1)) s)) by
          rw [where_take HX.out, hf]
          simp only [Bool.false_eq_true, if_false, List.append_nil]
          rw [← HNN.out]; exact HOV.out)
        rw [hV] at z0 z1
        go_wp2_with (fail)
        rw [← hV]
        clear hV
        go_roundw
        case rel => exact ⟨k + 1, by omega, by go_num, HKV, HO⟩
        case measure => simp only [intOf]; omega
      · have HFF := Lib.hid hf
        have HVS := Lib.hid (show V.heap.size = wr.heap.size + 1 by rw [hV, World.size_alloc])
        rw [hV] at z0 z1
        go_wp2_with (at_builtin; rw [← hV]; refine wpList_append_lies _ rfl _ _ 44 rfl W.heap.size 3 i1 (.int .i64 0) 1 8 Try.underlying44 hi1 hz1 hz2 hz3 rfl (by decide) (.slice As nn cs) nn _ rfl (HOV.out.alloc _) ⟨wr.heap.size + 1, 0, none⟩ 1 1 [.int .i64 x.host] rfl rfl (by rw [← HVS.out]; exact World.news_of_block (heap_alloc_new _ _)) (by simp [Value.oneCell']) (by decide) (by unfold maxLen; omega) (by omega) (by simp; omega) (V.heap.size + 1) (by simp) ?_; intro g4 cap4 Z hown hgrow _ _; have HBZ := Lib.hid ((HKV.out.alloc HKV.out.size _).grown hgrow (by have := HKV.out.size; simp; omega) (fun k hk => (ownsRow_lt HOV.out hk).1)); have HOZ := Lib.hid hown; clear hown hgrow)
        have HO := Lib.hid (show Z.ownsRow W.heap.size 3 1 (.slice (some ⟨g4, 0, none⟩) (nn + 1) cap4) (whereD (d.reps.take (k + 1)) s).length (ints (whereD (d.reps.take (k + 1)) s)) by
          rw [where_take HX.out, HFF.out]
          simp only [if_true]
          rw [List.length_append, List.length_singleton, ← HNN.out, ints_snoc]
          exact HOZ.out)
        clear hV
        go_roundw
        case rel => exact ⟨k + 1, by omega, by go_num, HBZ, HO⟩
        case measure => simp only [intOf]; omega
    · obtain rfl : k = d.reps.length := by omega
      have HO := Lib.hid (show wr.ownsRow W.heap.size 3 1 u5 (whereD d.reps s).length (ints (whereD d.reps s)) by have := ho.out; rwa [List.take_length] at this)
      go_wp2_with (fail)
      go_ret
      exact ⟨_, rfl, own_mono HO.out hle, below_join HB.out hK.out hle⟩
set_option maxHeartbeats 8000000 in
theorem c_woRuns (p : WP) (d : WorldD) (s : Int) (hm : d.reps.length ≤ 1000) (w : World) (h : WoAt w p d) :
    Calls Try.prog 16 #[.agg (woA p d), .int .i64 s] w fun e w' => e = .returned (.int .i64 ((whereD d.reps s).length : Int)) ∧ Below w.heap.size w w' := by
  unfold woA
  obtain ⟨W, hW⟩ : ∃ W, W = w.alloc (.cells (woA p d) 36) := ⟨_, rfl⟩
  have B0 : Below w.heap.size w W := by subst hW; exact (Below.refl _ _).alloc (Nat.le_refl _) _
  have HB := Lib.hid B0
  have x0 : W.cell? ⟨w.heap.size, 0, none⟩ = some (.slice p.a1 d.hosts.length p.c1) := by subst hW; exact cell_of (box_new _ _ _) rfl
  have x1 : W.cell? ⟨w.heap.size, 1, none⟩ = some (.slice p.a2 d.reps.length p.c2) := by subst hW; exact cell_of (box_new _ _ _) rfl
  have HC := Lib.hid (c_woWhere p d s hm W (h.on B0 (Nat.le_refl _)))
  have hle := B0.size
  have hln := Nat.le_trans (where_len d.reps s) hm
  clear h B0
  unfold woA at hW HC
  rw [hW] at x0 x1
  generalize hA : w.heap.size = B at *
  obtain ⟨l, hl⟩ : ∃ l, whereD d.reps s = l := ⟨_, rfl⟩
  rw [hl] at hln HC ⊢
  clear hl
  go_enter Try.func16, Try.ntmps16
  go_wp2_with (fail)
  rw [← hW]
  clear hW x0 x1
  go_at_call 19
  refine HC.out.mono ?_
  rintro e w1 ⟨v, rfl, ho, b1⟩
  obtain ⟨As, cs, rfl⟩ := own_shape ho
  have K1 := Lib.hid b1
  clear b1 ho
  go_wp2_with (fail)
  go_ret
  exact ⟨rfl, below_join HB.out K1.out hle⟩
end Go.Proofs.Ytplncglgolhfaaa
