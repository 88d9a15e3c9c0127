/-
  DERIVED. Members of the specification; few, example, live of the law (written by gen/site_CC.py).
-/
import Derived.Test.YtoknombajocjlaaCF
namespace Go.Proofs.Ytoknombajocjlaa
open Go.RowKit
set_option maxRecDepth 100000
set_option linter.unusedVariables false
set_option linter.unusedSimpArgs false

theorem memD_neg {s : SiteD} {d : Nat} {n : Int} (h : n < 0) : memD s d n = [] := by
  unfold memD
  rw [if_neg]
  intro h2
  have := ixB_iff.1 h2
  omega
theorem memD_ref {s : SiteD} {d : Nat} {n : Int} (h : 0 ≤ n) : nats ((List.range s.hosts.length).filter (fun (k : Nat) => domD s d (k : Int) == n)) = memD s d n := by
  by_cases hh : siteOk s = true ∧ (1 ≤ d ∧ d ≤ 5)
  · have hok := siteOk_iff.1 hh.1
    have e : (List.range s.hosts.length).filter (fun (k : Nat) => domD s d (k : Int) == n) = (List.range s.hosts.length).filter (fun k => domAt s k d == n) := by
      refine List.filter_congr fun k hk => ?_
      have hk' := List.mem_range.1 hk
      unfold domD
      rw [if_pos ⟨hh.1, hh.2, ixB_iff.2 ⟨by omega, by omega⟩⟩]
      rfl
    rw [e]
    unfold memD
    split
    · rfl
    · rename_i hno
      have hf : (List.range s.hosts.length).filter (fun k => domAt s k d == n) = [] := by
        rw [List.filter_eq_nil_iff]
        intro k hk hc
        have hk' := List.mem_range.1 hk
        have hin := dom_in hok hk' hh.2
        rw [beq_iff_eq] at hc
        refine hno (ixB_iff.2 ?_)
        unfold cntD
        rw [if_pos hh.1]
        omega
      rw [hf]
      rfl
  · have hf : (List.range s.hosts.length).filter (fun (k : Nat) => domD s d (k : Int) == n) = [] := by
      rw [List.filter_eq_nil_iff]
      intro k hk hc
      rw [beq_iff_eq] at hc
      unfold domD at hc
      rw [if_neg (fun h2 => hh ⟨h2.1, h2.2.1⟩)] at hc
      omega
    rw [hf]
    unfold memD
    rw [if_neg]
    · rfl
    · intro h2
      have h3 := ixB_iff.1 h2
      unfold cntD at h3
      by_cases h4 : siteOk s = true
      · rw [if_pos h4] at h3
        have h5 : cntOf s d = 0 := by unfold cntOf; split <;> first | rfl | exact absurd ⟨h4, by decide⟩ hh
        omega
      · rw [if_neg h4] at h3
        omega
set_option maxHeartbeats 16000000 in
theorem c_rMembers (p : SP) (s : SiteD) (d : Nat) (hd : d < 256) (n : Int) (h40 : s.hosts.length ≤ 40) (w : World) (h : SiAt w p s) :
    Calls Try.prog 18 #[siV p s, .int .u8 (d : Int), .int .i64 n] w fun e w' => ∃ v, e = .returned v ∧ w'.ownsRow w.heap.size 3 1 v (memD s d n).length (ints (memD s d n)) ∧ Below w.heap.size w w' := by
  have HC := Lib.hid (fun (k : Nat) (r : Int) (hr : domD s d (k : Int) = r) (X : World) (hX : SiAt X p s) => c_rDom p s d hd (k : Int) r hr X hX)
  unfold siV at HC
  unfold siV
  obtain ⟨W, hW⟩ : ∃ W, W = w.alloc (.cells #[.slice p.a1 s.feeds.length p.c1, .slice p.a2 s.brks.length p.c2, .slice p.a3 s.loops.length p.c3, .slice p.a4 s.racks.length p.c4, .int .i64 s.sw, .slice p.a5 s.links.length p.c5, .slice p.a6 s.hosts.length p.c6] 29) := ⟨_, rfl⟩
  have B0 : Below w.heap.size w W := by subst hW; exact (Below.refl _ _).alloc (Nat.le_refl _) _
  have HB0 := Lib.hid B0
  have HX := Lib.hid (show SiBox W w.heap.size p s by subst hW; exact siBox_new _ _ _)
  have HA := Lib.hid (h.on B0 (Nat.le_refl _))
  have HF := Lib.hid (fun (X : World) (hX : Below W.heap.size W X) => (let z := HX.out.on hX (Nat.le_refl _); ⟨z.c0, z.c1, z.c2, z.c3, z.c4, z.c5, z.c6⟩ : X.cell? ⟨w.heap.size, 0, none⟩ = some (.slice p.a1 s.feeds.length p.c1) ∧ X.cell? ⟨w.heap.size, 1, none⟩ = some (.slice p.a2 s.brks.length p.c2) ∧ X.cell? ⟨w.heap.size, 2, none⟩ = some (.slice p.a3 s.loops.length p.c3) ∧ X.cell? ⟨w.heap.size, 3, none⟩ = some (.slice p.a4 s.racks.length p.c4) ∧ X.cell? ⟨w.heap.size, 4, none⟩ = some (.int .i64 s.sw) ∧ X.cell? ⟨w.heap.size, 5, none⟩ = some (.slice p.a5 s.links.length p.c5) ∧ X.cell? ⟨w.heap.size, 6, none⟩ = some (.slice p.a6 s.hosts.length p.c6)))
  have m1 := h.feeds.1; have m2 := h.brks.1; have m3 := h.loops.1; have m4 := h.racks.1; have m5 := h.links.1; have m6 := h.hosts.1
  have n1 := h.feeds.2.1; have n2 := h.brks.2.1; have n3 := h.loops.2.1; have n4 := h.racks.2.1; have n5 := h.links.2.1; have n6 := h.hosts.2.1
  unfold maxLen at n1 n2 n3 n4 n5 n6
  have KW := Lib.hid (Below.refl W.heap.size W)
  have hlw : w.heap.size < W.heap.size := HX.out.lt
  clear B0 h
  obtain ⟨f0, f1, f2, f3, f4, f5, f6⟩ := HF.out W KW.out
  rw [hW] at f0 f1 f2 f3 f4 f5 f6
  obtain ⟨i1, hi1, hz1, hz2, hz3⟩ := info_parts int_info
  rcases hn : decide (0 ≤ n) with _ | _
  · rw [memD_neg (by have := of_decide_eq_false hn; omega)]
    go_enter Try.func18, Try.ntmps18
    go_wp2_with (fail)
    rw [← hW]
    rw [← hW] at f0 f1 f2 f3 f4 f5 f6
    clear hW
    go_loopw [7, 8] (fun v i wr => Hid (v = .slice none 0 0 ∧ i = .int .i64 0 ∧ wr = W)) (fun _ i _ => 0)
    case atStart => exact Lib.hid ⟨rfl, rfl, rfl⟩
    case round =>
      obtain ⟨rfl, rfl, rfl⟩ := hrel.out
      go_wp2_with (fail)
      all_goals go_ret
      all_goals exact ⟨_, rfl, World.ownsRow_nil _ _ _ _, HB0.out⟩
  have hn0 := of_decide_eq_true hn
  have HM := Lib.hid (memD_ref (s := s) (d := d) hn0)
  go_enter Try.func18, Try.ntmps18
  go_wp2_with (fail)
  rw [← hW]
  clear hW f0 f1 f2 f3 f4 f5 f6
  go_loopw [7, 8] (fun v i wr => ∃ k : Nat, k ≤ s.hosts.length ∧ i = .int .i64 (k : Int) ∧ Hid (Below W.heap.size W wr) ∧ Hid (wr.ownsRow W.heap.size 3 1 v (nats ((List.range k).filter (fun (h : Nat) => domD s d (h : Int) == n))).length (ints (nats ((List.range k).filter (fun (h : Nat) => domD s d (h : Int) == n)))))) (fun _ i _ => s.hosts.length - (intOf i).toNat)
  case atStart => exact ⟨0, Nat.zero_le _, rfl, Lib.hid (Below.refl _ _), Lib.hid (World.ownsRow_nil _ _ _ _)⟩
  case round =>
    obtain ⟨k, hk, rfl, hB, ho⟩ := hrel
    have hki : ((k : Nat) : Int).toNat = k := by omega
    obtain ⟨f0, f1, f2, f3, f4, f5, f6⟩ := HF.out wr hB.out
    by_cases hlt : k < s.hosts.length
    · have hkl : (k : Int) < (s.hosts.length : Int) := by omega
      have hln : (nats ((List.range k).filter (fun (h : Nat) => domD s d (h : Int) == n))).length ≤ 40 := by rw [nats_len]; exact Nat.le_trans (List.length_filter_le _ _) (by rw [List.length_range]; omega)
      obtain ⟨nn, hnn⟩ : ∃ m, m = (nats ((List.range k).filter (fun (h : Nat) => domD s d (h : Int) == n))).length := ⟨_, rfl⟩
      obtain ⟨x, hx⟩ : ∃ x, domD s d (k : Int) = x := ⟨_, rfl⟩
      rw [← hnn] at ho hln
      have HNN := Lib.hid hnn
      have HXX := Lib.hid hx
      obtain ⟨As, cs, rfl⟩ := own_shape ho.out
      have hz3' := hB.out.size
      clear hnn hx
      go_wp2_with (fail)
      clear f0 f1 f2 f3 f4 f5 f6
      go_at_call 15
      refine (HC.out k x HXX.out wr (HA.out.on hB.out (Nat.le_refl _))).mono ?_
      rintro e wz ⟨rfl, bz⟩
      have HBz := Lib.hid (below_join hB.out bz hB.out.size)
      have HOz := Lib.hid (own_on ho.out bz (Nat.le_refl _))
      have hz4 := bz.size
      clear bz
      rcases hf : (x == n) with _ | _
      · have HO := Lib.hid (show wz.ownsRow W.heap.size 3 1 (.slice As nn cs) (nats ((List.range (k + 1)).filter (fun (h : Nat) => domD s d (h : Int) == n))).length (ints (nats ((List.range (k + 1)).filter (fun (h : Nat) => domD s d (h : Int) == n)))) by
          rw [range_filter, show (domD s d (k : Int) == n) = false by rw [HXX.out]; exact hf]
          simp only [Bool.false_eq_true, if_false, List.append_nil]
          rw [← HNN.out]; exact HOz.out)
        go_wp2_with (fail)
        go_roundw
        case rel => exact ⟨k + 1, by omega, by go_num, HBz, HO⟩
        case measure => simp only [intOf]; omega
      · have HFF := Lib.hid hf
        go_wp2_with (at_builtin; refine wpList_append_lies _ rfl _ _ 37 rfl W.heap.size 3 i1 (.int .i64 0) 1 8 Try.underlying37 hi1 hz1 hz2 hz3 rfl (by decide) (.slice As nn cs) nn _ rfl (HOz.out.alloc _) ⟨wz.heap.size, 0, none⟩ 1 1 [.int .i64 (k : Int)] rfl rfl (World.news_of_block (heap_alloc_new _ _)) (by simp [Value.oneCell']) (by decide) (by unfold maxLen; omega) (by omega) (by simp; omega) (wz.heap.size + 1) (by simp) ?_; intro g4 cap4 Z hown hgrow _ _; have HBZ := Lib.hid ((HBz.out.alloc HBz.out.size _).grown hgrow (by simp; omega) (fun k hk => (ownsRow_lt HOz.out hk).1)); have HOZ := Lib.hid hown; clear hown hgrow)
        have HO := Lib.hid (show Z.ownsRow W.heap.size 3 1 (.slice (some ⟨g4, 0, none⟩) (nn + 1) cap4) (nats ((List.range (k + 1)).filter (fun (h : Nat) => domD s d (h : Int) == n))).length (ints (nats ((List.range (k + 1)).filter (fun (h : Nat) => domD s d (h : Int) == n)))) by
          rw [range_filter, show (domD s d (k : Int) == n) = true by rw [HXX.out]; exact HFF.out]
          simp only [if_true]
          rw [show nats (((List.range k).filter (fun (h : Nat) => domD s d (h : Int) == n)) ++ [k]) = (nats ((List.range k).filter (fun (h : Nat) => domD s d (h : Int) == n))) ++ [(k : Int)] by simp [nats], List.length_append, List.length_singleton, ← HNN.out, ints_snoc]
          exact HOZ.out)
        go_roundw
        case rel => exact ⟨k + 1, by omega, by go_num, HBZ, HO⟩
        case measure => simp only [intOf]; omega
    · obtain rfl : k = s.hosts.length := by omega
      have HO := Lib.hid (own_mono ho.out HB0.out.size)
      rw [HM.out] at HO
      go_wp2_with (fail)
      go_ret
      exact ⟨_, rfl, HO.out, below_join HB0.out hB.out HB0.out.size⟩
/-- Lists of at most 40 elements. -/
def fewB (s : SiteD) : Bool := decide ((s.feeds.length : Int) ≤ 40) && (decide ((s.brks.length : Int) ≤ 40) && (decide ((s.loops.length : Int) ≤ 40) && (decide ((s.racks.length : Int) ≤ 40) && (decide ((s.links.length : Int) ≤ 40) && (decide ((s.hosts.length : Int) ≤ 40))))))
set_option maxHeartbeats 8000000 in
theorem c_few (p : SP) (s : SiteD) (r : Bool) (hr : fewB s = r) (w : World) (h : SiAt w p s) :
    Calls Try.prog 8 #[siV p s] w fun e w' => e = .returned (.bool r) ∧ Below w.heap.size w w' := by
  unfold siV
  obtain ⟨W, hW⟩ : ∃ W, W = w.alloc (.cells #[.slice p.a1 s.feeds.length p.c1, .slice p.a2 s.brks.length p.c2, .slice p.a3 s.loops.length p.c3, .slice p.a4 s.racks.length p.c4, .int .i64 s.sw, .slice p.a5 s.links.length p.c5, .slice p.a6 s.hosts.length p.c6] 29) := ⟨_, rfl⟩
  have B0 : Below w.heap.size w W := by subst hW; exact (Below.refl _ _).alloc (Nat.le_refl _) _
  have HB0 := Lib.hid B0
  have HX := Lib.hid (show SiBox W w.heap.size p s by subst hW; exact siBox_new _ _ _)
  have HA := Lib.hid (h.on B0 (Nat.le_refl _))
  have HF := Lib.hid (fun (X : World) (hX : Below W.heap.size W X) => (let z := HX.out.on hX (Nat.le_refl _); ⟨z.c0, z.c1, z.c2, z.c3, z.c4, z.c5, z.c6⟩ : X.cell? ⟨w.heap.size, 0, none⟩ = some (.slice p.a1 s.feeds.length p.c1) ∧ X.cell? ⟨w.heap.size, 1, none⟩ = some (.slice p.a2 s.brks.length p.c2) ∧ X.cell? ⟨w.heap.size, 2, none⟩ = some (.slice p.a3 s.loops.length p.c3) ∧ X.cell? ⟨w.heap.size, 3, none⟩ = some (.slice p.a4 s.racks.length p.c4) ∧ X.cell? ⟨w.heap.size, 4, none⟩ = some (.int .i64 s.sw) ∧ X.cell? ⟨w.heap.size, 5, none⟩ = some (.slice p.a5 s.links.length p.c5) ∧ X.cell? ⟨w.heap.size, 6, none⟩ = some (.slice p.a6 s.hosts.length p.c6)))
  have m1 := h.feeds.1; have m2 := h.brks.1; have m3 := h.loops.1; have m4 := h.racks.1; have m5 := h.links.1; have m6 := h.hosts.1
  have n1 := h.feeds.2.1; have n2 := h.brks.2.1; have n3 := h.loops.2.1; have n4 := h.racks.2.1; have n5 := h.links.2.1; have n6 := h.hosts.2.1
  unfold maxLen at n1 n2 n3 n4 n5 n6
  have KW := Lib.hid (Below.refl W.heap.size W)
  have hlw : w.heap.size < W.heap.size := HX.out.lt
  have HR := Lib.hid (show (decide ((s.feeds.length : Int) ≤ 40) && (decide ((s.brks.length : Int) ≤ 40) && (decide ((s.loops.length : Int) ≤ 40) && (decide ((s.racks.length : Int) ≤ 40) && (decide ((s.links.length : Int) ≤ 40) && (decide ((s.hosts.length : Int) ≤ 40))))))) = r from hr)
  clear B0 h hr
  obtain ⟨f0, f1, f2, f3, f4, f5, f6⟩ := HF.out W KW.out
  rw [hW] at f0 f1 f2 f3 f4 f5 f6
  rcases g0 : decide ((s.feeds.length : Int) ≤ 40) with _ | _
  · obtain rfl : false = r := by have h := HR.out; rw [g0] at h; exact h
    go_enter Try.func8, Try.ntmps8
    go_wp2_with (fail)
    go_ret
    rw [← hW]
    exact ⟨rfl, HB0.out⟩
  rcases g1 : decide ((s.brks.length : Int) ≤ 40) with _ | _
  · obtain rfl : false = r := by have h := HR.out; rw [g0, g1] at h; exact h
    go_enter Try.func8, Try.ntmps8
    go_wp2_with (fail)
    go_ret
    rw [← hW]
    exact ⟨rfl, HB0.out⟩
  rcases g2 : decide ((s.loops.length : Int) ≤ 40) with _ | _
  · obtain rfl : false = r := by have h := HR.out; rw [g0, g1, g2] at h; exact h
    go_enter Try.func8, Try.ntmps8
    go_wp2_with (fail)
    go_ret
    rw [← hW]
    exact ⟨rfl, HB0.out⟩
  rcases g3 : decide ((s.racks.length : Int) ≤ 40) with _ | _
  · obtain rfl : false = r := by have h := HR.out; rw [g0, g1, g2, g3] at h; exact h
    go_enter Try.func8, Try.ntmps8
    go_wp2_with (fail)
    go_ret
    rw [← hW]
    exact ⟨rfl, HB0.out⟩
  rcases g4 : decide ((s.links.length : Int) ≤ 40) with _ | _
  · obtain rfl : false = r := by have h := HR.out; rw [g0, g1, g2, g3, g4] at h; exact h
    go_enter Try.func8, Try.ntmps8
    go_wp2_with (fail)
    go_ret
    rw [← hW]
    exact ⟨rfl, HB0.out⟩
  rcases g5 : decide ((s.hosts.length : Int) ≤ 40) with _ | _
  · obtain rfl : false = r := by have h := HR.out; rw [g0, g1, g2, g3, g4, g5] at h; exact h
    go_enter Try.func8, Try.ntmps8
    go_wp2_with (fail)
    go_ret
    rw [← hW]
    exact ⟨rfl, HB0.out⟩
  obtain rfl : true = r := by have h := HR.out; rw [g0, g1, g2, g3, g4, g5] at h; exact h
  go_enter Try.func8, Try.ntmps8
  go_wp2_with (fail)
  go_ret
  rw [← hW]
  exact ⟨rfl, HB0.out⟩
end Go.Proofs.Ytoknombajocjlaa
