/-
  DERIVED. Several texts in one.
-/
import Derived.Test.YtacdpklgnibkeaaPO1
import Derived.WalkMore
import Derived.Test.YtacdpklgnibkeaaPB2
set_option linter.unusedVariables false
set_option linter.unusedSimpArgs false

namespace Go.Proofs.Ytacdpklgnibkeaa
open Go.RowKit
set_option maxRecDepth 100000
set_option linter.unusedVariables false
set_option linter.unusedSimpArgs false

noncomputable def wiF (s : SiteD) (a : Nat) (most : Int) (k : Nat) : Bool := decide (0 ≤ laS s a k ∧ laS s a k ≤ most)
noncomputable def wiL (s : SiteD) (a : Nat) (most : Int) (k : Nat) : List Nat := (List.range k).filter (wiF s a most)
noncomputable def witI (s : SiteD) (a most : Int) : List Nat := if siteOk s = true ∧ ixB a s.hosts.length = true then wiL s a.toNat most s.hosts.length else []
theorem wiL_len (s : SiteD) (a : Nat) (most : Int) (k : Nat) : (wiL s a most k).length ≤ k := Nat.le_trans (List.length_filter_le _ _) (by rw [List.length_range]; omega)
theorem wiL_succ (s : SiteD) (a : Nat) (most : Int) (k : Nat) : wiL s a most (k + 1) = wiL s a most k ++ if wiF s a most k then [k] else [] := by unfold wiL; rw [List.range_succ, List.filter_append]; congr 1; cases h : wiF s a most k <;> simp [h]
theorem nats_snoc (l : List Nat) (k : Nat) : nats (l ++ [k]) = nats l ++ [(k : Int)] := by simp [nats]
set_option maxHeartbeats 8000000 in
theorem c_within1 (bs bm ba bo : Nat) (p : SP) (s : SiteD) (hs : siteOk s = true) (a k : Nat) (ha : a < s.hosts.length) (hk : k < s.hosts.length) (most : Int) (w : World) (hbox : SiBox w bs p s) (h : SiAt w p s) (hm : MxAt w bm (wS s))
    (h1 : w.heap[ba]? = some (.cells #[.int .i64 (a : Int)] 3 (0, 0))) (h2 : w.heap[bo]? = some (.cells #[.int .i64 most] 3 (0, 0))) (r : Bool) (hr : wiF s a most k = r) :
    Calls Try.prog 29 #[.int .i64 (k : Int), .pointer (some ⟨bs, 0, none⟩), .pointer (some ⟨bm, 0, none⟩), .pointer (some ⟨ba, 0, none⟩), .pointer (some ⟨bo, 0, none⟩)] w fun e w' => e = .returned (.bool r) ∧ Below w.heap.size w w' := by
  have HC := Lib.hid (c_neLatency p s hs a k ha hk w h)
  unfold siV at HC
  obtain ⟨z, hz⟩ : ∃ z, laS s a k = z := ⟨_, rfl⟩
  rw [hz] at HC
  have HR := Lib.hid (show decide (0 ≤ z ∧ z ≤ most) = r by rw [← hr]; unfold wiF; rw [hz])
  have HM := Lib.hid hm
  have g0 := hbox.c0; have g1 := hbox.c1; have g2 := hbox.c2; have g3 := hbox.c3; have g4 := hbox.c4; have g5 := hbox.c5; have g6 := hbox.c6
  have x0 := cell_of h1 (o := 0) rfl
  have HO := Lib.hid (fun (X : World) (hX : Below w.heap.size w X) => (cell_of (box_on h2 hX (Nat.le_refl _)) (o := 0) rfl : X.cell? ⟨bo, 0, none⟩ = some (.int .i64 most)))
  clear hr hz hm hbox h h1 h2
  go_enter Try.func29, Try.ntmps29
  go_wp2_with (refine ld_mx rfl _ rfl (.tmp 2) rfl rfl HM.out ?_)
  go_at_call 27
  refine HC.out.mono ?_
  rintro e w1 ⟨rfl, bb⟩
  have K1 := Lib.hid bb
  have y0 := HO.out w1 K1.out
  clear bb g0 g1 g2 g3 g4 g5 g6 x0
  rcases h1 : decide (0 ≤ z) with _ | _
  · have h1' := of_decide_eq_false h1
    obtain rfl : false = r := by rw [← HR.out]; symm; exact decide_eq_false (fun h => h1' h.1)
    go_wp2_with (fail)
    go_ret
    exact ⟨rfl, K1.out⟩
  · have h1' := of_decide_eq_true h1
    obtain rfl : decide (z ≤ most) = r := by rw [← HR.out]; simp [h1']
    go_wp2_with (fail)
    go_ret
    exact ⟨rfl, K1.out⟩
set_option maxHeartbeats 16000000 in
theorem c_neWithin (p : SP) (s : SiteD) (a most : Int) (r : List Nat) (hr : witI s a most = r) (w : World) (h : SiAt w p s) :
    Calls Try.prog 17 #[siV p s, .int .i64 a, .int .i64 most] w fun e w' => ∃ v, e = .returned v ∧ w'.ownsRow w.heap.size 3 1 v (nats r).length (ints (nats r)) ∧ Below w.heap.size w w' := by
  unfold siV
  have hmf : ∀ (fn : Fn) (first cap : Array Value) (w : World), (Instr.makeFunc fn first cap).run Try.prog w = .ok (.func fn first cap) w := fun _ _ _ _ => rfl
  have hzm := (zero_of_info len_zero).1
  obtain ⟨W1, h1⟩ : ∃ W, W = w.alloc (.cells #[.slice p.a1 s.feeds.length p.c1, .slice p.a2 s.brks.length p.c2, .slice p.a3 s.loops.length p.c3, .slice p.a4 s.racks.length p.c4, .int .i64 s.sw, .slice p.a5 s.links.length p.c5, .slice p.a6 s.hosts.length p.c6] 29) := ⟨_, rfl⟩
  have z1 : W1.heap.size = w.heap.size + 1 := by rw [h1, World.size_alloc]
  have B1 : Below w.heap.size w W1 := by rw [h1]; exact (Below.refl _ _).alloc (Nat.le_refl _) _
  have X1 : SiBox W1 w.heap.size p s := by rw [h1]; exact siBox_new _ _ _
  obtain ⟨W2, h2⟩ : ∃ W, W = W1.alloc (.cells #[.int .i64 a] 3) := ⟨_, rfl⟩
  have z2 : W2.heap.size = w.heap.size + 1 + 1 := by rw [h2, World.size_alloc, z1]
  have B2 : Below w.heap.size w W2 := by rw [h2]; exact B1.alloc (by omega) _
  have X2 : SiBox W2 w.heap.size p s := by rw [h2]; exact old_heap _ X1
  have M0 : W2.heap[w.heap.size + 1]? = some (.cells #[.int .i64 a] 3 (0, 0)) := by rw [h2, ← z1]; exact box_new _ _ _
  obtain ⟨W, h3⟩ : ∃ W, W = W2.alloc (.cells #[.int .i64 most] 3) := ⟨_, rfl⟩
  have z3 : W.heap.size = w.heap.size + 1 + 1 + 1 := by rw [h3, World.size_alloc, z2]
  have B3 : Below w.heap.size w W := by rw [h3]; exact B2.alloc (by omega) _
  have X3 : SiBox W w.heap.size p s := by rw [h3]; exact old_heap _ X2
  have M0 : W.heap[w.heap.size + 1]? = some (.cells #[.int .i64 a] 3 (0, 0)) := by rw [h3]; exact old_heap _ M0
  have M1 : W.heap[w.heap.size + 1 + 1]? = some (.cells #[.int .i64 most] 3 (0, 0)) := by rw [h3, ← z2]; exact box_new _ _ _
  have HB := Lib.hid B3
  have HZ := Lib.hid z3
  have HA := Lib.hid (fun (X : World) (hX : Below W.heap.size W X) => (h.on B3 (Nat.le_refl _)).on hX (Nat.le_refl _))
  have HF := Lib.hid (fun (X : World) (hX : Below W.heap.size W X) => (let z := X3.on hX (Nat.le_refl _); ⟨z.c0, z.c1, z.c2, z.c3, z.c4, z.c5, z.c6⟩ : X.cell? ⟨w.heap.size, 0, none⟩ = some (.slice p.a1 s.feeds.length p.c1) ∧ X.cell? ⟨w.heap.size, 1, none⟩ = some (.slice p.a2 s.brks.length p.c2) ∧ X.cell? ⟨w.heap.size, 2, none⟩ = some (.slice p.a3 s.loops.length p.c3) ∧ X.cell? ⟨w.heap.size, 3, none⟩ = some (.slice p.a4 s.racks.length p.c4) ∧ X.cell? ⟨w.heap.size, 4, none⟩ = some (.int .i64 s.sw) ∧ X.cell? ⟨w.heap.size, 5, none⟩ = some (.slice p.a5 s.links.length p.c5) ∧ X.cell? ⟨w.heap.size, 6, none⟩ = some (.slice p.a6 s.hosts.length p.c6)))
  have HX := Lib.hid (fun (X : World) (hX : Below W.heap.size W X) => X3.on hX (Nat.le_refl _))
  have HM0 := Lib.hid (fun (X : World) (hX : Below W.heap.size W X) => (box_on M0 hX (Nat.le_refl _) : X.heap[w.heap.size + 1]? = some (.cells #[.int .i64 a] 3 (0, 0))))
  have HM1 := Lib.hid (fun (X : World) (hX : Below W.heap.size W X) => (box_on M1 hX (Nat.le_refl _) : X.heap[w.heap.size + 1 + 1]? = some (.cells #[.int .i64 most] 3 (0, 0))))
  have HKW := Lib.hid (Below.refl W.heap.size W)
  have hle := HB.out.size
  have n0 := h.feeds.1; have m0 := h.feeds.2.1
  have n1 := h.brks.1; have m1 := h.brks.2.1
  have n2 := h.loops.1; have m2 := h.loops.2.1
  have n3 := h.racks.1; have m3 := h.racks.2.1
  have n4 := h.links.1; have m4 := h.links.2.1
  have n5 := h.hosts.1; have m5 := h.hosts.2.1
  unfold maxLen at m0 m1 m2 m3 m4 m5
  obtain ⟨r0, hr0⟩ : ∃ r, siteOk s = r := ⟨_, rfl⟩
  have HR0 := Lib.hid hr0
  have HR := Lib.hid hr
  clear hr hr0
  obtain ⟨r1, hr1⟩ : ∃ r, [a].all (fun x => ixB x (s.hosts.length : Int)) = r := ⟨_, rfl⟩
  have HR1 := Lib.hid hr1
  clear hr1
  clear h z1 B1 X1 z2 B2 X2 z3 B3 X3 M0 M1
  obtain ⟨f0, f1, f2, f3, f4, f5, f6⟩ := HF.out W HKW.out
  have c00 := cell_of (HM0.out W HKW.out) (o := 0) rfl
  have c10 := cell_of (HM1.out W HKW.out) (o := 0) rfl
  rw [h3, h2, h1] at f0 f1 f2 f3 f4 f5 f6 c00 c10
  generalize hBB : w.heap.size = B at *
  go_enter Try.func17, Try.ntmps17
  go_wp2_with (fail)
  rw [← h1, ← h2, ← h3]
  clear h1 h2 h3 f0 f1 f2 f3 f4 f5 f6 c00 c10
  go_at_call 20
  refine (c_stValid p s r0 HR0.out W (HA.out W HKW.out)).mono ?_
  rintro e v1 ⟨rfl, bb⟩
  have HKv1 := Lib.hid (below_join HKW.out bb HKW.out.size)
  clear bb
  cases r0
  · skip
    go_wp2_with (fail)
    obtain rfl : [] = r := by rw [← HR.out]; unfold witI; rw [if_neg (by rw [HR0.out]; simp)]
    go_ret
    exact ⟨_, rfl, World.ownsRow_nil _ _ _ _, below_join HB.out HKv1.out hle⟩
  have a0 := cell_of (HM0.out v1 HKv1.out) (o := 0) rfl
  obtain ⟨X152, hX152⟩ : ∃ X, X = v1.alloc (.cells #[.int .i64 a] 3) := ⟨_, rfl⟩
  have b152 : Below v1.heap.size v1 X152 := by subst hX152; exact (Below.refl _ _).alloc (Nat.le_refl _) _
  have HKX152 := Lib.hid (below_join HKv1.out b152 HKv1.out.size)
  have RLX152 := Lib.hid (show Rw 1 inF X152 (some ⟨v1.heap.size, 0, none⟩) 1 [a] by subst hX152; exact rw_lit [a] (by simp [maxLen]) _)
  clear b152
  obtain ⟨f0, f1, f2, f3, f4, f5, f6⟩ := HF.out v1 HKv1.out
  go_wp2_with (fail)
  rw [← hX152]
  clear hX152
  clear f0 f1 f2 f3 f4 f5 f6
  go_at_call 21
  refine (c_areIx (s.hosts.length : Int) (some ⟨v1.heap.size, 0, none⟩) 1 [a] X152 RLX152.out r1 HR1.out).mono ?_
  rintro e v153 ⟨rfl, bb⟩
  have HKv153 := Lib.hid (below_join HKX152.out bb HKX152.out.size)
  have RLv153 := Lib.hid (RLX152.out.on bb (Nat.le_refl _))
  clear bb
  clear a0
  have HRA := Lib.hid ((all1 a (s.hosts.length : Int)).symm.trans HR1.out)
  cases r1
  · skip
    go_wp2_with (fail)
    obtain rfl : [] = r := by
      rw [← HR.out]
      unfold witI
      rw [if_neg (by rintro ⟨-, h1⟩; have := HRA.out; rw [h1] at this; cases this)]
    go_ret
    exact ⟨_, rfl, World.ownsRow_nil _ _ _ _, below_join HB.out HKv153.out hle⟩
  have hab := HRA.out
  rw [ixB_iff] at hab
  obtain ⟨ua, rfl⟩ : ∃ u : Nat, a = u := ⟨a.toNat, by omega⟩
  have hua : ua < s.hosts.length := by omega
  obtain rfl : wiL s ua most s.hosts.length = r := by
    rw [← HR.out]
    unfold witI
    rw [if_pos ⟨HR0.out, ixB_iff.2 hab⟩]
    rfl
  have hnh := (siteOk_iff.1 HR0.out).nhosts.2
  have HOL := Lib.hid (fun (X : World) (hX : Below W.heap.size W X) => c_ofLinks p s HR0.out X (HA.out X hX))
  unfold siV at HOL
  clear hab
  obtain ⟨f0, f1, f2, f3, f4, f5, f6⟩ := HF.out v153 HKv153.out
  go_wp2_with (fail)
  clear f0 f1 f2 f3 f4 f5 f6
  go_at_call 24
  refine (HOL.out v153 HKv153.out).mono ?_
  rintro e v304 ⟨rfl, bb⟩
  have HKv304 := Lib.hid (below_join HKv153.out bb HKv153.out.size)
  clear bb
  go_wp2_with (fail)
  go_at_call 23
  refine (c_waysS HR0.out v304).mono ?_
  rintro e v305 ⟨rfl, bb⟩
  have HKv305 := Lib.hid (below_join HKv304.out bb HKv304.out.size)
  clear bb
  obtain ⟨X306, hX306⟩ : ∃ X, X = v305.alloc (.cells (matA (wS s)) 45) := ⟨_, rfl⟩
  have b306 : Below v305.heap.size v305 X306 := by subst hX306; exact (Below.refl _ _).alloc (Nat.le_refl _) _
  have HKX306 := Lib.hid (below_join HKv305.out b306 HKv305.out.size)
  have MXX306 := Lib.hid (show MxAt X306 v305.heap.size (wS s) by subst hX306; exact MxAt.new _ _)
  clear b306
  obtain ⟨f0, f1, f2, f3, f4, f5, f6⟩ := HF.out X306 HKX306.out
  go_wp2_with (refine st_mx rfl rfl (.tmp 7) (.tmp 25) rfl rfl rfl (MxAt.new _ _) ?_; rw [World.setRow_alloc_new, ← hX306]; clear hX306 hzm)
  clear f0 f1 f2 f3 f4 f5 f6
  obtain ⟨Nm, hNm⟩ : ∃ n, v305.heap.size = n := ⟨_, rfl⟩
  have MXN := MXX306
  rw [hNm] at MXN ⊢
  clear hNm
  have HC1 := Lib.hid (fun (k : Nat) (hk : k < s.hosts.length) (r : Bool) (hr : wiF s ua most k = r) (Y : World) (hY : Below X306.heap.size X306 Y) => c_within1 B Nm (B + 1) (B + 1 + 1) p s HR0.out ua k hua hk most Y (HX.out Y (below_join HKX306.out hY HKX306.out.size)) (HA.out Y (below_join HKX306.out hY HKX306.out.size)) (MXN.out.on hY (Nat.le_refl _)) (HM0.out Y (below_join HKX306.out hY HKX306.out.size)) (HM1.out Y (below_join HKX306.out hY HKX306.out.size)) r hr)
  obtain ⟨i1, hi1, hz1, hz2, hz3⟩ := info_parts int_info
  go_loopw [9, 30] (fun v i wr => ∃ k : Nat, k ≤ s.hosts.length ∧ i = .int .i64 (k : Int) ∧ Hid (Below X306.heap.size X306 wr) ∧ Hid (wr.ownsRow X306.heap.size 3 1 v (nats (wiL s ua most k)).length (ints (nats (wiL s ua most k))))) (fun _ i _ => s.hosts.length - (intOf i).toNat)
  case atStart => exact ⟨0, Nat.zero_le _, rfl, Lib.hid (Below.refl _ _), Lib.hid (World.ownsRow_nil _ _ _ _)⟩
  case round =>
    obtain ⟨k, hk, rfl, hB, ho⟩ := hrel
    have hki : ((k : Nat) : Int).toNat = k := by omega
    by_cases hlt : k < s.hosts.length
    · have hkl : (k : Int) < (s.hosts.length : Int) := by omega
      have hln : (nats (wiL s ua most k)).length ≤ 16 := by rw [nats_len]; have := wiL_len s ua most k; omega
      obtain ⟨nn, hnn⟩ : ∃ m, m = (nats (wiL s ua most k)).length := ⟨_, rfl⟩
      rw [← hnn] at ho hln
      have HNN := Lib.hid hnn
      obtain ⟨fb, hfb⟩ : ∃ r, wiF s ua most k = r := ⟨_, rfl⟩
      have HFB := Lib.hid hfb
      have HC2 := Lib.hid (HC1.out k hlt fb hfb wr hB.out)
      obtain ⟨As, cs, rfl⟩ := own_shape ho.out
      have hz3' := hB.out.size
      clear hnn hfb
      go_wp2_with (fail)
      go_at_call 29
      refine HC2.out.mono ?_
      rintro e wz ⟨rfl, bz⟩
      have HBz := Lib.hid (below_join hB.out bz hB.out.size)
      have HOz := Lib.hid (own_on ho.out bz (Nat.le_refl _))
      have hz4 := bz.size
      clear bz
      cases fb
      · have HO := Lib.hid (show wz.ownsRow X306.heap.size 3 1 (.slice As nn cs) (nats (wiL s ua most (k + 1))).length (ints (nats (wiL s ua most (k + 1)))) by
          rw [wiL_succ, HFB.out]
          simp only [Bool.false_eq_true, if_false, List.append_nil]
          rw [← HNN.out]; exact HOz.out)
        go_wp2_with (fail)
        go_roundw
        case rel => exact ⟨k + 1, by omega, by go_num, HBz, HO⟩
        case measure => simp only [intOf]; omega
      · go_wp2_with (at_builtin; refine wpList_append_lies _ rfl _ _ 34 rfl X306.heap.size 3 i1 (.int .i64 0) 1 8 Try.underlying34 hi1 hz1 hz2 hz3 rfl (by decide) (.slice As nn cs) nn _ rfl (HOz.out.alloc _) ⟨wz.heap.size, 0, none⟩ 1 1 [.int .i64 (k : Int)] rfl rfl (World.news_of_block (heap_alloc_new _ _)) (by simp [Value.oneCell']) (by decide) (by unfold maxLen; omega) (by omega) (by simp; omega) (wz.heap.size + 1) (by simp) ?_; intro g4 cap4 Z hown hgrow _ _; have HBZ := Lib.hid ((HBz.out.alloc HBz.out.size _).grown hgrow (by simp; omega) (fun k hk => (ownsRow_lt HOz.out hk).1)); have HOZ := Lib.hid hown; clear hown hgrow)
        have HO := Lib.hid (show Z.ownsRow X306.heap.size 3 1 (.slice (some ⟨g4, 0, none⟩) (nn + 1) cap4) (nats (wiL s ua most (k + 1))).length (ints (nats (wiL s ua most (k + 1)))) by
          rw [wiL_succ, HFB.out]
          simp only [if_true]
          rw [nats_snoc, List.length_append, List.length_singleton, ← HNN.out, ints_snoc]
          exact HOZ.out)
        go_roundw
        case rel => exact ⟨k + 1, by omega, by go_num, HBZ, HO⟩
        case measure => simp only [intOf]; omega
    · obtain rfl : k = s.hosts.length := by omega
      go_wp2_with (fail)
      go_ret
      exact ⟨_, rfl, own_mono ho.out (Nat.le_trans hle HKX306.out.size), below_join HB.out (below_join HKX306.out hB.out HKX306.out.size) hle⟩
end Go.Proofs.Ytacdpklgnibkeaa

namespace Go.Proofs.Ytacdpklgnibkeaa
open Go.RowKit
set_option maxRecDepth 100000
set_option linter.unusedVariables false
set_option linter.unusedSimpArgs false

noncomputable def wyS (s : SiteD) (a b : Nat) : List Nat := a :: wayV (nS s) (lkN s) a b
noncomputable def wyI (s : SiteD) (a b : Int) : List Nat := if 0 ≤ distI s a b then wyS s a.toNat b.toNat else []
theorem next_find {n : Nat} {L : Nat → Nat → Int} {dd : Nat → Int} {u k x : Nat} (h : nextOf n L dd u = some x) (hk : k < n) (h1 : ∀ y, y < k → isNext L dd u y = false) (h2 : isNext L dd u k = true) : x = k := by
  unfold nextOf at h
  rw [List.find?_eq_some_iff_getElem] at h
  obtain ⟨h3, i, hi, e1, e2⟩ := h
  rw [List.getElem_range] at e1
  subst e1
  have g : ¬ i < k := fun g => by have := h1 i g; rw [h3] at this; cases this
  have g2 : ¬ k < i := fun g => by
    have := e2 k g
    rw [List.getElem_range, h2] at this
    cases this
  omega
theorem next_some {n : Nat} {L : Nat → Nat → Int} {dd : Nat → Int} {u x : Nat} (h : nextOf n L dd u = some x) : x < n ∧ isNext L dd u x = true := by
  unfold nextOf at h
  exact ⟨List.mem_range.1 (List.mem_of_find?_eq_some h), List.find?_some h⟩
theorem nx_iff {s : SiteD} (hs : siteOk s = true) {u k b : Nat} (hd : 0 ≤ dS s u b) : isNext (lkN s) (fun x => dS s x b) u k = true ↔ k ≠ u ∧ lkM s.links u k + wS s k b = wS s u b := by
  obtain ⟨h1, h2, h3, h4⟩ := sk hs
  have d1 := dS_ge hs u b
  have d2 := dS_ge hs k b
  have l1 := h1.top u k
  rw [isNext_iff, lkM_is h4]
  have e1 : wS s u b = dS s u b := by unfold wS wV; rw [if_neg (by unfold dS at hd; omega)]; rfl
  rw [e1]
  by_cases e : k = u
  · subst e
    constructor
    · rintro ⟨g, -, -⟩
      have := lnk_none s.links (k : Int) (fun x hx => (h4 x hx).2.2.1)
      unfold lkN at g
      omega
    · rintro ⟨g, -⟩; exact absurd rfl g
  · rw [if_neg (fun g => e g.symm)]
    by_cases g : dS s k b < 0
    · have e2 : wS s k b = far := by unfold wS wV; rw [if_pos (by unfold dS at g; omega)]
      rw [e2]
      constructor
      · rintro ⟨-, g2, -⟩; exact absurd (show (0 : Int) ≤ dS s k b from g2) (by omega)
      · rintro ⟨-, g2⟩
        exfalso
        have hp := h1.pos u k
        unfold lkN at hp
        unfold far at g2
        split at g2 <;> omega
    · have e2 : wS s k b = dS s k b := by unfold wS wV; rw [if_neg (by unfold dS at g; omega)]; rfl
      rw [e2]
      show (0 ≤ lnk s.links u k ∧ 0 ≤ dS s k b ∧ lnk s.links u k + dS s k b = dS s u b) ↔ _
      constructor
      · rintro ⟨g1, g2, g3⟩
        rw [if_neg (by omega)]
        exact ⟨e, g3⟩
      · rintro ⟨-, g2⟩
        unfold far at g2
        split at g2
        · exfalso; omega
        · exact ⟨by omega, by omega, g2⟩
/-- The way so far: done behind a, rest to come. -/
structure WySt (s : SiteD) (a b u : Nat) (done rest : List Nat) : Prop where
  all : wayV (nS s) (lkN s) a b = done ++ rest
  grd : Grd (nS s) (lkN s) (fun x => dV (nS s) (lkN s) x b) b u rest
  lt : u < nS s
  dd : 0 ≤ dS s u b
  len : done.length ≤ 7000000
theorem WySt.start {s : SiteD} (hs : siteOk s = true) {a b : Nat} (ha : a < nS s) (hb : b < nS s) (hd : 0 ≤ dS s a b) : WySt s a b a [] (wayV (nS s) (lkN s) a b) :=
  ⟨rfl, way_grd (sk hs).1 ha hb hd, ha, hd, by simp⟩
theorem WySt.next {s : SiteD} (hs : siteOk s = true) {a b u k : Nat} {done rest : List Nat} (ha : a < nS s) (hb : b < nS s) (hd : 0 ≤ dS s a b) (h : WySt s a b u done rest) (hne : u ≠ b) (hk : k < nS s) (h1 : ∀ y, y < k → isNext (lkN s) (fun x => dS s x b) u y = false) (h2 : isNext (lkN s) (fun x => dS s x b) u k = true) : ∃ r2, rest = k :: r2 ∧ WySt s a b k (done ++ [k]) r2 ∧ dS s k b < dS s u b := by
  obtain ⟨e, g, l, d, n⟩ := h
  cases rest with
  | nil => exact absurd g hne
  | cons x r2 =>
    obtain ⟨-, g2, g3⟩ := g
    obtain rfl : k = x := (next_find g2 hk h1 h2).symm
    obtain ⟨i1, i2, i3⟩ := isNext_iff.1 h2
    have hp := (sk hs).1.pos u k i1
    refine ⟨r2, rfl, ⟨by rw [e]; simp, g3, hk, i2, ?_⟩, ?_⟩
    rotate_left
    · have i4 : ∀ z : Int, z = dS s k b → lkN s u k + z = dS s u b := fun z hz => by rw [hz]; exact i3
      have := i4 _ rfl
      omega
    have hw := way_ok (sk hs).1 ha hb hd
    have hl := wlen_pos (sk hs).1.pos hw.1
    have hf := dS_ge hs a b
    rw [hw.2.2, e] at hl
    have : (dV (nS s) (lkN s) a b) = dS s a b := rfl
    rw [List.length_append, List.length_cons] at hl
    rw [List.length_append, List.length_singleton]
    omega
theorem WySt.some {s : SiteD} {a b u : Nat} {done rest : List Nat} (h : WySt s a b u done rest) (hne : u ≠ b) : ∃ x, x < nS s ∧ isNext (lkN s) (fun x => dS s x b) u x = true := by
  obtain ⟨e, g, l, d, n⟩ := h
  cases rest with
  | nil => exact absurd g hne
  | cons x r2 => exact ⟨x, next_some g.2.1⟩
theorem WySt.end_ {s : SiteD} {a b : Nat} {done rest : List Nat} (h : WySt s a b b done rest) : wyS s a b = a :: done := by
  obtain ⟨e, g, l, d, n⟩ := h
  unfold wyS
  rw [e]
  cases rest with
  | nil => rw [List.append_nil]
  | cons x r2 => exact absurd rfl g.1
theorem distI_is {s : SiteD} (hs : siteOk s = true) {a b : Nat} (ha : a < nS s) (hb : b < nS s) : distI s a b = dS s a b := by
  have := (sk hs).2.2.1
  unfold distI
  rw [if_pos ⟨hs, ixB_iff.2 (by omega), ixB_iff.2 (by omega)⟩]
  rfl
set_option maxHeartbeats 32000000 in
theorem c_neWay (p : SP) (s : SiteD) (a b : Int) (r : List Nat) (hr : wyI s a b = r) (w : World) (h : SiAt w p s) :
    Calls Try.prog 15 #[siV p s, .int .i64 a, .int .i64 b] w fun e w' => ∃ v, e = .returned v ∧ w'.ownsRow w.heap.size 3 1 v (nats r).length (ints (nats r)) ∧ Below w.heap.size w w' := by
  unfold siV
  have hzm := (zero_of_info len_zero).1
  obtain ⟨W, h1⟩ : ∃ W, W = w.alloc (.cells #[.slice p.a1 s.feeds.length p.c1, .slice p.a2 s.brks.length p.c2, .slice p.a3 s.loops.length p.c3, .slice p.a4 s.racks.length p.c4, .int .i64 s.sw, .slice p.a5 s.links.length p.c5, .slice p.a6 s.hosts.length p.c6] 29) := ⟨_, rfl⟩
  have z1 : W.heap.size = w.heap.size + 1 := by rw [h1, World.size_alloc]
  have B1 : Below w.heap.size w W := by rw [h1]; exact (Below.refl _ _).alloc (Nat.le_refl _) _
  have X1 : SiBox W w.heap.size p s := by rw [h1]; exact siBox_new _ _ _
  have HB := Lib.hid B1
  have HZ := Lib.hid z1
  have HA := Lib.hid (fun (X : World) (hX : Below W.heap.size W X) => (h.on B1 (Nat.le_refl _)).on hX (Nat.le_refl _))
  have HF := Lib.hid (fun (X : World) (hX : Below W.heap.size W X) => (let z := X1.on hX (Nat.le_refl _); ⟨z.c0, z.c1, z.c2, z.c3, z.c4, z.c5, z.c6⟩ : X.cell? ⟨w.heap.size, 0, none⟩ = some (.slice p.a1 s.feeds.length p.c1) ∧ X.cell? ⟨w.heap.size, 1, none⟩ = some (.slice p.a2 s.brks.length p.c2) ∧ X.cell? ⟨w.heap.size, 2, none⟩ = some (.slice p.a3 s.loops.length p.c3) ∧ X.cell? ⟨w.heap.size, 3, none⟩ = some (.slice p.a4 s.racks.length p.c4) ∧ X.cell? ⟨w.heap.size, 4, none⟩ = some (.int .i64 s.sw) ∧ X.cell? ⟨w.heap.size, 5, none⟩ = some (.slice p.a5 s.links.length p.c5) ∧ X.cell? ⟨w.heap.size, 6, none⟩ = some (.slice p.a6 s.hosts.length p.c6)))
  have HX := Lib.hid (fun (X : World) (hX : Below W.heap.size W X) => X1.on hX (Nat.le_refl _))
  have HKW := Lib.hid (Below.refl W.heap.size W)
  have hle := HB.out.size
  have n0 := h.feeds.1; have m0 := h.feeds.2.1
  have n1 := h.brks.1; have m1 := h.brks.2.1
  have n2 := h.loops.1; have m2 := h.loops.2.1
  have n3 := h.racks.1; have m3 := h.racks.2.1
  have n4 := h.links.1; have m4 := h.links.2.1
  have n5 := h.hosts.1; have m5 := h.hosts.2.1
  unfold maxLen at m0 m1 m2 m3 m4 m5
  obtain ⟨r0, hr0⟩ : ∃ r, siteOk s = r := ⟨_, rfl⟩
  have HR0 := Lib.hid hr0
  have HR := Lib.hid hr
  clear hr hr0
  obtain ⟨r1, hr1⟩ : ∃ r, [a, b].all (fun x => ixB x s.sw) = r := ⟨_, rfl⟩
  have HR1 := Lib.hid hr1
  clear hr1
  clear h z1 B1 X1
  obtain ⟨f0, f1, f2, f3, f4, f5, f6⟩ := HF.out W HKW.out
  rw [h1] at f0 f1 f2 f3 f4 f5 f6
  generalize hBB : w.heap.size = B at *
  go_enter Try.func15, Try.ntmps15
  go_wp2_with (fail)
  go_step3
  go_wp2_with (fail)
  rw [← h1]
  clear h1 f0 f1 f2 f3 f4 f5 f6
  go_at_call 20
  refine (c_stValid p s r0 HR0.out W (HA.out W HKW.out)).mono ?_
  rintro e v1 ⟨rfl, bb⟩
  have HKv1 := Lib.hid (below_join HKW.out bb HKW.out.size)
  clear bb
  cases r0
  · skip
    go_wp2_with (fail)
    obtain rfl : [] = r := by rw [← HR.out]; unfold wyI distI; rw [if_neg (by rw [if_neg (by rw [HR0.out]; simp)]; omega)]
    rw [Exit.noGoto_ret]
    go_ret
    exact ⟨_, rfl, World.ownsRow_nil _ _ _ _, below_join HB.out HKv1.out hle⟩
  obtain ⟨X152, hX152⟩ : ∃ X, X = v1.alloc (.cells #[.int .i64 a, .int .i64 b] 3) := ⟨_, rfl⟩
  have b152 : Below v1.heap.size v1 X152 := by subst hX152; exact (Below.refl _ _).alloc (Nat.le_refl _) _
  have HKX152 := Lib.hid (below_join HKv1.out b152 HKv1.out.size)
  have RLX152 := Lib.hid (show Rw 1 inF X152 (some ⟨v1.heap.size, 0, none⟩) 2 [a, b] by subst hX152; exact rw_lit [a, b] (by simp [maxLen]) _)
  clear b152
  obtain ⟨f0, f1, f2, f3, f4, f5, f6⟩ := HF.out v1 HKv1.out
  go_wp2_with (fail)
  rw [← hX152]
  clear hX152
  clear f0 f1 f2 f3 f4 f5 f6
  go_at_call 21
  refine (c_areIx s.sw (some ⟨v1.heap.size, 0, none⟩) 2 [a, b] X152 RLX152.out r1 HR1.out).mono ?_
  rintro e v153 ⟨rfl, bb⟩
  have HKv153 := Lib.hid (below_join HKX152.out bb HKX152.out.size)
  have RLv153 := Lib.hid (RLX152.out.on bb (Nat.le_refl _))
  clear bb
  have HRA := Lib.hid ((all2 a b s.sw).symm.trans HR1.out)
  cases r1
  · skip
    go_wp2_with (fail)
    obtain rfl : [] = r := by
      rw [← HR.out]
      unfold wyI distI
      rw [if_neg (by rw [if_neg (by rintro ⟨-, h1, h2⟩; have := HRA.out; rw [h1, h2] at this; cases this)]; omega)]
    rw [Exit.noGoto_ret]
    go_ret
    exact ⟨_, rfl, World.ownsRow_nil _ _ _ _, below_join HB.out HKv153.out hle⟩
  have hab := HRA.out
  rw [Bool.and_eq_true, ixB_iff, ixB_iff] at hab
  obtain ⟨hn1, hn2, hn3, hn4⟩ := sk HR0.out
  obtain ⟨ua, rfl⟩ : ∃ u : Nat, a = u := ⟨a.toNat, by omega⟩
  obtain ⟨ub, rfl⟩ : ∃ u : Nat, b = u := ⟨b.toNat, by omega⟩
  have hua : ua < nS s := by omega
  have hub : ub < nS s := by omega
  have hub8 : ub < 8 := by omega
  obtain ⟨d, hd⟩ : ∃ d, dS s ua ub = d := ⟨_, rfl⟩
  have HD := Lib.hid hd
  have HCD := Lib.hid (fun (X : World) => c_distance (wS s) ua ub (by omega) (by omega) X)
  rw [dsF_wS HR0.out, hd] at HCD
  have HRR := Lib.hid (show (if 0 ≤ d then wyS s ua ub else []) = r by rw [← HR.out, ← hd]; unfold wyI; rw [distI_is HR0.out hua hub]; rfl)
  have HOL := Lib.hid (fun (X : World) (hX : Below W.heap.size W X) => c_ofLinks p s HR0.out X (HA.out X hX))
  unfold siV at HOL
  have HSW := Lib.hid hn3
  clear hab hd hn1 hn4 hn3
  obtain ⟨f0, f1, f2, f3, f4, f5, f6⟩ := HF.out v153 HKv153.out
  go_wp2_with (fail)
  clear f0 f1 f2 f3 f4 f5 f6
  go_at_call 24
  refine (HOL.out v153 HKv153.out).mono ?_
  rintro e v304 ⟨rfl, bb⟩
  have HKv304 := Lib.hid (below_join HKv153.out bb HKv153.out.size)
  clear bb
  obtain ⟨X305, hX305⟩ : ∃ X, X = v304.alloc (.cells (matA (lkM s.links)) 45) := ⟨_, rfl⟩
  have b305 : Below v304.heap.size v304 X305 := by subst hX305; exact (Below.refl _ _).alloc (Nat.le_refl _) _
  have HKX305 := Lib.hid (below_join HKv304.out b305 HKv304.out.size)
  have MLX305 := Lib.hid (show MxAt X305 v304.heap.size (lkM s.links) by subst hX305; exact MxAt.new _ _)
  clear b305
  go_wp2_with (first | (refine st_mx rfl rfl (.tmp 7) (.tmp 25) rfl rfl rfl (MxAt.new _ _) ?_; rw [World.setRow_alloc_new, ← hX305]; clear hX305) | (refine ld_mx rfl _ rfl (.tmp 7) rfl rfl MLX305.out ?_))
  go_at_call 23
  refine (c_waysS HR0.out X305).mono ?_
  rintro e v306 ⟨rfl, bb⟩
  have HKv306 := Lib.hid (below_join HKX305.out bb HKX305.out.size)
  have MLv306 := Lib.hid (MLX305.out.on bb (Nat.le_refl _))
  clear bb
  obtain ⟨X307, hX307⟩ : ∃ X, X = v306.alloc (.cells (matA (wS s)) 45) := ⟨_, rfl⟩
  have b307 : Below v306.heap.size v306 X307 := by subst hX307; exact (Below.refl _ _).alloc (Nat.le_refl _) _
  have HKX307 := Lib.hid (below_join HKv306.out b307 HKv306.out.size)
  have MLX307 := Lib.hid (MLv306.out.on b307 (Nat.le_refl _))
  have MWX307 := Lib.hid (show MxAt X307 v306.heap.size (wS s) by subst hX307; exact MxAt.new _ _)
  clear b307
  go_wp2_with (first | (refine st_mx rfl rfl (.tmp 8) (.tmp 27) rfl rfl rfl (MxAt.new _ _) ?_; rw [World.setRow_alloc_new, ← hX307]; clear hX307) | (refine ld_mx rfl _ rfl (.tmp 8) rfl rfl MWX307.out ?_))
  go_at_call 22
  refine (HCD.out X307).mono ?_
  rintro e v308 ⟨rfl, bb⟩
  have HKv308 := Lib.hid (below_join HKX307.out bb HKX307.out.size)
  have MLv308 := Lib.hid (MLX307.out.on bb (Nat.le_refl _))
  have MWv308 := Lib.hid (MWX307.out.on bb (Nat.le_refl _))
  clear bb
  rcases hd0 : decide (d < 0) with _ | _
  rotate_left
  · skip
    have hd1 := of_decide_eq_true hd0
    go_wp2_with (fail)
    obtain rfl : [] = r := by rw [← HRR.out, if_neg (by omega)]
    rw [Exit.noGoto_ret]
    go_ret
    exact ⟨_, rfl, World.ownsRow_nil _ _ _ _, below_join HB.out HKv308.out hle⟩
  have hd1 : 0 ≤ d := by have := of_decide_eq_false hd0; omega
  obtain rfl : wyS s ua ub = r := by rw [← HRR.out, if_pos hd1]
  have hdu : 0 ≤ dS s ua ub := by rw [HD.out]; exact hd1
  have HDU := Lib.hid hdu
  have HST := Lib.hid (WySt.start HR0.out hua hub hdu)
  clear hdu hzm
  obtain ⟨W5, hW5⟩ : ∃ Z, Z = v308.alloc (.cells #[.int .i64 (ua : Int)] 3) := ⟨_, rfl⟩
  have B5 : Below v308.heap.size v308 W5 := by rw [hW5]; exact (Below.refl _ _).alloc (Nat.le_refl _) _
  have HK5 := Lib.hid (below_join HKv308.out B5 HKv308.out.size)
  have HO5 := Lib.hid (show W5.ownsRow v308.heap.size 3 1 (.slice (some ⟨v308.heap.size, 0, none⟩) 1 1) (nats [ua]).length (ints (nats [ua])) by
    refine ⟨rfl, .inr ⟨v308.heap.size, 1, #[.int .i64 (ua : Int)], rfl, Nat.le_refl _, by rw [hW5]; exact heap_alloc_new _ _, by simp [nats], by simp [maxLen], by simp [nats], by simp [ints, nats]⟩⟩)
  have HML := Lib.hid (fun (X : World) (hX : Below v308.heap.size v308 X) => MLv308.out.on hX (Nat.le_refl _))
  have HMW := Lib.hid (fun (X : World) (hX : Below v308.heap.size v308 X) => MWv308.out.on hX (Nat.le_refl _))
  have HB5 := Lib.hid B5
  obtain ⟨Nl, hNl⟩ : ∃ n, v304.heap.size = n := ⟨_, rfl⟩
  obtain ⟨Nw, hNw⟩ : ∃ n, v306.heap.size = n := ⟨_, rfl⟩
  rw [hNl] at HML ⊢
  rw [hNw] at HMW ⊢
  clear hNl hNw B5
  obtain ⟨i1, hi1, hz1, hz2, hz3⟩ := info_parts int_info
  go_wp2_with (fail)
  go_step3
  go_wp2_with (fail)
  rw [← hW5]
  clear hW5
  have HS0 := Lib.hid (⟨ua, [], wayV (nS s) (lkN s) ua ub, rfl, HST, HB5, HO5⟩ : ∃ (u : Nat) (done rest : List Nat), (Value.int .i64 (ua : Int)) = .int .i64 (u : Int) ∧ Hid (WySt s ua ub u done rest) ∧ Hid (Below v308.heap.size v308 W5) ∧ Hid (W5.ownsRow v308.heap.size 3 1 (.slice (some ⟨v308.heap.size, 0, none⟩) 1 1) (nats (ua :: done)).length (ints (nats (ua :: done)))))
  go_loopw [9, 10] (fun v z wr => ∃ (u : Nat) (done rest : List Nat), z = .int .i64 (u : Int) ∧ Hid (WySt s ua ub u done rest) ∧ Hid (Below v308.heap.size v308 wr) ∧ Hid (wr.ownsRow v308.heap.size 3 1 v (nats (ua :: done)).length (ints (nats (ua :: done))))) (fun _ z _ => (dS s (intOf z).toNat ub).toNat)
  case atStart => exact HS0.out
  case round =>
    obtain ⟨u, done, rest, rfl, hS, hB, ho⟩ := hrel
    have hui : ((u : Nat) : Int).toNat = u := by omega
    have hub1 : ((ub : Nat) : Int).toNat = ub := by omega
    have hu8 : u < 8 := by have := hS.out.lt; omega
    have hu2 : ((u : Nat) : Int) < 8 := by omega
    have hub2 : ((ub : Nat) : Int) < 8 := by omega
    by_cases hue : u = ub
    · subst hue
      have HE := Lib.hid (WySt.end_ hS.out)
      go_wp2_with (fail)
      rw [Exit.noGoto_ret]
      go_ret
      exact ⟨_, rfl, by rw [HE.out]; exact own_mono ho.out (Nat.le_trans hle HKv308.out.size), below_join HB.out (below_join HKv308.out hB.out HKv308.out.size) hle⟩
    · have hneu : ((u : Int) != (ub : Int)) = true := by simp; omega
      have hln : (nats (ua :: done)).length ≤ 7000001 := by rw [nats_len]; have := hS.out.len; simp; omega
      obtain ⟨nn, hnn⟩ : ∃ m, m = (nats (ua :: done)).length := ⟨_, rfl⟩
      rw [← hnn] at ho hln
      have HNN := Lib.hid hnn
      obtain ⟨As, cs, rfl⟩ := own_shape ho.out
      obtain ⟨f0, f1, f2, f3, f4, f5, f6⟩ := HF.out wr (below_join HKv308.out hB.out HKv308.out.size)
      rw [← HSW.out] at f4
      have HUE := Lib.hid hue
      clear hnn hue
      go_wp2_with (fail)
      clear f0 f1 f2 f3 f4 f5 f6
      go_loopw [9, 10, 41] (fun v z i wr => ∃ k : Nat, k ≤ nS s ∧ v = .slice As nn cs ∧ z = .int .i64 (u : Int) ∧ i = .int .i64 (k : Int) ∧ Hid (∀ y, y < k → isNext (lkN s) (fun x => dS s x ub) u y = false) ∧ Hid (Below v308.heap.size v308 wr) ∧ Hid (wr.ownsRow v308.heap.size 3 1 (.slice As nn cs) nn (ints (nats (ua :: done))))) (fun _ _ i _ => nS s - (intOf i).toNat)
      case atStart => exact ⟨0, Nat.zero_le _, rfl, rfl, rfl, Lib.hid (fun y hy => absurd hy (by omega)), hB, ho⟩
      case round =>
        obtain ⟨k, hk, rfl, rfl, rfl, hno, hB, ho⟩ := hrel
        have hki : ((k : Nat) : Int).toNat = k := by omega
        by_cases hlt : k < nS s
        · have hkl : (k : Int) < ((nS s : Nat) : Int) := by omega
          have hk8 : k < 8 := by omega
          have hk2 : (k : Int) < 8 := by omega
          by_cases hku : k = u
          · have hne : ((k : Int) != (u : Int)) = false := by simp; omega
            have HNO := Lib.hid (show ∀ y, y < k + 1 → isNext (lkN s) (fun x => dS s x ub) u y = false from fun y hy => by
              by_cases e : y < k
              · exact hno.out y e
              · obtain rfl : y = k := by omega
                rw [Bool.eq_false_iff]
                intro g
                exact ((nx_iff HR0.out hS.out.dd).1 g).1 hku)
            go_wp2_with (fail)
            go_quiet (fail)
            go_wp2_with (fail)
            go_roundw
            case rel => exact ⟨k + 1, by omega, rfl, rfl, by go_num, HNO, Lib.hid (below_drewN hB.out), Lib.hid (own_on ho.out (below_drewN (Below.refl _ _)) (Nat.le_refl _))⟩
            case measure => simp only [intOf]; omega
          · have hne : ((k : Int) != (u : Int)) = true := by simp; omega
            have t0 := (HML.out wr hB.out).cell hu8 hk8
            have t1 := (HMW.out wr hB.out).cell hk8 hub8
            have t2 := (HMW.out wr hB.out).cell hu8 hub8
            have hx1 := wV_range (sk HR0.out).1 (sk HR0.out).2.1 k ub
            have hx2 : 0 ≤ lkM s.links u k ∧ lkM s.links u k ≤ far := by
              rw [lkM_is (sk HR0.out).2.2.2]
              have := (sk HR0.out).1.top u k
              unfold lkN at this
              unfold far
              repeat' split
              all_goals omega
            obtain ⟨x, hx⟩ : ∃ x, lkM s.links u k = x := ⟨_, rfl⟩
            obtain ⟨y, hy⟩ : ∃ x, wS s k ub = x := ⟨_, rfl⟩
            obtain ⟨z, hz⟩ : ∃ x, wS s u ub = x := ⟨_, rfl⟩
            have hx1' : 0 ≤ wS s k ub ∧ wS s k ub ≤ far := hx1
            rw [hx] at t0 hx2
            rw [hy] at t1 hx1'
            rw [hz] at t2
            have HXYZ := Lib.hid (show isNext (lkN s) (fun x => dS s x ub) u k = true ↔ x + y = z from by
              rw [nx_iff HR0.out hS.out.dd, hx, hy, hz]
              exact ⟨fun g => g.2, fun g => ⟨hku, g⟩⟩)
            unfold far at hx2 hx1'
            obtain ⟨v1, v2⟩ := hx2
            obtain ⟨v3, v4⟩ := hx1'
            clear hx hy hz hx1
            rcases hxy : (x + y == z) with _ | _
            · have HNO := Lib.hid (show ∀ y, y < k + 1 → isNext (lkN s) (fun x => dS s x ub) u y = false from fun y' hy => by
                by_cases e : y' < k
                · exact hno.out y' e
                · obtain rfl : y' = k := by omega
                  rw [Bool.eq_false_iff]
                  intro g
                  have := HXYZ.out.1 g
                  rw [beq_eq_false_iff_ne] at hxy
                  exact hxy this)
              go_wp2_with (fail)
              go_quiet (fail)
              go_wp2_with (fail)
              go_roundw
              case rel => exact ⟨k + 1, by omega, rfl, rfl, by go_num, HNO, Lib.hid (below_drewN hB.out), Lib.hid (own_on ho.out (below_drewN (Below.refl _ _)) (Nat.le_refl _))⟩
              case measure => simp only [intOf]; omega
            · obtain ⟨r2, hr2, hS2, hdd⟩ := WySt.next HR0.out hua hub HDU.out hS.out HUE.out hlt hno.out (HXYZ.out.2 (eq_of_beq hxy))
              have HS2 := Lib.hid hS2
              have HDD := Lib.hid hdd
              clear hr2 hS2 hdd
              go_wp2_with (fail)
              go_quiet (fail)
              have HBz := Lib.hid (below_drewN (n := nq) hB.out)
              have HOz := Lib.hid (own_on ho.out (below_drewN (n := nq) (Below.refl _ _)) (Nat.le_refl _))
              generalize hwz : wr.drewN nq = wz at *
              have hz3' := HBz.out.size
              clear hwz t0 t1 t2
              go_wp2_with (at_builtin; refine wpList_append_lies _ rfl _ _ 34 rfl v308.heap.size 3 i1 (.int .i64 0) 1 8 Try.underlying34 hi1 hz1 hz2 hz3 rfl (by decide) (.slice As nn cs) nn _ rfl (HOz.out.alloc _) ⟨wz.heap.size, 0, none⟩ 1 1 [.int .i64 (k : Int)] rfl rfl (World.news_of_block (heap_alloc_new _ _)) (by simp [Value.oneCell']) (by decide) (by unfold maxLen; omega) (by omega) (by simp; omega) (wz.heap.size + 1) (by simp) ?_; intro g4 cap4 Z hown hgrow _ _; have HBZ := Lib.hid ((HBz.out.alloc HBz.out.size _).grown hgrow (by simp; omega) (fun k hk => (ownsRow_lt HOz.out hk).1)); have HOZ := Lib.hid hown; clear hown hgrow)
              go_roundw
              case rel => exact ⟨k, done ++ [k], r2, rfl, HS2, HBZ, by
                have e : nats (ua :: (done ++ [k])) = nats (ua :: done) ++ [(k : Int)] := by rw [← List.cons_append, nats_snoc]
                rw [e, List.length_append, List.length_singleton, ← HNN.out, ints_snoc]
                exact HOZ⟩
              case measure => simp only [intOf]; have h1 := HDD.out; have h2 := HS2.out.dd; rw [hui, hki]; omega
        · obtain rfl : k = nS s := by omega
          exfalso
          obtain ⟨x, hx1, hx2⟩ := WySt.some hS.out HUE.out
          have := hno.out x hx1
          rw [hx2] at this
          cases this
end Go.Proofs.Ytacdpklgnibkeaa

namespace Go.Proofs.Ytacdpklgnibkeaa
open Go.RowKit
set_option maxRecDepth 100000
set_option linter.unusedVariables false
set_option linter.unusedSimpArgs false

theorem lnk_take {l : List Lk} {k : Nat} {x : Lk} (h : l[k]? = some x) (a b : Int) : lnk (l.take (k + 1)) a b = upd a b (lnk (l.take k) a b) x := by
  rw [List.take_add_one, h]; exact lnk_snoc _ _ _ _
set_option maxHeartbeats 32000000 in
theorem c_link (p : SP) (s : SiteD) (a b r : Int) (hr : lnk s.links a b = r) (w : World) (h : SiAt w p s) :
    Calls Try.prog 44 #[siV p s, .int .i64 a, .int .i64 b] w fun e w' => e = .returned (.int .i64 r) ∧ Below w.heap.size w w' := by
  unfold siV
  obtain ⟨W, h1⟩ : ∃ W, W = w.alloc (.cells #[.slice p.a1 s.feeds.length p.c1, .slice p.a2 s.brks.length p.c2, .slice p.a3 s.loops.length p.c3, .slice p.a4 s.racks.length p.c4, .int .i64 s.sw, .slice p.a5 s.links.length p.c5, .slice p.a6 s.hosts.length p.c6] 29) := ⟨_, rfl⟩
  have z1 : W.heap.size = w.heap.size + 1 := by rw [h1, World.size_alloc]
  have B1 : Below w.heap.size w W := by rw [h1]; exact (Below.refl _ _).alloc (Nat.le_refl _) _
  have X1 : SiBox W w.heap.size p s := by rw [h1]; exact siBox_new _ _ _
  have HB := Lib.hid B1
  have HZ := Lib.hid z1
  have HA := Lib.hid (fun (X : World) (hX : Below W.heap.size W X) => (h.on B1 (Nat.le_refl _)).on hX (Nat.le_refl _))
  have HF := Lib.hid (fun (X : World) (hX : Below W.heap.size W X) => (let z := X1.on hX (Nat.le_refl _); ⟨z.c0, z.c1, z.c2, z.c3, z.c4, z.c5, z.c6⟩ : X.cell? ⟨w.heap.size, 0, none⟩ = some (.slice p.a1 s.feeds.length p.c1) ∧ X.cell? ⟨w.heap.size, 1, none⟩ = some (.slice p.a2 s.brks.length p.c2) ∧ X.cell? ⟨w.heap.size, 2, none⟩ = some (.slice p.a3 s.loops.length p.c3) ∧ X.cell? ⟨w.heap.size, 3, none⟩ = some (.slice p.a4 s.racks.length p.c4) ∧ X.cell? ⟨w.heap.size, 4, none⟩ = some (.int .i64 s.sw) ∧ X.cell? ⟨w.heap.size, 5, none⟩ = some (.slice p.a5 s.links.length p.c5) ∧ X.cell? ⟨w.heap.size, 6, none⟩ = some (.slice p.a6 s.hosts.length p.c6)))
  have HX := Lib.hid (fun (X : World) (hX : Below W.heap.size W X) => X1.on hX (Nat.le_refl _))
  have HKW := Lib.hid (Below.refl W.heap.size W)
  have hle := HB.out.size
  have n0 := h.feeds.1; have m0 := h.feeds.2.1
  have n1 := h.brks.1; have m1 := h.brks.2.1
  have n2 := h.loops.1; have m2 := h.loops.2.1
  have n3 := h.racks.1; have m3 := h.racks.2.1
  have n4 := h.links.1; have m4 := h.links.2.1
  have n5 := h.hosts.1; have m5 := h.hosts.2.1
  unfold maxLen at m0 m1 m2 m3 m4 m5
  have HR := Lib.hid hr
  clear hr
  clear h z1 B1 X1
  obtain ⟨f0, f1, f2, f3, f4, f5, f6⟩ := HF.out W HKW.out
  rw [h1] at f0 f1 f2 f3 f4 f5 f6
  generalize hBB : w.heap.size = B at *
  go_enter Try.func44, Try.ntmps44
  go_wp2_with (fail)
  rw [← h1]
  clear h1 f0 f1 f2 f3 f4 f5 f6
  go_loopw [7, 8] (fun v i wr => ∃ k : Nat, k ≤ s.links.length ∧ i = .int .i64 (k : Int) ∧ v = .int .i64 (lnk (s.links.take k) a b) ∧ Hid (Below W.heap.size W wr)) (fun _ i _ => s.links.length - (intOf i).toNat)
  case atStart => exact ⟨0, Nat.zero_le _, rfl, rfl, HKW⟩
  case round =>
    obtain ⟨k, hk, rfl, rfl, hB⟩ := hrel
    have hki : ((k : Nat) : Int).toNat = k := by omega
    obtain ⟨f0, f1, f2, f3, f4, f5, f6⟩ := HF.out wr hB.out
    by_cases hlt : k < s.links.length
    · have hkl : (k : Int) < (s.links.length : Int) := by omega
      obtain ⟨⟨xa, xb, lat⟩, hx⟩ : ∃ x, s.links[k]? = some x := ⟨_, List.getElem?_eq_getElem hlt⟩
      have HLL := (HA.out wr hB.out).links
      obtain ⟨pb, po, hpe, -, -⟩ := HLL.at_ hx
      rw [hpe] at HLL f5
      obtain ⟨y0, y1, y2⟩ := rwLink HLL hx
      have HU := Lib.hid (lnk_take hx a b)
      obtain ⟨be, hbe⟩ : ∃ z, lnk (s.links.take k) a b = z := ⟨_, rfl⟩
      rw [hbe] at HU ⊢
      have HXX := Lib.hid hx
      have HBV := Lib.hid (hB.out.alloc hB.out.size (.cells #[.int .i64 xa, .int .i64 xb, .int .i64 lat] 39))
      clear HLL hx hpe hbe
      rcases h1 : (xa == a) with _ | _
      · have h1' : ¬ xa = a := by simpa using h1
        rcases h3 : (xa == b) with _ | _
        · have h3' : ¬ xa = b := by simpa using h3
          have HN := Lib.hid (show lnk (s.links.take (k + 1)) a b = be by rw [HU.out]; unfold upd; rw [if_neg (by rintro ⟨⟨g1, g2⟩ | ⟨g1, g2⟩, -⟩; exact h1' g1; exact h3' g1)])
          go_wp2_with (fail)
          go_roundw
          case rel => exact ⟨k + 1, by omega, by go_num, by rw [HN.out], HBV⟩
          case measure => simp only [intOf]; omega
        · rcases h4 : (xb == a) with _ | _
          · have h4' : ¬ xb = a := by simpa using h4
            have HN := Lib.hid (show lnk (s.links.take (k + 1)) a b = be by rw [HU.out]; unfold upd; rw [if_neg (by rintro ⟨⟨g1, g2⟩ | ⟨g1, g2⟩, -⟩; exact h1' g1; exact h4' g2)])
            go_wp2_with (fail)
            go_roundw
            case rel => exact ⟨k + 1, by omega, by go_num, by rw [HN.out], HBV⟩
            case measure => simp only [intOf]; omega
          · skip
            rcases h5 : decide (be < 0) with _ | _
            · rcases h6 : decide (lat < be) with _ | _
              · have h5' := of_decide_eq_false h5
                have h6' := of_decide_eq_false h6
                have HN := Lib.hid (show lnk (s.links.take (k + 1)) a b = be by rw [HU.out]; unfold upd; rw [if_neg (by rintro ⟨-, h | h⟩; exact h5' h; exact h6' h)])
                go_wp2_with (fail)
                go_roundw
                case rel => exact ⟨k + 1, by omega, by go_num, by rw [HN.out], HBV⟩
                case measure => simp only [intOf]; omega
              · have h6' := of_decide_eq_true h6
                have HN := Lib.hid (show lnk (s.links.take (k + 1)) a b = lat by rw [HU.out]; unfold upd; rw [if_pos ⟨.inr ⟨by simpa using h3, by simpa using h4⟩, .inr h6'⟩])
                go_wp2_with (fail)
                go_roundw
                case rel => exact ⟨k + 1, by omega, by go_num, by rw [HN.out], HBV⟩
                case measure => simp only [intOf]; omega
            · have h5' := of_decide_eq_true h5
              have HN := Lib.hid (show lnk (s.links.take (k + 1)) a b = lat by rw [HU.out]; unfold upd; rw [if_pos ⟨.inr ⟨by simpa using h3, by simpa using h4⟩, .inl h5'⟩])
              go_wp2_with (fail)
              go_roundw
              case rel => exact ⟨k + 1, by omega, by go_num, by rw [HN.out], HBV⟩
              case measure => simp only [intOf]; omega
      · rcases h2 : (xb == b) with _ | _
        · have h2' : ¬ xb = b := by simpa using h2
          rcases h3 : (xa == b) with _ | _
          · have h3' : ¬ xa = b := by simpa using h3
            have HN := Lib.hid (show lnk (s.links.take (k + 1)) a b = be by rw [HU.out]; unfold upd; rw [if_neg (by rintro ⟨⟨g1, g2⟩ | ⟨g1, g2⟩, -⟩; exact h2' g2; exact h3' g1)])
            go_wp2_with (fail)
            go_roundw
            case rel => exact ⟨k + 1, by omega, by go_num, by rw [HN.out], HBV⟩
            case measure => simp only [intOf]; omega
          · rcases h4 : (xb == a) with _ | _
            · have h4' : ¬ xb = a := by simpa using h4
              have HN := Lib.hid (show lnk (s.links.take (k + 1)) a b = be by rw [HU.out]; unfold upd; rw [if_neg (by rintro ⟨⟨g1, g2⟩ | ⟨g1, g2⟩, -⟩; exact h2' g2; exact h4' g2)])
              go_wp2_with (fail)
              go_roundw
              case rel => exact ⟨k + 1, by omega, by go_num, by rw [HN.out], HBV⟩
              case measure => simp only [intOf]; omega
            · skip
              rcases h5 : decide (be < 0) with _ | _
              · rcases h6 : decide (lat < be) with _ | _
                · have h5' := of_decide_eq_false h5
                  have h6' := of_decide_eq_false h6
                  have HN := Lib.hid (show lnk (s.links.take (k + 1)) a b = be by rw [HU.out]; unfold upd; rw [if_neg (by rintro ⟨-, h | h⟩; exact h5' h; exact h6' h)])
                  go_wp2_with (fail)
                  go_roundw
                  case rel => exact ⟨k + 1, by omega, by go_num, by rw [HN.out], HBV⟩
                  case measure => simp only [intOf]; omega
                · have h6' := of_decide_eq_true h6
                  have HN := Lib.hid (show lnk (s.links.take (k + 1)) a b = lat by rw [HU.out]; unfold upd; rw [if_pos ⟨.inr ⟨by simpa using h3, by simpa using h4⟩, .inr h6'⟩])
                  go_wp2_with (fail)
                  go_roundw
                  case rel => exact ⟨k + 1, by omega, by go_num, by rw [HN.out], HBV⟩
                  case measure => simp only [intOf]; omega
              · have h5' := of_decide_eq_true h5
                have HN := Lib.hid (show lnk (s.links.take (k + 1)) a b = lat by rw [HU.out]; unfold upd; rw [if_pos ⟨.inr ⟨by simpa using h3, by simpa using h4⟩, .inl h5'⟩])
                go_wp2_with (fail)
                go_roundw
                case rel => exact ⟨k + 1, by omega, by go_num, by rw [HN.out], HBV⟩
                case measure => simp only [intOf]; omega
        · skip
          rcases h5 : decide (be < 0) with _ | _
          · rcases h6 : decide (lat < be) with _ | _
            · have h5' := of_decide_eq_false h5
              have h6' := of_decide_eq_false h6
              have HN := Lib.hid (show lnk (s.links.take (k + 1)) a b = be by rw [HU.out]; unfold upd; rw [if_neg (by rintro ⟨-, h | h⟩; exact h5' h; exact h6' h)])
              go_wp2_with (fail)
              go_roundw
              case rel => exact ⟨k + 1, by omega, by go_num, by rw [HN.out], HBV⟩
              case measure => simp only [intOf]; omega
            · have h6' := of_decide_eq_true h6
              have HN := Lib.hid (show lnk (s.links.take (k + 1)) a b = lat by rw [HU.out]; unfold upd; rw [if_pos ⟨.inl ⟨by simpa using h1, by simpa using h2⟩, .inr h6'⟩])
              go_wp2_with (fail)
              go_roundw
              case rel => exact ⟨k + 1, by omega, by go_num, by rw [HN.out], HBV⟩
              case measure => simp only [intOf]; omega
          · have h5' := of_decide_eq_true h5
            have HN := Lib.hid (show lnk (s.links.take (k + 1)) a b = lat by rw [HU.out]; unfold upd; rw [if_pos ⟨.inl ⟨by simpa using h1, by simpa using h2⟩, .inl h5'⟩])
            go_wp2_with (fail)
            go_roundw
            case rel => exact ⟨k + 1, by omega, by go_num, by rw [HN.out], HBV⟩
            case measure => simp only [intOf]; omega
    · obtain rfl : k = s.links.length := by omega
      have HE := Lib.hid (show lnk (s.links.take s.links.length) a b = r by rw [List.take_length]; exact HR.out)
      go_wp2_with (fail)
      go_ret
      exact ⟨(show Ending.returned (.int .i64 (lnk (s.links.take s.links.length) a b)) = .returned (.int .i64 r) by rw [HE.out]), below_join HB.out hB.out hle⟩
def hasI (l : List Int) (x : Int) : Bool := l.any (fun y => y == x)
set_option maxHeartbeats 4000000 in
theorem c_has (x : Int) (A : Option Addr) (c : Nat) (l : List Int) (w : World) (h : Rw 1 inF w A c l) (r : Bool) (hr : hasI l x = r) :
    Calls Try.prog 45 #[.slice A l.length c, .int .i64 x] w fun e w' => e = .returned (.bool r) ∧ Below w.heap.size w w' := by
  have H := Lib.hid h
  have HR := Lib.hid hr
  have k1 := h.1; have k2 := h.2.1
  unfold maxLen at k2
  clear h hr
  go_enter Try.func45, Try.ntmps45
  go_wp2_with (fail)
  go_loopw [5] (fun i wr => ∃ k : Nat, k ≤ l.length ∧ i = .int .i64 (k : Int) ∧ Hid (Below w.heap.size w wr) ∧ Hid ((l.take k).any (fun y => y == x) = false)) (fun i _ => l.length - (intOf i).toNat)
  case atStart => exact ⟨0, Nat.zero_le _, rfl, Lib.hid (Below.refl _ _), Lib.hid rfl⟩
  case round =>
    obtain ⟨k, hk, rfl, hB, hall⟩ := hrel
    have hki : ((k : Nat) : Int).toNat = k := by omega
    by_cases hlt : k < l.length
    · obtain ⟨y, hy⟩ : ∃ y, l[k]? = some y := ⟨_, List.getElem?_eq_getElem hlt⟩
      have HK := H.out.on hB.out (Nat.le_refl _)
      obtain ⟨b, o, rfl, -, -⟩ := HK.at_ hy
      have x0 := inRw HK hy
      have hkl : (k : Int) < (l.length : Int) := by omega
      have HY := Lib.hid hy
      clear HK hy
      rcases h1 : (y == x) with _ | _
      · have HN := Lib.hid (show (l.take (k + 1)).any (fun y => y == x) = false by rw [List.take_add_one, HY.out, List.any_append, hall.out]; simpa using h1)
        go_wp2_with (fail)
        go_roundw
        case rel => exact ⟨k + 1, by omega, by go_num, hB, HN⟩
        case measure => simp only [intOf]; omega
      · obtain rfl : true = r := by
          rw [← HR.out]
          unfold hasI
          symm
          rw [List.any_eq_true]
          exact ⟨y, List.mem_of_getElem? HY.out, h1⟩
        go_wp2_with (fail)
        go_ret
        exact ⟨rfl, hB.out⟩
    · obtain rfl : k = l.length := by omega
      obtain rfl : false = r := by rw [← HR.out]; have := hall.out; rw [List.take_length] at this; exact this.symm
      go_wp2_with (fail)
      go_ret
      exact ⟨rfl, hB.out⟩
end Go.Proofs.Ytacdpklgnibkeaa

namespace Go.Proofs.Ytacdpklgnibkeaa
open Go.RowKit
set_option maxRecDepth 100000
set_option linter.unusedVariables false
set_option linter.unusedSimpArgs false

theorem rw_news {w : World} {b of c : Nat} {l : List Int} (h : Rw 1 inF w (some ⟨b, of, none⟩) c l) : ∀ (j : Nat) (u : Value), (ints l)[j]? = some u → w.cell? ((⟨b, of, none⟩ : Addr).add j) = some u := by
  intro j u hj
  unfold ints at hj
  rw [List.getElem?_map] at hj
  cases hx : l[j]? with
  | none => rw [hx] at hj; cases hj
  | some x =>
    rw [hx] at hj
    injection hj with hj
    subst hj
    have e : (⟨b, of, none⟩ : Addr).add j = ⟨b, of + j, none⟩ := by unfold Addr.add; split <;> simp_all
    rw [e]
    exact inRw h hx
theorem ints_one (l : List Int) : ∀ u ∈ ints l, u.oneCell' = true := by intro u hu; obtain ⟨x, -, rfl⟩ := List.mem_map.1 hu; rfl
theorem hasI_nats (l : List Nat) (x : Nat) : hasI (nats l) (x : Int) = decide (x ∈ l) := by
  rw [Bool.eq_iff_iff, decide_eq_true_iff]
  unfold hasI nats
  rw [List.any_eq_true]
  constructor
  · rintro ⟨y, hy, e⟩
    obtain ⟨z, hz, rfl⟩ := List.mem_map.1 hy
    have : (z : Int) = (x : Int) := eq_of_beq e
    have e2 : z = x := by omega
    rw [← e2]; exact hz
  · intro h
    exact ⟨(x : Int), List.mem_map.2 ⟨x, h, rfl⟩, beq_self_eq_true _⟩
/-- The answer of the search. -/
def BsPost (w : World) (F : List Nat × Int) (e : Ending) (w' : World) : Prop := ∃ v, e = .returned (.tuple #[v, .int .i64 F.2]) ∧ w'.ownsRow w.heap.size 3 1 v (nats F.1).length (ints (nats F.1)) ∧ Below w.heap.size w w'
structure WyOk (n f : Nat) (pre : List Nat) (u : Nat) (len : Int) : Prop where
  nd : (pre ++ [u]).Nodup
  lt : ∀ v ∈ pre ++ [u], v < n
  fu : n ≤ pre.length + 1 + f
  l0 : 0 ≤ len
  l1 : len ≤ 1000000 * (pre.length : Int)
  n8 : n ≤ 8
theorem WyOk.len {n f u : Nat} {pre : List Nat} {len : Int} (h : WyOk n f pre u len) : pre.length < 8 := by
  have h1 : u ∉ pre := fun hu => by
    have := List.nodup_append.1 h.nd
    exact this.2.2 u hu u (by simp) rfl
  have := nodup_full (N := n) (l := pre) (List.nodup_append.1 h.nd).1 (fun x hx => h.lt x (by simp [hx])) (h.lt u (by simp)) h1
  have := h.n8
  omega
theorem WyOk.next {n f u k : Nat} {pre : List Nat} {len st : Int} (h : WyOk n (f + 1) pre u len) (hk : k < n) (hn : k ∉ pre ++ [u]) (h0 : 0 ≤ st) (h1 : st ≤ 1000000) : WyOk n f (pre ++ [u]) k (len + st) := by
  refine ⟨?_, ?_, ?_, ?_, ?_, h.n8⟩
  · rw [List.nodup_append]
    exact ⟨h.nd, by simp, fun a ha b hb => by simp at hb; subst hb; exact fun e => hn (e ▸ ha)⟩
  · intro v hv
    rw [List.mem_append] at hv
    rcases hv with hv | hv
    · exact h.lt v hv
    · simp at hv; omega
  · have := h.fu; simp; omega
  · have := h.l0; omega
  · have := h.l1; simp; omega
theorem WyOk.more {n f u k : Nat} {pre : List Nat} {len : Int} (h : WyOk n f pre u len) (hk : k < n) (hn : k ∉ pre ++ [u]) : ∃ f', f = f' + 1 := by
  have := nodup_full h.nd h.lt hk hn
  have h2 := h.fu
  rw [List.length_append, List.length_singleton] at this
  exact ⟨f - 1, by omega⟩
set_option maxHeartbeats 64000000 in
theorem c_best (p : SP) (s : SiteD) (hs : siteOk s = true) (b : Nat) : ∀ (f u : Nat) (pre : List Nat) (len : Int) (A : Option Addr) (c : Nat) (w : World), WyOk (nS s) f pre u len → SiAt w p s → Rw 1 inF w A c (nats (pre ++ [u])) →
    Calls Try.prog 26 #[siV p s, .slice A (nats (pre ++ [u])).length c, .int .i64 (b : Int), .int .i64 len] w (BsPost w (fnd (pre ++ [u]) len (bst (nS s) (lkN s) b f (pre ++ [u]).reverse u))) := by
  intro f
  induction f using Nat.strongRecOn with
  | ind f ih =>
    intro u pre len A c w hok h hw
    have HIH := Lib.hid ih
    have HOK := Lib.hid hok
    have hpl := hok.len
    have hl0 := hok.l0; have hl1 := hok.l1
    have hu8 : u < nS s := hok.lt u (by simp)
    have hwl : (nats (pre ++ [u])).length = pre.length + 1 := by rw [nats_len]; simp
    obtain ⟨m, hm⟩ : ∃ m, pre.length = m := ⟨_, rfl⟩
    rw [hm] at hwl hpl hl1
    have hat : (nats (pre ++ [u]))[m]? = some (u : Int) := by rw [← hm]; simp [nats]
    obtain ⟨ab, ao, hA, hab, -⟩ := hw.at_ hat
    rw [hA] at hw
    have hwb := hw.2.1
    have hwa := hw.1
    unfold maxLen at hwb
    have HWY := Lib.hid hw
    have HAB := Lib.hid hab
    have xat := inRw hw hat
    rw [hA]
    obtain ⟨F0, hF0⟩ : ∃ F, fnd (pre ++ [u]) len (bst (nS s) (lkN s) b f (pre ++ [u]).reverse u) = F := ⟨_, rfl⟩
    rw [hF0]
    have HF0 := Lib.hid hF0
    have HWL := Lib.hid hwl
    have HM := Lib.hid hm
    obtain ⟨nw, hnw⟩ : ∃ n, (nats (pre ++ [u])).length = n := ⟨_, rfl⟩
    rw [hnw] at hwl hwa ⊢
    have HNW := Lib.hid hnw
    have hw1 : IntKind.i64.wrap ((nw : Int) - 1) = (m : Int) := by rw [hwl, show ((m + 1 : Nat) : Int) - 1 = (m : Int) by omega]; exact wrap_in (by omega) (by omega)
    have hm2 : (m : Int) < (nw : Int) := by omega
    have hm3 : (0 : Int) ≤ (m : Int) := by omega
    have hm4 : ((m : Nat) : Int).toNat = m := by omega
    have hnw9 : nw ≤ 9 := by omega
    have hnw0 : 0 < nw := by omega
    unfold siV
    clear hF0 hA hw hat ih hok hm hnw hwl
    obtain ⟨W, h1⟩ : ∃ W, W = w.alloc (.cells #[.slice p.a1 s.feeds.length p.c1, .slice p.a2 s.brks.length p.c2, .slice p.a3 s.loops.length p.c3, .slice p.a4 s.racks.length p.c4, .int .i64 s.sw, .slice p.a5 s.links.length p.c5, .slice p.a6 s.hosts.length p.c6] 29) := ⟨_, rfl⟩
    have z1 : W.heap.size = w.heap.size + 1 := by rw [h1, World.size_alloc]
    have B1 : Below w.heap.size w W := by rw [h1]; exact (Below.refl _ _).alloc (Nat.le_refl _) _
    have X1 : SiBox W w.heap.size p s := by rw [h1]; exact siBox_new _ _ _
    have HB := Lib.hid B1
    have HZ := Lib.hid z1
    have HA := Lib.hid (fun (X : World) (hX : Below W.heap.size W X) => (h.on B1 (Nat.le_refl _)).on hX (Nat.le_refl _))
    have HF := Lib.hid (fun (X : World) (hX : Below W.heap.size W X) => (let z := X1.on hX (Nat.le_refl _); ⟨z.c0, z.c1, z.c2, z.c3, z.c4, z.c5, z.c6⟩ : X.cell? ⟨w.heap.size, 0, none⟩ = some (.slice p.a1 s.feeds.length p.c1) ∧ X.cell? ⟨w.heap.size, 1, none⟩ = some (.slice p.a2 s.brks.length p.c2) ∧ X.cell? ⟨w.heap.size, 2, none⟩ = some (.slice p.a3 s.loops.length p.c3) ∧ X.cell? ⟨w.heap.size, 3, none⟩ = some (.slice p.a4 s.racks.length p.c4) ∧ X.cell? ⟨w.heap.size, 4, none⟩ = some (.int .i64 s.sw) ∧ X.cell? ⟨w.heap.size, 5, none⟩ = some (.slice p.a5 s.links.length p.c5) ∧ X.cell? ⟨w.heap.size, 6, none⟩ = some (.slice p.a6 s.hosts.length p.c6)))
    have HX := Lib.hid (fun (X : World) (hX : Below W.heap.size W X) => X1.on hX (Nat.le_refl _))
    have HKW := Lib.hid (Below.refl W.heap.size W)
    have hle := HB.out.size
    have n0 := h.feeds.1; have m0 := h.feeds.2.1
    have n1 := h.brks.1; have m1 := h.brks.2.1
    have n2 := h.loops.1; have m2 := h.loops.2.1
    have n3 := h.racks.1; have m3 := h.racks.2.1
    have n4 := h.links.1; have m4 := h.links.2.1
    have n5 := h.hosts.1; have m5 := h.hosts.2.1
    unfold maxLen at m0 m1 m2 m3 m4 m5
    have HXA := Lib.hid (fun (X : World) (hX : Below w.heap.size w X) => (hX.cell (p := ⟨ab, ao + m, none⟩) hab).trans xat)
    have HWX := Lib.hid (fun (X : World) (hX : Below w.heap.size w X) => HWY.out.on hX (Nat.le_refl _))
    clear xat
    clear h z1 B1 X1
    obtain ⟨f0, f1, f2, f3, f4, f5, f6⟩ := HF.out W HKW.out
    rw [h1] at f0 f1 f2 f3 f4 f5 f6
    generalize hBB : w.heap.size = B at *
    go_enter Try.func26, Try.ntmps26
    have xat := HXA.out W HB.out
    rw [h1] at xat
    by_cases hub : u = b
    · have hub2 : ((u : Int) == (b : Int)) = true := by simp; omega
      have HF1 := Lib.hid (show F0 = (pre ++ [u], len) by rw [← HF0.out, bst_below, if_pos hub]; unfold fnd; simp)
      obtain ⟨i1, hi1, hz1, hz2, hz3⟩ := info_parts int_info
      have HNS := Lib.hid (rw_news (HWX.out W HB.out))
      have hle3 := HB.out.size
      go_wp2_with (at_builtin; rw [← h1]; refine wpList_append_lies _ rfl _ _ 34 rfl W.heap.size 3 i1 (.int .i64 0) 1 8 Try.underlying34 hi1 hz1 hz2 hz3 rfl (by decide) (.slice none 0 0) 0 [] rfl (World.ownsRow_nil _ _ _ _) ⟨ab, ao, none⟩ nw c (ints (nats (pre ++ [u]))) rfl (by rw [← HNW.out]; simp [ints]) HNS.out (ints_one _) hnw0 (by unfold maxLen; omega) (by omega) (Nat.le_refl _) W.heap.size rfl ?_; intro g4 cap4 Z hown hgrow _ _; have HBZ := Lib.hid ((Below.refl W.heap.size W).grown hgrow (Nat.le_refl _) (fun k hk => by cases hk)); have HOZ := Lib.hid hown; clear hown hgrow h1 xat f0 f1 f2 f3 f4 f5 f6)
      go_ret2
      rw [HF1.out]
      subst hBB
      refine ⟨.slice (some ⟨g4, 0, none⟩) (0 + nw) cap4, ?_, ?_, below_join HB.out HBZ.out hle⟩
      · simp
      · have h2 := own_mono HOZ.out hle
        rw [List.nil_append, Nat.zero_add] at h2
        rw [Nat.zero_add, HNW.out]
        exact h2
    · have hub2 : ((u : Int) == (b : Int)) = false := by simp; omega
      have HUB := Lib.hid hub
      clear hub
      obtain ⟨hl1', hn8, hns, -⟩ := sk hs
      have HLO := Lib.hid hl1'
      have HF1 := Lib.hid (show F0 = fnd (pre ++ [u]) len (bstL (nS s) (lkN s) (below (nS s) (lkN s) b f) (pre ++ [u]).reverse u (nS s)) by rw [← HF0.out, bst_below, if_neg HUB.out])
      rw [← hns] at f4
      go_wp2_with (fail)
      rw [← h1]
      clear h1 xat f0 f1 f2 f3 f4 f5 f6 hl1'
      have HS0 := Lib.hid (show W.ownsRow W.heap.size 3 1 (.slice none 0 0) (nats (fnd (pre ++ [u]) len (bstL (nS s) (lkN s) (below (nS s) (lkN s) b f) (pre ++ [u]).reverse u 0)).1).length (ints (nats (fnd (pre ++ [u]) len (bstL (nS s) (lkN s) (below (nS s) (lkN s) b f) (pre ++ [u]).reverse u 0)).1)) from World.ownsRow_nil _ _ _ _)
      go_loopw [12, 13, 14] (fun v le i wr => ∃ k : Nat, k ≤ nS s ∧ i = .int .i64 (k : Int) ∧ le = .int .i64 (fnd (pre ++ [u]) len (bstL (nS s) (lkN s) (below (nS s) (lkN s) b f) (pre ++ [u]).reverse u k)).2 ∧ Hid (Below W.heap.size W wr) ∧ Hid (wr.ownsRow W.heap.size 3 1 v (nats (fnd (pre ++ [u]) len (bstL (nS s) (lkN s) (below (nS s) (lkN s) b f) (pre ++ [u]).reverse u k)).1).length (ints (nats (fnd (pre ++ [u]) len (bstL (nS s) (lkN s) (below (nS s) (lkN s) b f) (pre ++ [u]).reverse u k)).1)))) (fun _ _ i _ => nS s - (intOf i).toNat)
      case atStart => exact ⟨0, Nat.zero_le _, rfl, rfl, HKW, HS0⟩
      case round =>
        obtain ⟨k, hk, rfl, rfl, hB, ho⟩ := hrel
        have hki : ((k : Nat) : Int).toNat = k := by omega
        obtain ⟨f0, f1, f2, f3, f4, f5, f6⟩ := HF.out wr hB.out
        obtain ⟨Fk, hFk⟩ : ∃ F, fnd (pre ++ [u]) len (bstL (nS s) (lkN s) (below (nS s) (lkN s) b f) (pre ++ [u]).reverse u k) = F := ⟨_, rfl⟩
        rw [hFk] at ho ⊢
        have HFK := Lib.hid hFk
        clear hFk
        by_cases hlt : k < nS s
        · have hkl : (k : Int) < s.sw := by omega
          obtain ⟨st, hst⟩ : ∃ z, lkN s u k = z := ⟨_, rfl⟩
          have HST := Lib.hid hst
          have HCL := Lib.hid (c_link p s (u : Int) (k : Int) st hst wr (HA.out wr hB.out))
          unfold siV at HCL
          have hstt := HLO.out.top u k
          rw [hst] at hstt
          clear hst
          go_wp2_with (fail)
          go_at_call 44
          refine HCL.out.mono ?_
          rintro e v1 ⟨rfl, bb⟩
          have HB1 := Lib.hid (below_join hB.out bb hB.out.size)
          have HO1 := Lib.hid (own_on ho.out bb (Nat.le_refl _))
          clear bb f0 f1 f2 f3 f4 f5 f6
          rcases hs0 : decide (st < 0) with _ | _
          rotate_left
          · have hs1 := of_decide_eq_true hs0
            have HN := Lib.hid (show fnd (pre ++ [u]) len (bstL (nS s) (lkN s) (below (nS s) (lkN s) b f) (pre ++ [u]).reverse u (k + 1)) = Fk by rw [bstL, if_pos (.inl (by rw [HST.out]; exact hs1)), HFK.out])
            go_wp2_with (fail)
            go_roundw
            case rel => exact ⟨k + 1, by omega, by go_num, by rw [HN.out], HB1, by rw [HN.out]; exact HO1⟩
            case measure => simp only [intOf]; omega
          have hs1 : 0 ≤ st := by have := of_decide_eq_false hs0; omega
          obtain ⟨hb, hhb⟩ : ∃ r, hasI (nats (pre ++ [u])) (k : Int) = r := ⟨_, rfl⟩
          have HHB := Lib.hid hhb
          have HCH := Lib.hid (c_has (k : Int) (some ⟨ab, ao, none⟩) c (nats (pre ++ [u])) v1 (HWX.out v1 (by subst hBB; exact below_join HB.out HB1.out hle)) hb hhb)
          rw [HNW.out] at HCH
          clear hhb
          go_wp2_with (fail)
          go_at_call 45
          refine HCH.out.mono ?_
          rintro e v2 ⟨rfl, bb⟩
          have HB2 := Lib.hid (below_join HB1.out bb HB1.out.size)
          have HO2 := Lib.hid (own_on HO1.out bb (Nat.le_refl _))
          clear bb
          cases hb
          rotate_left
          · have HN := Lib.hid (show fnd (pre ++ [u]) len (bstL (nS s) (lkN s) (below (nS s) (lkN s) b f) (pre ++ [u]).reverse u (k + 1)) = Fk by
              have h := HHB.out
              rw [hasI_nats, decide_eq_true_iff] at h
              rw [bstL, if_pos (.inr (List.mem_reverse.2 h)), HFK.out])
            go_wp2_with (fail)
            go_roundw
            case rel => exact ⟨k + 1, by omega, by go_num, by rw [HN.out], HB2, by rw [HN.out]; exact HO2⟩
            case measure => simp only [intOf]; omega
          have HNM := Lib.hid (show k ∉ pre ++ [u] by
            have h := HHB.out
            rw [hasI_nats, decide_eq_false_iff_not] at h
            exact h)
          obtain ⟨f', hf'⟩ := WyOk.more HOK.out hlt HNM.out
          subst hf'
          have HOK2 := Lib.hid (WyOk.next HOK.out hlt HNM.out hs1 hstt)
          have HNS := Lib.hid (rw_news (HWX.out v2 (by subst hBB; exact below_join HB.out HB2.out hle)))
          obtain ⟨i1, hi1, hz1, hz2, hz3⟩ := info_parts int_info
          go_wp2_with (at_builtin; refine wpList_append_lies _ rfl _ _ 34 rfl v2.heap.size 3 i1 (.int .i64 0) 1 8 Try.underlying34 hi1 hz1 hz2 hz3 rfl (by decide) (.slice none 0 0) 0 [] rfl (World.ownsRow_nil _ _ _ _) ⟨ab, ao, none⟩ nw c (ints (nats (pre ++ [u]))) rfl (by rw [← HNW.out]; simp [ints]) HNS.out (ints_one _) hnw0 (by unfold maxLen; omega) (by omega) (Nat.le_refl _) v2.heap.size rfl ?_; intro g4 cap4 Z hown hgrow _ _; have HBZ := Lib.hid ((Below.refl v2.heap.size v2).grown hgrow (Nat.le_refl _) (fun k hk => by cases hk)); have HOZ := Lib.hid hown; clear hown hgrow)
          have HBZ2 := Lib.hid (below_join HB2.out HBZ.out HB2.out.size)
          have HOZ2 := Lib.hid (own_on HO2.out HBZ.out (Nat.le_refl _))
          obtain ⟨f0, f1, f2, f3, f4, f5, f6⟩ := HF.out Z HBZ2.out
          obtain ⟨X1, hX1⟩ : ∃ X, X = Z.alloc (.cells #[.int .i64 (k : Int)] 3) := ⟨_, rfl⟩
          have bX1 : Below Z.heap.size Z X1 := by rw [hX1]; exact (Below.refl _ _).alloc (Nat.le_refl _) _
          have hz1' : X1.heap.size = Z.heap.size + 1 := by rw [hX1, World.size_alloc]
          have HN1 := Lib.hid (show X1.heap[Z.heap.size]? = some (.cells #[.int .i64 (k : Int)] 3 (0, 0)) by rw [hX1]; exact heap_alloc_new _ _)
          have HO1X := Lib.hid (own_on HOZ.out bX1 (Nat.le_refl _))
          have HX1B := Lib.hid (below_join HBZ.out bX1 HBZ.out.size)
          clear bX1
          refine wp_region_held_drew (S := fun X => X.cell? ⟨B, 0, none⟩ = some (.slice p.a1 s.feeds.length p.c1) ∧ X.cell? ⟨B, 1, none⟩ = some (.slice p.a2 s.brks.length p.c2) ∧ X.cell? ⟨B, 2, none⟩ = some (.slice p.a3 s.loops.length p.c3) ∧ X.cell? ⟨B, 3, none⟩ = some (.slice p.a4 s.racks.length p.c4) ∧ X.cell? ⟨B, 4, none⟩ = some (.int .i64 s.sw) ∧ X.cell? ⟨B, 5, none⟩ = some (.slice p.a5 s.links.length p.c5) ∧ X.cell? ⟨B, 6, none⟩ = some (.slice p.a6 s.hosts.length p.c6)) (by kernel_rfl) (HF.out Z.drew HBZ2.out.drew) (fun hHeld => ?_)
          refine takeH (i := 0) 53 (v := ?_) rfl rfl (by kernel_rfl) (by kernel_rfl) (by kernel_rfl) (fun _ _ _ h => h) (by rfl) ?_ hHeld ?_
          rotate_left
          · intro X hX; (try dsimp only at hX); (first | (go_simp; done) | (go_simp; with_reducible rfl))
          try simp only [Act.put, List.setIfInBounds_toArray, List.set_cons_zero, List.set_cons_succ]
          refine takeH (i := 1) 54 (v := ?_) rfl rfl (by kernel_rfl) (by kernel_rfl) (by kernel_rfl) (fun _ _ _ h => h) (by rfl) ?_ hHeld ?_
          rotate_left
          · intro X hX; (try dsimp only at hX); (first | (go_simp; done) | (go_simp; with_reducible rfl))
          try simp only [Act.put, List.setIfInBounds_toArray, List.set_cons_zero, List.set_cons_succ]
          refine takeH (i := 2) 55 (v := ?_) rfl rfl (by kernel_rfl) (by kernel_rfl) (by kernel_rfl) (fun _ _ _ h => h) (by rfl) ?_ hHeld ?_
          rotate_left
          · intro X hX; (try dsimp only at hX); (first | (go_simp; done) | (go_simp; with_reducible rfl))
          try simp only [Act.put, List.setIfInBounds_toArray, List.set_cons_zero, List.set_cons_succ]
          refine takeH (i := 5) 58 (v := ?_) rfl rfl (by kernel_rfl) (by kernel_rfl) (by kernel_rfl) (fun _ _ _ h => h) (by rfl) ?_ hHeld ?_
          rotate_left
          · intro X hX; (try dsimp only at hX); (first | (go_simp; done) | (go_simp; with_reducible rfl))
          try simp only [Act.put, List.setIfInBounds_toArray, List.set_cons_zero, List.set_cons_succ]
          refine takeH (i := 6) 59 (v := ?_) rfl rfl (by kernel_rfl) (by kernel_rfl) (by kernel_rfl) (fun _ _ _ h => h) (by rfl) ?_ hHeld ?_
          rotate_left
          · intro X hX; (try dsimp only at hX); (first | (go_simp; done) | (go_simp; with_reducible rfl))
          try simp only [Act.put, List.setIfInBounds_toArray, List.set_cons_zero, List.set_cons_succ]
          refine takeH (i := 7) 60 (v := ?_) rfl rfl (by kernel_rfl) (by kernel_rfl) (by kernel_rfl) (fun _ _ _ h => h) (by rfl) ?_ hHeld ?_
          rotate_left
          · intro X hX; (try dsimp only at hX); (first | (go_simp; done) | (go_simp; with_reducible rfl))
          try simp only [Act.put, List.setIfInBounds_toArray, List.set_cons_zero, List.set_cons_succ]
          refine takeH (i := 8) 61 (v := ?_) rfl rfl (by kernel_rfl) (by kernel_rfl) (by kernel_rfl) (fun _ _ _ h => h) (by rfl) ?_ hHeld ?_
          rotate_left
          · intro X hX; (try dsimp only at hX); (first | (go_simp; done) | (go_simp; with_reducible rfl))
          try simp only [Act.put, List.setIfInBounds_toArray, List.set_cons_zero, List.set_cons_succ]
          refine wpAnyH_ready (rs := [3]) (by kernel_rfl) (by simp) ?_
          refine AllReadyH.cons rfl (fun K hK => ?_) AllReadyH.nil
          go_simp
          rw [← hX1]
          refine hK.out _ _ (HF.out X1.drew (below_join HB2.out HX1B.out HB2.out.size).drew) (fun hHeld2 => ?_)
          clear hK K hHeld
          try simp only [Act.put, List.setIfInBounds_toArray, List.set_cons_zero, List.set_cons_succ]
          refine wpAnyH_ready (rs := [4]) (by kernel_rfl) (by simp) ?_
          refine AllReadyH.cons rfl (fun K hK => ?_) AllReadyH.nil
          refine step_append_lies _ rfl (.tmp 54) (.tmp 56) 34 rfl v2.heap.size 3 i1 (.int .i64 0) 1 8 Try.underlying34 hi1 hz1 hz2 hz3 rfl (by decide) (.slice (some ⟨g4, 0, none⟩) nw cap4) nw (ints (nats (pre ++ [u]))) (by simp [Act.eval, Act.put]) (show World.ownsRow X1.drew _ _ _ _ _ _ from by have h := HO1X.out; rw [List.nil_append, Nat.zero_add] at h; exact h) ⟨Z.heap.size, 0, none⟩ 1 1 [.int .i64 (k : Int)] (by simp [Act.eval, Act.put]) rfl (show ∀ j u, _ → World.cell? X1.drew _ = _ from World.news_of_block (w := X1.drew) HN1.out) (by simp [Value.oneCell']) (by decide) (by unfold maxLen; omega) (by omega) (show v2.heap.size ≤ X1.drew.heap.size from HX1B.out.size) (Z.heap.size + 1) (show X1.drew.heap.size = _ from hz1') ?_
          intro g5 cap5 Y4 hown hgrow0 _ _
          have HBY := Lib.hid (HX1B.out.drew.grown hgrow0 (show v2.heap.size ≤ X1.drew.heap.size from HX1B.out.size) (fun q e => (ownsRow_lt HO1X.out (by rw [Nat.zero_add]; exact e)).1))
          have HOY := Lib.hid (show Y4.ownsRow v2.heap.size 3 1 (.slice (some ⟨g5, 0, none⟩) (nw + 1) cap5) (nats ((pre ++ [u]) ++ [k])).length (ints (nats ((pre ++ [u]) ++ [k]))) by
            have e : (nats ((pre ++ [u]) ++ [k])).length = nw + 1 := by rw [nats_snoc, List.length_append, HNW.out]; rfl
            rw [e, nats_snoc, ints_snoc]
            exact hown)
          have HBW4 := Lib.hid (below_join HB2.out HBY.out HB2.out.size)
          clear hown hgrow0
          refine hK.out _ _ (HF.out Y4 HBW4.out) (fun hHeld => ?_)
          clear hK K hHeld2
          try simp only [Act.put, List.setIfInBounds_toArray, List.set_cons_zero, List.set_cons_succ]
          have HRY := Lib.hid (show Rw 1 inF Y4 (some ⟨g5, 0, none⟩) cap5 (nats ((pre ++ [u]) ++ [k])) by
            obtain ⟨A', c', e1, e2⟩ := own_rw HOY.out
            injection e1 with e1 _ e3
            subst e1 e3
            exact e2)
          have HCB := Lib.hid (HIH.out f' (by omega) k (pre ++ [u]) (len + st) (some ⟨g5, 0, none⟩) cap5 Y4 HOK2.out (HA.out Y4 HBW4.out) HRY.out)
          have e9 : (nats ((pre ++ [u]) ++ [k])).length = nw + 1 := by rw [nats_snoc, List.length_append, HNW.out]; rfl
          rw [e9] at HCB
          unfold siV at HCB
          obtain ⟨G, hG⟩ : ∃ G, fnd (pre ++ [u] ++ [k]) (len + st) (bst (nS s) (lkN s) b f' (pre ++ [u] ++ [k]).reverse k) = G := ⟨_, rfl⟩
          rw [hG] at HCB
          have HGG := Lib.hid hG
          clear e9 hG
          refine wpAnyH_ready (rs := [9]) (by kernel_rfl) (by simp) ?_
          refine AllReadyH.cons rfl (fun K hK => ?_) AllReadyH.nil
          go_simp
          rw [show IntKind.i64.wrap (len + st) = len + st from wrap_in (by omega) (by omega)]
          go_at_call 26
          refine HCB.out.mono ?_
          rintro e v3 ⟨v, rfl, ho3, bb⟩
          have HB3 := Lib.hid (below_join HBW4.out bb HBW4.out.size)
          have HO3 := Lib.hid ho3
          have HBY3 := Lib.hid (below_join HBY.out bb HBY.out.size)
          have hzz := HBW4.out.size
          clear bb ho3
          try dsimp only
          refine hK.out _ _ (HF.out v3 HB3.out) (fun hHeld2 => ?_)
          clear hK K hHeld
          have hHeld := hHeld2
          clear hHeld2
          try simp only [Act.put, List.setIfInBounds_toArray, List.set_cons_zero, List.set_cons_succ]
          refine takeH (i := 10) 52 (v := ?_) rfl rfl (by kernel_rfl) (by kernel_rfl) (by kernel_rfl) (fun _ _ _ h => h) (by rfl) ?_ hHeld ?_
          rotate_left
          · intro X hX; (try dsimp only at hX); (first | (go_simp; done) | (go_simp; with_reducible rfl))
          try simp only [Act.put, List.setIfInBounds_toArray, List.set_cons_zero, List.set_cons_succ]
          refine takeH (i := 11) 63 (v := ?_) rfl rfl (by kernel_rfl) (by kernel_rfl) (by kernel_rfl) (fun _ _ _ h => h) (by rfl) ?_ hHeld ?_
          rotate_left
          · intro X hX; (try dsimp only at hX); (first | (go_simp; done) | (go_simp; with_reducible rfl))
          try simp only [Act.put, List.setIfInBounds_toArray, List.set_cons_zero, List.set_cons_succ]
          refine takeH (i := 12) 64 (v := ?_) rfl rfl (by kernel_rfl) (by kernel_rfl) (by kernel_rfl) (fun _ _ _ h => h) (by rfl) ?_ hHeld ?_
          rotate_left
          · intro X hX; (try dsimp only at hX); (first | (go_simp; done) | (go_simp; with_reducible rfl))
          try simp only [Act.put, List.setIfInBounds_toArray, List.set_cons_zero, List.set_cons_succ]
          refine takeH (i := 13) 17 (v := ?_) rfl rfl (by kernel_rfl) (by kernel_rfl) (by kernel_rfl) (fun _ _ _ h => h) (by rfl) ?_ hHeld ?_
          rotate_left
          · intro X hX; (try dsimp only at hX); (first | (go_simp; done) | (go_simp; with_reducible rfl))
          try simp only [Act.put, List.setIfInBounds_toArray, List.set_cons_zero, List.set_cons_succ]
          refine takeH (i := 14) 18 (v := ?_) rfl rfl (by kernel_rfl) (by kernel_rfl) (by kernel_rfl) (fun _ _ _ h => h) (by rfl) ?_ hHeld ?_
          rotate_left
          · intro X hX; (try dsimp only at hX); (first | (go_simp; done) | (go_simp; with_reducible rfl))
          try simp only [Act.put, List.setIfInBounds_toArray, List.set_cons_zero, List.set_cons_succ]
          refine wpAnyH_done (by kernel_rfl) ?_ _
          have HEQ := Lib.hid (show fnd (pre ++ [u]) len (bstL (nS s) (lkN s) (below (nS s) (lkN s) b (f' + 1)) (pre ++ [u]).reverse u (k + 1)) = if 0 ≤ (fnd (pre ++ [u] ++ [k]) (len + st) (bst (nS s) (lkN s) b f' (pre ++ [u] ++ [k]).reverse k)).2 ∧ (Fk.2 < 0 ∨ (fnd (pre ++ [u] ++ [k]) (len + st) (bst (nS s) (lkN s) b f' (pre ++ [u] ++ [k]).reverse k)).2 < Fk.2) then fnd (pre ++ [u] ++ [k]) (len + st) (bst (nS s) (lkN s) b f' (pre ++ [u] ++ [k]).reverse k) else Fk by
            have hnv : ¬ (lkN s u k < 0 ∨ k ∈ (pre ++ [u]).reverse) := by
              rintro (h | h)
              · rw [HST.out] at h; omega
              · exact HNM.out (List.mem_reverse.1 h)
            rw [bstL, if_neg hnv, fnd_step (pre ++ [u]) len hl0 k (lkN s u k) _ _ (fun l m e => bstL_pos HLO.out (by omega) e) (fun l m e => below_pos HLO.out e) (by rw [HST.out]; exact hs1)]
            rw [HFK.out, HST.out]
            have e : (pre ++ [u] ++ [k]).reverse = k :: (pre ++ [u]).reverse := by simp
            rw [e]
            rfl)
          rw [HGG.out] at HEQ
          obtain ⟨g2, hg2⟩ : ∃ z, G.2 = z := ⟨_, rfl⟩
          obtain ⟨k2, hk2⟩ : ∃ z, Fk.2 = z := ⟨_, rfl⟩
          rw [hg2, hk2] at HEQ
          rw [hg2, hk2]
          have HG2 := Lib.hid hg2
          have HK2 := Lib.hid hk2
          have HO2' := Lib.hid (own_on HO2.out HBY3.out (Nat.le_refl _))
          have HO3' := Lib.hid (own_mono HO3.out hzz)
          clear hg2 hk2 f0 f1 f2 f3 f4 f5 f6 hHeld
          rcases hc1 : decide (0 ≤ g2) with _ | _
          · have hc1' := of_decide_eq_false hc1
            have HN := Lib.hid (show fnd (pre ++ [u]) len (bstL (nS s) (lkN s) (below (nS s) (lkN s) b (f' + 1)) (pre ++ [u]).reverse u (k + 1)) = Fk by rw [HEQ.out, if_neg (fun h => hc1' h.1)])
            go_wp2_with (fail)
            first
              | (go_roundw
                 case rel => exact ⟨k + 1, by omega, by go_num, by rw [HN.out, HK2.out], HB3, by rw [HN.out]; exact HO2'⟩
                 case measure => simp only [intOf]; omega)
              | (go_roundw
                 exact ⟨⟨k + 1, by omega, by go_num, by rw [HN.out, HK2.out], HB3, by rw [HN.out]; exact HO2'⟩, by simp only [intOf]; omega⟩)
          · have hc1' := of_decide_eq_true hc1
            rcases hc2 : decide (k2 < 0) with _ | _
            · have hc2' := of_decide_eq_false hc2
              rcases hc3 : decide (g2 < k2) with _ | _
              · have hc3' := of_decide_eq_false hc3
                have HN := Lib.hid (show fnd (pre ++ [u]) len (bstL (nS s) (lkN s) (below (nS s) (lkN s) b (f' + 1)) (pre ++ [u]).reverse u (k + 1)) = Fk by rw [HEQ.out, if_neg (by rintro ⟨-, h | h⟩; exact hc2' h; exact hc3' h)])
                go_wp2_with (fail)
                first
                  | (go_roundw
                     case rel => exact ⟨k + 1, by omega, by go_num, by rw [HN.out, HK2.out], HB3, by rw [HN.out]; exact HO2'⟩
                     case measure => simp only [intOf]; omega)
                  | (go_roundw
                     exact ⟨⟨k + 1, by omega, by go_num, by rw [HN.out, HK2.out], HB3, by rw [HN.out]; exact HO2'⟩, by simp only [intOf]; omega⟩)
              · have hc3' := of_decide_eq_true hc3
                have HN := Lib.hid (show fnd (pre ++ [u]) len (bstL (nS s) (lkN s) (below (nS s) (lkN s) b (f' + 1)) (pre ++ [u]).reverse u (k + 1)) = G by rw [HEQ.out, if_pos ⟨hc1', .inr hc3'⟩])
                go_wp2_with (fail)
                first
                  | (go_roundw
                     case rel => exact ⟨k + 1, by omega, by go_num, by rw [HN.out, HG2.out], HB3, by rw [HN.out]; exact HO3'⟩
                     case measure => simp only [intOf]; omega)
                  | (go_roundw
                     exact ⟨⟨k + 1, by omega, by go_num, by rw [HN.out, HG2.out], HB3, by rw [HN.out]; exact HO3'⟩, by simp only [intOf]; omega⟩)
            · have hc2' := of_decide_eq_true hc2
              have HN := Lib.hid (show fnd (pre ++ [u]) len (bstL (nS s) (lkN s) (below (nS s) (lkN s) b (f' + 1)) (pre ++ [u]).reverse u (k + 1)) = G by rw [HEQ.out, if_pos ⟨hc1', .inl hc2'⟩])
              go_wp2_with (fail)
              first
                | (go_roundw
                   case rel => exact ⟨k + 1, by omega, by go_num, by rw [HN.out, HG2.out], HB3, by rw [HN.out]; exact HO3'⟩
                   case measure => simp only [intOf]; omega)
                | (go_roundw
                   exact ⟨⟨k + 1, by omega, by go_num, by rw [HN.out, HG2.out], HB3, by rw [HN.out]; exact HO3'⟩, by simp only [intOf]; omega⟩)
        · obtain rfl : k = nS s := by omega
          have hkl : s.sw ≤ ((nS s : Nat) : Int) := by omega
          go_wp2_with (fail)
          go_ret2
          subst hBB
          rw [HF1.out, HFK.out]
          exact ⟨_, rfl, own_mono ho.out hle, below_join HB.out hB.out hle⟩
end Go.Proofs.Ytacdpklgnibkeaa

namespace Go.Proofs.Ytacdpklgnibkeaa
open Go.RowKit
set_option maxRecDepth 100000
set_option linter.unusedVariables false
set_option linter.unusedSimpArgs false

def kB (s : SiteD) (a b : Int) : Bool := siteOk s && (ixB a s.sw && ixB b s.sw)
set_option maxHeartbeats 16000000 in
theorem c_known (p : SP) (s : SiteD) (a b : Int) (r : Bool) (hr : kB s a b = r) (w : World) (h : SiAt w p s) :
    Calls Try.prog 25 #[siV p s, .int .i64 a, .int .i64 b] w fun e w' => e = .returned (.bool r) ∧ Below w.heap.size w w' := by
  unfold siV
  obtain ⟨W, h1⟩ : ∃ W, W = w.alloc (.cells #[.slice p.a1 s.feeds.length p.c1, .slice p.a2 s.brks.length p.c2, .slice p.a3 s.loops.length p.c3, .slice p.a4 s.racks.length p.c4, .int .i64 s.sw, .slice p.a5 s.links.length p.c5, .slice p.a6 s.hosts.length p.c6] 29) := ⟨_, rfl⟩
  have z1 : W.heap.size = w.heap.size + 1 := by rw [h1, World.size_alloc]
  have B1 : Below w.heap.size w W := by rw [h1]; exact (Below.refl _ _).alloc (Nat.le_refl _) _
  have X1 : SiBox W w.heap.size p s := by rw [h1]; exact siBox_new _ _ _
  have HB := Lib.hid B1
  have HZ := Lib.hid z1
  have HA := Lib.hid (fun (X : World) (hX : Below W.heap.size W X) => (h.on B1 (Nat.le_refl _)).on hX (Nat.le_refl _))
  have HF := Lib.hid (fun (X : World) (hX : Below W.heap.size W X) => (let z := X1.on hX (Nat.le_refl _); ⟨z.c0, z.c1, z.c2, z.c3, z.c4, z.c5, z.c6⟩ : X.cell? ⟨w.heap.size, 0, none⟩ = some (.slice p.a1 s.feeds.length p.c1) ∧ X.cell? ⟨w.heap.size, 1, none⟩ = some (.slice p.a2 s.brks.length p.c2) ∧ X.cell? ⟨w.heap.size, 2, none⟩ = some (.slice p.a3 s.loops.length p.c3) ∧ X.cell? ⟨w.heap.size, 3, none⟩ = some (.slice p.a4 s.racks.length p.c4) ∧ X.cell? ⟨w.heap.size, 4, none⟩ = some (.int .i64 s.sw) ∧ X.cell? ⟨w.heap.size, 5, none⟩ = some (.slice p.a5 s.links.length p.c5) ∧ X.cell? ⟨w.heap.size, 6, none⟩ = some (.slice p.a6 s.hosts.length p.c6)))
  have HX := Lib.hid (fun (X : World) (hX : Below W.heap.size W X) => X1.on hX (Nat.le_refl _))
  have HKW := Lib.hid (Below.refl W.heap.size W)
  have hle := HB.out.size
  have n0 := h.feeds.1; have m0 := h.feeds.2.1
  have n1 := h.brks.1; have m1 := h.brks.2.1
  have n2 := h.loops.1; have m2 := h.loops.2.1
  have n3 := h.racks.1; have m3 := h.racks.2.1
  have n4 := h.links.1; have m4 := h.links.2.1
  have n5 := h.hosts.1; have m5 := h.hosts.2.1
  unfold maxLen at m0 m1 m2 m3 m4 m5
  have HR := Lib.hid hr
  obtain ⟨r0, hr0⟩ : ∃ r, siteOk s = r := ⟨_, rfl⟩
  have HR0 := Lib.hid hr0
  clear hr hr0
  clear h z1 B1 X1
  obtain ⟨f0, f1, f2, f3, f4, f5, f6⟩ := HF.out W HKW.out
  rw [h1] at f0 f1 f2 f3 f4 f5 f6
  generalize hBB : w.heap.size = B at *
  go_enter Try.func25, Try.ntmps25
  go_wp2_with (fail)
  rw [← h1]
  clear h1 f0 f1 f2 f3 f4 f5 f6
  go_at_call 28
  refine (c_srValid p s r0 HR0.out W (HA.out W HKW.out)).mono ?_
  rintro e v1 ⟨rfl, bb⟩
  have HKv1 := Lib.hid (below_join HKW.out bb HKW.out.size)
  clear bb
  obtain ⟨f0, f1, f2, f3, f4, f5, f6⟩ := HF.out v1 HKv1.out
  cases r0
  · skip
    obtain rfl : false = r := by
      rw [← HR.out]
      unfold kB
      rw [HR0.out]
      rfl
    go_wp2_with (fail)
    go_ret
    exact ⟨rfl, below_join HB.out HKv1.out hle⟩
  rcases h1 : decide (0 ≤ a) with _ | _
  · skip
    obtain rfl : false = r := by
      rw [← HR.out]
      unfold kB
      rw [HR0.out]
      unfold ixB; rw [h1]; rfl
    go_wp2_with (fail)
    go_ret
    exact ⟨rfl, below_join HB.out HKv1.out hle⟩
  rcases h2 : decide (a < s.sw) with _ | _
  · skip
    obtain rfl : false = r := by
      rw [← HR.out]
      unfold kB
      rw [HR0.out]
      unfold ixB; rw [h1, h2]; rfl
    go_wp2_with (fail)
    go_ret
    exact ⟨rfl, below_join HB.out HKv1.out hle⟩
  rcases h3 : decide (0 ≤ b) with _ | _
  · skip
    obtain rfl : false = r := by
      rw [← HR.out]
      unfold kB
      rw [HR0.out]
      unfold ixB; rw [h1, h2, h3]; rfl
    go_wp2_with (fail)
    go_ret
    exact ⟨rfl, below_join HB.out HKv1.out hle⟩
  obtain rfl : decide (b < s.sw) = r := by
    rw [← HR.out]
    unfold kB
    rw [HR0.out]
    unfold ixB; rw [h1, h2, h3]; rfl
  go_wp2_with (fail)
  go_ret
  exact ⟨rfl, below_join HB.out HKv1.out hle⟩
theorem wyOk_one {s : SiteD} (hs : siteOk s = true) {a : Nat} (ha : a < nS s) : WyOk (nS s) (nS s - 1) [] a 0 :=
  ⟨by simp, by simpa using ha, by simp; omega, Int.le_refl _, by simp, (sk hs).2.1⟩
theorem fnd_one {s : SiteD} (hs : siteOk s = true) {a b : Nat} (ha : a < nS s) (hb : b < nS s) : fnd [a] 0 (bst (nS s) (lkN s) b (nS s - 1) [a] a) = (if 0 ≤ dS s a b then wyS s a b else [], dS s a b) := by
  have h := dS_ge hs a b
  by_cases hd : 0 ≤ dS s a b
  · rw [bst_way (sk hs).1 ha hb hd, if_pos hd]
    show ([a] ++ wayV (nS s) (lkN s) a b, 0 + dV (nS s) (lkN s) a b) = _
    rw [Int.zero_add]
    rfl
  · rw [bst_noway (sk hs).1 (show dV (nS s) (lkN s) a b < 0 by unfold dS at hd; omega), if_neg hd]
    show (([] : List Nat), (-1 : Int)) = _
    rw [show dS s a b = -1 by omega]
theorem c_bestOne (p : SP) {s : SiteD} (hs : siteOk s = true) {a b : Nat} (ha : a < nS s) (hb : b < nS s) (A : Option Addr) (w : World) (h : SiAt w p s) (hw : Rw 1 inF w A 1 [(a : Int)]) :
    Calls Try.prog 26 #[siV p s, .slice A 1 1, .int .i64 (b : Int), .int .i64 0] w fun e w' => ∃ v, e = .returned (.tuple #[v, .int .i64 (dS s a b)]) ∧ w'.ownsRow w.heap.size 3 1 v (nats (if 0 ≤ dS s a b then wyS s a b else [])).length (ints (nats (if 0 ≤ dS s a b then wyS s a b else []))) ∧ Below w.heap.size w w' := by
  have h1 := c_best p s hs b (nS s - 1) a [] 0 A 1 w (wyOk_one hs ha) h hw
  refine h1.mono ?_
  rintro e w' ⟨v, e1, e2, e3⟩
  have h2 : fnd ([] ++ [a]) 0 (bst (nS s) (lkN s) b (nS s - 1) ([] ++ [a]).reverse a) = _ := fnd_one hs ha hb
  rw [h2] at e1 e2
  exact ⟨v, e1, e2, e3⟩

set_option maxHeartbeats 16000000 in
theorem c_nrDistance (p : SP) (s : SiteD) (a b : Int) (r : Int) (hr : distI s a b = r) (w : World) (h : SiAt w p s) :
    Calls Try.prog 11 #[siV p s, .int .i64 a, .int .i64 b] w fun e w' => e = .returned (.int .i64 r) ∧ Below w.heap.size w w' := by
  unfold siV
  obtain ⟨W, h1⟩ : ∃ W, W = w.alloc (.cells #[.slice p.a1 s.feeds.length p.c1, .slice p.a2 s.brks.length p.c2, .slice p.a3 s.loops.length p.c3, .slice p.a4 s.racks.length p.c4, .int .i64 s.sw, .slice p.a5 s.links.length p.c5, .slice p.a6 s.hosts.length p.c6] 29) := ⟨_, rfl⟩
  have z1 : W.heap.size = w.heap.size + 1 := by rw [h1, World.size_alloc]
  have B1 : Below w.heap.size w W := by rw [h1]; exact (Below.refl _ _).alloc (Nat.le_refl _) _
  have X1 : SiBox W w.heap.size p s := by rw [h1]; exact siBox_new _ _ _
  have HB := Lib.hid B1
  have HZ := Lib.hid z1
  have HA := Lib.hid (fun (X : World) (hX : Below W.heap.size W X) => (h.on B1 (Nat.le_refl _)).on hX (Nat.le_refl _))
  have HF := Lib.hid (fun (X : World) (hX : Below W.heap.size W X) => (let z := X1.on hX (Nat.le_refl _); ⟨z.c0, z.c1, z.c2, z.c3, z.c4, z.c5, z.c6⟩ : X.cell? ⟨w.heap.size, 0, none⟩ = some (.slice p.a1 s.feeds.length p.c1) ∧ X.cell? ⟨w.heap.size, 1, none⟩ = some (.slice p.a2 s.brks.length p.c2) ∧ X.cell? ⟨w.heap.size, 2, none⟩ = some (.slice p.a3 s.loops.length p.c3) ∧ X.cell? ⟨w.heap.size, 3, none⟩ = some (.slice p.a4 s.racks.length p.c4) ∧ X.cell? ⟨w.heap.size, 4, none⟩ = some (.int .i64 s.sw) ∧ X.cell? ⟨w.heap.size, 5, none⟩ = some (.slice p.a5 s.links.length p.c5) ∧ X.cell? ⟨w.heap.size, 6, none⟩ = some (.slice p.a6 s.hosts.length p.c6)))
  have HX := Lib.hid (fun (X : World) (hX : Below W.heap.size W X) => X1.on hX (Nat.le_refl _))
  have HKW := Lib.hid (Below.refl W.heap.size W)
  have hle := HB.out.size
  have n0 := h.feeds.1; have m0 := h.feeds.2.1
  have n1 := h.brks.1; have m1 := h.brks.2.1
  have n2 := h.loops.1; have m2 := h.loops.2.1
  have n3 := h.racks.1; have m3 := h.racks.2.1
  have n4 := h.links.1; have m4 := h.links.2.1
  have n5 := h.hosts.1; have m5 := h.hosts.2.1
  unfold maxLen at m0 m1 m2 m3 m4 m5
  have HR := Lib.hid hr
  obtain ⟨r0, hr0⟩ : ∃ r, kB s a b = r := ⟨_, rfl⟩
  have HR0 := Lib.hid hr0
  clear hr hr0
  clear h z1 B1 X1
  obtain ⟨f0, f1, f2, f3, f4, f5, f6⟩ := HF.out W HKW.out
  rw [h1] at f0 f1 f2 f3 f4 f5 f6
  generalize hBB : w.heap.size = B at *
  go_enter Try.func11, Try.ntmps11
  go_wp2_with (fail)
  rw [← h1]
  clear h1 f0 f1 f2 f3 f4 f5 f6
  go_at_call 25
  refine (c_known p s a b r0 HR0.out W (HA.out W HKW.out)).mono ?_
  rintro e v602 ⟨rfl, bb⟩
  have HKv602 := Lib.hid (below_join HKW.out bb HKW.out.size)
  clear bb
  cases r0
  · skip
    go_wp2_with (fail)
    obtain rfl : -1 = r := by
      rw [← HR.out]
      unfold distI
      rw [if_neg (by rintro ⟨h1, h2, h3⟩; have h := HR0.out; unfold kB at h; rw [h1, h2, h3] at h; cases h)]
    go_ret
    exact ⟨rfl, below_join HB.out HKv602.out hle⟩
  have hk := HR0.out
  unfold kB at hk
  rw [Bool.and_eq_true, Bool.and_eq_true, ixB_iff, ixB_iff] at hk
  obtain ⟨hs, hab⟩ := hk
  obtain ⟨-, -, hn3, -⟩ := sk hs
  obtain ⟨ua, rfl⟩ : ∃ u : Nat, a = u := ⟨a.toNat, by omega⟩
  obtain ⟨ub, rfl⟩ : ∃ u : Nat, b = u := ⟨b.toNat, by omega⟩
  have hua : ua < nS s := by omega
  have hub : ub < nS s := by omega
  have HDI := Lib.hid (distI_is hs hua hub)
  have HS := Lib.hid hs
  clear hab hn3 hs
  obtain ⟨X753, hX753⟩ : ∃ X, X = v602.alloc (.cells #[.int .i64 (ua : Int)] 3) := ⟨_, rfl⟩
  have b753 : Below v602.heap.size v602 X753 := by subst hX753; exact (Below.refl _ _).alloc (Nat.le_refl _) _
  have HKX753 := Lib.hid (below_join HKv602.out b753 HKv602.out.size)
  have RLX753 := Lib.hid (show Rw 1 inF X753 (some ⟨v602.heap.size, 0, none⟩) 1 [(ua : Int)] by subst hX753; exact rw_lit [(ua : Int)] (by simp [maxLen]) _)
  clear b753
  obtain ⟨f0, f1, f2, f3, f4, f5, f6⟩ := HF.out v602 HKv602.out
  go_wp2_with (fail)
  rw [← hX753]
  clear hX753
  clear f0 f1 f2 f3 f4 f5 f6
  go_at_call 26
  refine (c_bestOne p HS.out hua hub (some ⟨v602.heap.size, 0, none⟩) X753 (HA.out X753 HKX753.out) RLX753.out).mono ?_
  rintro e v754 ⟨v, rfl, ho, bb⟩
  have HKv754 := Lib.hid (below_join HKX753.out bb HKX753.out.size)
  have RLv754 := Lib.hid (RLX753.out.on bb (Nat.le_refl _))
  have HOv754 := Lib.hid ho; have hzz := HKX753.out.size; clear ho
  clear bb
  go_wp2_with (fail)
  obtain rfl : dS s ua ub = r := by rw [← HR.out, HDI.out]
  go_ret
  exact ⟨rfl, below_join HB.out HKv754.out hle⟩
set_option maxHeartbeats 16000000 in
theorem c_nrWay (p : SP) (s : SiteD) (a b : Int) (r : List Nat) (hr : wyI s a b = r) (w : World) (h : SiAt w p s) :
    Calls Try.prog 16 #[siV p s, .int .i64 a, .int .i64 b] w fun e w' => ∃ v, e = .returned v ∧ w'.ownsRow w.heap.size 3 1 v (nats r).length (ints (nats r)) ∧ Below w.heap.size w w' := by
  unfold siV
  obtain ⟨W, h1⟩ : ∃ W, W = w.alloc (.cells #[.slice p.a1 s.feeds.length p.c1, .slice p.a2 s.brks.length p.c2, .slice p.a3 s.loops.length p.c3, .slice p.a4 s.racks.length p.c4, .int .i64 s.sw, .slice p.a5 s.links.length p.c5, .slice p.a6 s.hosts.length p.c6] 29) := ⟨_, rfl⟩
  have z1 : W.heap.size = w.heap.size + 1 := by rw [h1, World.size_alloc]
  have B1 : Below w.heap.size w W := by rw [h1]; exact (Below.refl _ _).alloc (Nat.le_refl _) _
  have X1 : SiBox W w.heap.size p s := by rw [h1]; exact siBox_new _ _ _
  have HB := Lib.hid B1
  have HZ := Lib.hid z1
  have HA := Lib.hid (fun (X : World) (hX : Below W.heap.size W X) => (h.on B1 (Nat.le_refl _)).on hX (Nat.le_refl _))
  have HF := Lib.hid (fun (X : World) (hX : Below W.heap.size W X) => (let z := X1.on hX (Nat.le_refl _); ⟨z.c0, z.c1, z.c2, z.c3, z.c4, z.c5, z.c6⟩ : X.cell? ⟨w.heap.size, 0, none⟩ = some (.slice p.a1 s.feeds.length p.c1) ∧ X.cell? ⟨w.heap.size, 1, none⟩ = some (.slice p.a2 s.brks.length p.c2) ∧ X.cell? ⟨w.heap.size, 2, none⟩ = some (.slice p.a3 s.loops.length p.c3) ∧ X.cell? ⟨w.heap.size, 3, none⟩ = some (.slice p.a4 s.racks.length p.c4) ∧ X.cell? ⟨w.heap.size, 4, none⟩ = some (.int .i64 s.sw) ∧ X.cell? ⟨w.heap.size, 5, none⟩ = some (.slice p.a5 s.links.length p.c5) ∧ X.cell? ⟨w.heap.size, 6, none⟩ = some (.slice p.a6 s.hosts.length p.c6)))
  have HX := Lib.hid (fun (X : World) (hX : Below W.heap.size W X) => X1.on hX (Nat.le_refl _))
  have HKW := Lib.hid (Below.refl W.heap.size W)
  have hle := HB.out.size
  have n0 := h.feeds.1; have m0 := h.feeds.2.1
  have n1 := h.brks.1; have m1 := h.brks.2.1
  have n2 := h.loops.1; have m2 := h.loops.2.1
  have n3 := h.racks.1; have m3 := h.racks.2.1
  have n4 := h.links.1; have m4 := h.links.2.1
  have n5 := h.hosts.1; have m5 := h.hosts.2.1
  unfold maxLen at m0 m1 m2 m3 m4 m5
  have HR := Lib.hid hr
  obtain ⟨r0, hr0⟩ : ∃ r, kB s a b = r := ⟨_, rfl⟩
  have HR0 := Lib.hid hr0
  clear hr hr0
  clear h z1 B1 X1
  obtain ⟨f0, f1, f2, f3, f4, f5, f6⟩ := HF.out W HKW.out
  rw [h1] at f0 f1 f2 f3 f4 f5 f6
  generalize hBB : w.heap.size = B at *
  go_enter Try.func16, Try.ntmps16
  go_wp2_with (fail)
  rw [← h1]
  clear h1 f0 f1 f2 f3 f4 f5 f6
  go_at_call 25
  refine (c_known p s a b r0 HR0.out W (HA.out W HKW.out)).mono ?_
  rintro e v755 ⟨rfl, bb⟩
  have HKv755 := Lib.hid (below_join HKW.out bb HKW.out.size)
  clear bb
  cases r0
  · skip
    go_wp2_with (fail)
    obtain rfl : [] = r := by
      rw [← HR.out]
      unfold wyI distI
      rw [if_neg (by rw [if_neg (by rintro ⟨h1, h2, h3⟩; have h := HR0.out; unfold kB at h; rw [h1, h2, h3] at h; cases h)]; omega)]
    go_ret
    exact ⟨_, rfl, World.ownsRow_nil _ _ _ _, below_join HB.out HKv755.out hle⟩
  have hk := HR0.out
  unfold kB at hk
  rw [Bool.and_eq_true, Bool.and_eq_true, ixB_iff, ixB_iff] at hk
  obtain ⟨hs, hab⟩ := hk
  obtain ⟨-, -, hn3, -⟩ := sk hs
  obtain ⟨ua, rfl⟩ : ∃ u : Nat, a = u := ⟨a.toNat, by omega⟩
  obtain ⟨ub, rfl⟩ : ∃ u : Nat, b = u := ⟨b.toNat, by omega⟩
  have hua : ua < nS s := by omega
  have hub : ub < nS s := by omega
  have HDI := Lib.hid (distI_is hs hua hub)
  have HS := Lib.hid hs
  clear hab hn3 hs
  obtain ⟨X906, hX906⟩ : ∃ X, X = v755.alloc (.cells #[.int .i64 (ua : Int)] 3) := ⟨_, rfl⟩
  have b906 : Below v755.heap.size v755 X906 := by subst hX906; exact (Below.refl _ _).alloc (Nat.le_refl _) _
  have HKX906 := Lib.hid (below_join HKv755.out b906 HKv755.out.size)
  have RLX906 := Lib.hid (show Rw 1 inF X906 (some ⟨v755.heap.size, 0, none⟩) 1 [(ua : Int)] by subst hX906; exact rw_lit [(ua : Int)] (by simp [maxLen]) _)
  clear b906
  obtain ⟨f0, f1, f2, f3, f4, f5, f6⟩ := HF.out v755 HKv755.out
  go_wp2_with (fail)
  rw [← hX906]
  clear hX906
  clear f0 f1 f2 f3 f4 f5 f6
  go_at_call 26
  refine (c_bestOne p HS.out hua hub (some ⟨v755.heap.size, 0, none⟩) X906 (HA.out X906 HKX906.out) RLX906.out).mono ?_
  rintro e v907 ⟨v, rfl, ho, bb⟩
  have HKv907 := Lib.hid (below_join HKX906.out bb HKX906.out.size)
  have RLv907 := Lib.hid (RLX906.out.on bb (Nat.le_refl _))
  have HOv907 := Lib.hid ho; have hzz := HKX906.out.size; clear ho
  clear bb
  go_wp2_with (fail)
  obtain rfl : (if 0 ≤ dS s ua ub then wyS s ua ub else []) = r := by rw [← HR.out]; unfold wyI; rw [HDI.out]; rfl
  go_ret
  exact ⟨_, rfl, own_mono HOv907.out (Nat.le_trans hle hzz), below_join HB.out HKv907.out hle⟩
end Go.Proofs.Ytacdpklgnibkeaa
