/-
  The law CoolingRises (written by gen/cool_LE.py).
-/
import Derived.Test.YtpokpgnclohiiaaQO1
import Derived.Test.YtpokpgnclohiiaaQV63
set_option linter.unusedVariables false
set_option linter.unusedSimpArgs false
namespace Go.Proofs.Ytpokpgnclohiiaa
open Go.RowKit
set_option maxRecDepth 100000
set_option linter.unusedVariables false
set_option linter.unusedSimpArgs false

theorem giv_set {l : List Int} {i : Nat} {x more : Int} (hx : l[i]? = some x) (h0 : 0 ≤ more) (t : Int) : v6.giv [l] 0 t ≤ v6.giv [l.set i (x + more)] 0 t := by
  unfold v6.giv
  split
  · exact Int.le_refl _
  · show ((([l] : List (List Int))[0]?.bind fun l => l[t.toNat]?).getD 0) ≤ ((([l.set i (x + more)] : List (List Int))[0]?.bind fun l => l[t.toNat]?).getD 0)
    simp only [List.getElem?_cons_zero, Option.bind_some]
    by_cases e : i = t.toNat
    · rw [← e, hx, List.getElem?_set_self (List.getElem?_eq_some_iff.1 hx).1]
      show x ≤ x + more
      omega
    · rw [List.getElem?_set_ne e]; exact Int.le_refl _
theorem arr_set {l : List Int} {i : Nat} {x more D : Int} (hx : l[i]? = some x) (h0 : 0 ≤ more) (t : Int) : v6.arr [(0, 1, D)] [l] t ≤ v6.arr [(0, 1, D)] [l.set i (x + more)] t := by
  have h := giv_set hx h0 (t - D)
  unfold v6.arr v6.brg
  simp only [List.map_cons, List.map_nil, List.sum_cons, List.sum_nil]
  omega
theorem rise_err {s : SiteD} {k st n x more : Int} {l : List Int} {i : Nat} (h : coE s k st l n = 0) (hx : l[i]? = some x) (h0 : 0 ≤ more) (he : coE s k st (l.set i (x + more)) n ≠ 0) : 100000000 < x + more := by
  have hl : lpOk s k = true := by
    unfold coE at h; split at h
    · assumption
    · omega
  obtain ⟨⟨⟨h1, h2⟩, h3⟩, h4⟩ := (coE_ok hl).1 h
  have h5 := h2 x (List.mem_of_getElem? hx)
  rcases Int.lt_or_le 100000000 (x + more) with h6 | h6
  · exact h6
  · refine absurd ((coE_ok hl).2 ⟨⟨⟨by rw [List.length_set]; exact h1, fun y hy => ?_⟩, h3⟩, h4⟩) he
    rcases List.mem_or_eq_of_mem_set hy with h7 | h7
    · exact h2 y h7
    · subst h7; omega
theorem rise_bd {s : SiteD} {k st n x : Int} {l : List Int} {i : Nat} (h : coE s k st l n = 0) (hx : l[i]? = some x) : 0 ≤ x ∧ x ≤ 100000000 := by
  have hl : lpOk s k = true := by
    unfold coE at h; split at h
    · assumption
    · omega
  exact ((coE_ok hl).1 h).1.1.2 x (List.mem_of_getElem? hx)
theorem rise_len {s : SiteD} {k st n : Int} {l : List Int} (h : coE s k st l n = 0) : (coL s k st l n).length = n.toNat + 1 := by
  unfold coL; rw [if_pos h, crs_len]
theorem rise_le {s : SiteD} {k st n x more : Int} {l : List Int} {i : Nat} (h : coE s k st l n = 0) (hx : l[i]? = some x) (h0 : 0 ≤ more) (he : coE s k st (l.set i (x + more)) n = 0) {j : Nat} {u v : Int} (hu : (coL s k st l n)[j]? = some u) (hv : (coL s k st (l.set i (x + more)) n)[j]? = some v) : u ≤ v := by
  have hl : lpOk s k = true := by
    unfold coE at h; split at h
    · assumption
    · omega
  have hj : j ≤ n.toNat := by
    have := (List.getElem?_eq_some_iff.1 hu).1
    rw [rise_len h] at this; omega
  unfold coL at hu hv
  rw [if_pos h, crs_get _ _ _ _ _ hj] at hu
  rw [if_pos he, crs_get _ _ _ _ _ hj] at hv
  injection hu with hu
  injection hv with hv
  subst hu hv
  refine v6.lvE_mono (Int.le_refl _) _ _ _ _ (Int.le_refl _) (by simp [v6.amts_len]) fun m a a' ha ha' => ?_
  have hm : m < j := by
    have := (List.getElem?_eq_some_iff.1 ha).1
    rw [List.length_take] at this; omega
  rw [List.getElem?_take_of_lt hm] at ha ha'
  have hmn : m < n.toNat := by omega
  rw [v6.amts_get _ _ hmn] at ha ha'
  injection ha with ha
  injection ha' with ha'
  subst ha ha'
  unfold lpPs
  rw [if_pos hl]
  exact arr_set hx h0 _
theorem add_cell {X : World} {b o j : Nat} {u : Value} (h : X.cell? ⟨b, o + j, none⟩ = some u) : X.cell? ((⟨b, o, none⟩ : Addr).add j) = some u := by
  rcases Nat.eq_zero_or_pos j with e | e
  · subst e; simpa [Addr.add] using h
  · have e2 : ¬ j = 0 := by omega
    simpa [Addr.add, e2] using h
theorem rise_row {X Z : World} {g cap m : Nat} {l : List Int} {x : Int} (y : Int) (hown : Z.ownsRow X.heap.size 3 1 (.slice (some ⟨g, 0, none⟩) (0 + l.length) cap) (0 + l.length) ([] ++ ints l)) (hgrow : X.grownBy Z (Value.slice none 0 0).ownBlock) (hx : l[m]? = some x) :
    Z.cell? ⟨g, m, none⟩ = some (.int .i64 x) ∧ Z.frozen? ⟨g, m, none⟩ = false ∧ Below X.heap.size X (Z.setCell ⟨g, m, none⟩ (.int .i64 y)) ∧ v6.IntSl (Z.setCell ⟨g, m, none⟩ (.int .i64 y)) (.slice (some ⟨g, 0, none⟩) l.length cap) (l.set m y) := by
  rw [Nat.zero_add, List.nil_append] at hown
  have hm := (List.getElem?_eq_some_iff.1 hx).1
  have hb : Below X.heap.size X Z := (Below.refl X.heap.size X).grown hgrow (Nat.le_refl _) (fun k hk => by cases hk)
  obtain ⟨A, c, e, hr⟩ := own_rw hown
  obtain ⟨b, o, e2, -, hc⟩ := hr.at_ hx
  have hset := v6.own_set (v := .int .i64 y) hown (show m < l.length * 1 by omega)
  have hbl : ∃ cs, Z.heap[g]? = some (.cells cs 3 (0, 0)) ∧ X.heap.size ≤ g := by
    obtain ⟨k1, ⟨e0, -⟩ | ⟨g', cap', cur, e0, k3, k4, k⟩⟩ := hown
    · cases e0
    · injection e0 with e0
      injection e0 with e0
      injection e0 with e0
      subst e0
      exact ⟨_, k4, k3⟩
  obtain ⟨cs, hg, hge⟩ := hbl
  have hcell := hown.cellAt m (by simp [ints]; omega)
  refine ⟨?_, frz hg m, hb.setCell (p := ⟨g, m, none⟩) hge _, ?_⟩
  · rw [hcell]; simp [ints, hx]
  · refine v6.own_intSl (base := X.heap.size) ?_
    have e3 : v6.ints (l.set m y) = (ints l).set m (.int .i64 y) := by
      show (l.set m y).map _ = (l.map _).set m _
      rw [List.map_set]
    rw [e3, List.length_set]
    exact hset
theorem at_small (n : Int) {m : Nat} (h0 : 0 < m) (h1 : m ≤ 100) : 0 ≤ wrap64 ((IntKind.u64.wrap n).tmod (m : Int)) ∧ wrap64 ((IntKind.u64.wrap n).tmod (m : Int)) < m := by
  have h : 0 ≤ IntKind.u64.wrap n := by
    unfold IntKind.wrap
    have := Int.emod_nonneg n (b := 18446744073709551616) (by omega)
    simp [IntKind.signed, IntKind.bits]
    omega
  rw [Int.tmod_eq_emod_of_nonneg (b := (m : Int)) h]
  have e1 := Int.emod_nonneg (IntKind.u64.wrap n) (b := (m : Int)) (by omega)
  have e2 := Int.emod_lt_of_pos (IntKind.u64.wrap n) (b := (m : Int)) (by omega)
  generalize IntKind.u64.wrap n % (m : Int) = y at *
  unfold wrap64
  omega
set_option maxHeartbeats 32000000 in
theorem row_CoolingRises (w : World) (p : SP) (s : SiteD) (hs : SiAt w p s) (k st : Int) (V : Value) (hts : List Int) (hV : v6.IntSl w V hts) (pos more : Int) :
    Calls Try.prog 3 #[siV p s, .int .i64 k, .int .i64 st, V, .int .i64 pos, .int .i64 more] w fun e w' => e = .returned (.bool true) ∧ Below w.heap.size w w' := by
  unfold siV
  obtain ⟨A, c, rfl, hc1, hc2⟩ := hV.shape
  unfold maxLen at hc2
  have HLV := Lib.hid (fun (X : World) => c_live X)
  obtain ⟨W, h1⟩ : ∃ W, W = w.alloc (.cells #[.slice p.a1 s.feeds.length p.c1, .slice p.a2 s.brks.length p.c2, .slice p.a3 s.loops.length p.c3, .slice p.a4 s.racks.length p.c4, .int .i64 s.sw, .slice p.a5 s.links.length p.c5, .slice p.a6 s.hosts.length p.c6] 29) := ⟨_, rfl⟩
  have B1 : Below w.heap.size w W := by rw [h1]; exact (Below.refl _ _).alloc (Nat.le_refl _) _
  have X1 : SiBox W w.heap.size p s := by rw [h1]; exact siBox_new _ _ _
  have HB := Lib.hid B1
  have HA := Lib.hid (fun (X : World) (hX : Below W.heap.size W X) => (hs.on B1 (Nat.le_refl _)).on hX (Nat.le_refl _))
  have HVV := Lib.hid (fun (X : World) (hX : Below W.heap.size W X) => (hV.on B1 (Nat.le_refl _)).on hX (Nat.le_refl _))
  have HF := Lib.hid (fun (X : World) (hX : Below W.heap.size W X) => (let z := X1.on hX (Nat.le_refl _); ⟨z.c0, z.c1, z.c2, z.c3, z.c4, z.c5, z.c6⟩ : X.cell? ⟨w.heap.size, 0, none⟩ = some (.slice p.a1 s.feeds.length p.c1) ∧ X.cell? ⟨w.heap.size, 1, none⟩ = some (.slice p.a2 s.brks.length p.c2) ∧ X.cell? ⟨w.heap.size, 2, none⟩ = some (.slice p.a3 s.loops.length p.c3) ∧ X.cell? ⟨w.heap.size, 3, none⟩ = some (.slice p.a4 s.racks.length p.c4) ∧ X.cell? ⟨w.heap.size, 4, none⟩ = some (.int .i64 s.sw) ∧ X.cell? ⟨w.heap.size, 5, none⟩ = some (.slice p.a5 s.links.length p.c5) ∧ X.cell? ⟨w.heap.size, 6, none⟩ = some (.slice p.a6 s.hosts.length p.c6)))
  have HKW := Lib.hid (Below.refl W.heap.size W)
  have hle := HB.out.size
  obtain ⟨r, hr⟩ := bool_of (FewS s)
  have HR := Lib.hid hr
  obtain ⟨i1, hi1, hz1, hz2, hz3⟩ := info_parts int_info
  clear B1 X1 hs hV hr
  obtain ⟨f0, f1, f2, f3, f4, f5, f6⟩ := HF.out W HKW.out
  rw [h1] at f0 f1 f2 f3 f4 f5 f6
  generalize hBB : w.heap.size = B at *
  go_enter Try.func3, Try.ntmps3
  go_wp2_with (fail)
  rw [← h1]
  clear h1 f0 f1 f2 f3 f4 f5 f6
  go_at_call 5
  refine (c_fewS p s r HR.out W (HA.out W HKW.out)).mono ?_
  rintro e v1 ⟨rfl, bb⟩
  have HKv1 := Lib.hid (below_join HKW.out bb HKW.out.size)
  clear bb
  cases r
  · skip
    go_wp2_with (fail)
    go_at_call 6
    refine (HLV.out v1).mono ?_
    rintro e v102 ⟨rfl, bb⟩
    have HKv102 := Lib.hid (below_join HKv1.out bb HKv1.out.size)
    clear bb
    go_wp2_with (fail)
    go_ret
    exact ⟨rfl, below_join HB.out HKv102.out hle⟩
  by_cases h0 : hts.length = 0
  · skip
    have hq : hts = [] := List.eq_nil_of_length_eq_zero h0
    subst hq
    go_wp2_with (fail)
    go_at_call 6
    refine (HLV.out v1).mono ?_
    rintro e v253 ⟨rfl, bb⟩
    have HKv253 := Lib.hid (below_join HKv1.out bb HKv1.out.size)
    clear bb
    go_wp2_with (fail)
    go_ret
    exact ⟨rfl, below_join HB.out HKv253.out hle⟩
  have h0p : 0 < hts.length := by omega
  have h0b : ((hts.length : Int) == 0) = false := by rw [beq_eq_false_iff_ne]; omega
  clear h0
  rcases q2 : decide (100 < (hts.length : Int)) with _ | _
  rotate_left
  · skip
    go_wp2_with (fail)
    go_at_call 6
    refine (HLV.out v1).mono ?_
    rintro e v404 ⟨rfl, bb⟩
    have HKv404 := Lib.hid (below_join HKv1.out bb HKv1.out.size)
    clear bb
    go_wp2_with (fail)
    go_ret
    exact ⟨rfl, below_join HB.out HKv404.out hle⟩
  have q2' := of_decide_eq_false q2
  rcases q3 : decide (more < 0) with _ | _
  rotate_left
  · skip
    go_wp2_with (fail)
    go_at_call 6
    refine (HLV.out v1).mono ?_
    rintro e v555 ⟨rfl, bb⟩
    have HKv555 := Lib.hid (below_join HKv1.out bb HKv1.out.size)
    clear bb
    go_wp2_with (fail)
    go_ret
    exact ⟨rfl, below_join HB.out HKv555.out hle⟩
  have q3' := of_decide_eq_false q3
  rcases q4 : decide (1000000 < more) with _ | _
  rotate_left
  · skip
    go_wp2_with (fail)
    go_at_call 6
    refine (HLV.out v1).mono ?_
    rintro e v706 ⟨rfl, bb⟩
    have HKv706 := Lib.hid (below_join HKv1.out bb HKv1.out.size)
    clear bb
    go_wp2_with (fail)
    go_ret
    exact ⟨rfl, below_join HB.out HKv706.out hle⟩
  have q4' := of_decide_eq_false q4
  have hn100 : hts.length ≤ 100 := by omega
  obtain ⟨e1, he1⟩ : ∃ t, coE s k st hts (hts.length : Int) = t := ⟨_, rfl⟩
  have HE1 := Lib.hid he1
  obtain ⟨l1, hl1⟩ : ∃ t, coL s k st hts (hts.length : Int) = t := ⟨_, rfl⟩
  have HL1 := Lib.hid hl1
  have HCA := Lib.hid (fun (X : World) (hX : Below W.heap.size W X) => c_coCourse p s k st hts _ (hts.length : Int) X (HA.out X hX) (HVV.out X hX) e1 HE1.out l1 HL1.out)
  clear he1 hl1
  obtain ⟨f0, f1, f2, f3, f4, f5, f6⟩ := HF.out v1 HKv1.out
  go_wp2_with (fail)
  clear f0 f1 f2 f3 f4 f5 f6
  go_at_call 7
  refine (HCA.out v1 HKv1.out).mono ?_
  rintro e v757 ⟨y1, rfl, hy1, bb⟩
  have HKv757 := Lib.hid (below_join HKv1.out bb HKv1.out.size)
  have Y1v757 := Lib.hid hy1; clear hy1
  clear bb
  rcases Decidable.em (e1 = 0) with he | he
  rotate_left
  · skip
    have heb : (e1 == 0) = false := beq_eq_false_iff_ne.2 he
    have heb2 : (e1 != 0) = true := by unfold bne; rw [heb]; rfl
    go_wp2_with (fail)
    go_at_call 6
    refine (HLV.out v757).mono ?_
    rintro e v858 ⟨rfl, bb⟩
    have HKv858 := Lib.hid (below_join HKv757.out bb HKv757.out.size)
    have Y1v858 := Lib.hid (Y1v757.out.on bb (Nat.le_refl _))
    clear bb
    go_wp2_with (fail)
    go_ret
    exact ⟨rfl, below_join HB.out HKv858.out hle⟩
  subst he
  obtain ⟨m, hm⟩ : ∃ m : Nat, (m : Int) = wrap64 ((IntKind.u64.wrap pos).tmod (hts.length : Int)) := ⟨(wrap64 ((IntKind.u64.wrap pos).tmod (hts.length : Int))).toNat, by have := at_small pos h0p hn100; omega⟩
  have hml : m < hts.length := by have := at_small pos h0p hn100; omega
  obtain ⟨x, hx⟩ : ∃ x, hts[m]? = some x := ⟨_, List.getElem?_eq_getElem hml⟩
  have HX := Lib.hid hx
  have bx := rise_bd HE1.out hx
  obtain ⟨pb, po, pc, e2, hpb, -, -, -⟩ := (HVV.out v757 HKv757.out).at_ hx
  injection e2 with e2 _ e3
  subst e2 e3
  have HNW := Lib.hid (show ∀ (j : Nat) (u : Value), (ints hts)[j]? = some u → v757.cell? ((⟨pb, po, none⟩ : Addr).add j) = some u by
    intro j u hj
    unfold ints at hj
    rw [List.getElem?_map] at hj
    obtain ⟨y, hy, rfl⟩ := Option.map_eq_some_iff.1 hj
    obtain ⟨pb', po', pc', e2, -, -, -, hc⟩ := (HVV.out v757 HKv757.out).at_ hy
    injection e2 with e2 _ e3
    injection e2 with e2
    injection e2 with e4 e5
    subst e4 e5
    exact add_cell hc)
  have hmi : (m : Int) < (hts.length : Int) := by omega
  clear hx
  have hm2 : wrap64 ((IntKind.u64.wrap pos).tmod (hts.length : Int)) = (m : Int) := hm.symm
  have hw : IntKind.i64.wrap (x + more) = x + more := wrap_in (by omega) (by omega)
  clear hm
  go_wp2_with (at_builtin; refine wpList_append_lies _ rfl _ _ 30 rfl v757.heap.size 3 i1 (.int .i64 0) 1 8 Try.underlying30 hi1 hz1 hz2 hz3 rfl (by decide) (.slice none 0 0) 0 [] rfl (World.ownsRow_nil _ _ _ _) ⟨pb, po, none⟩ hts.length c (ints hts) rfl (by simp [ints]) HNW.out (by intro u hu; unfold ints at hu; obtain ⟨y, -, rfl⟩ := List.mem_map.1 hu; rfl) h0p (by unfold maxLen; omega) (by omega) (Nat.le_refl _) v757.heap.size rfl ?_; intro g cap Z hown hgrow hgb hgz; obtain ⟨z0, z1, z2, z3⟩ := rise_row (x + more) hown hgrow HX.out; obtain ⟨Z2, hZ2⟩ : ∃ X, X = Z.setCell ⟨g, m, none⟩ (.int .i64 (x + more)) := ⟨_, rfl⟩; rw [← hZ2] at z2 z3; have HZI := Lib.hid z3; have HKZ := Lib.hid (below_join HKv757.out z2 HKv757.out.size); have Y1Z := Lib.hid (Y1v757.out.on z2 (Nat.le_refl _)); obtain ⟨f0, f1, f2, f3, f4, f5, f6⟩ := HF.out Z2 HKZ.out; rw [hZ2] at f0 f1 f2 f3 f4 f5 f6; have HZ2 := Lib.hid hZ2; clear hown hgrow hgb hgz z2 z3 hZ2)
  rw [← HZ2.out]
  obtain ⟨hot, hhot⟩ : ∃ t, hts.set m (x + more) = t := ⟨_, rfl⟩
  have HHOT := Lib.hid hhot
  have HHL := Lib.hid (show hot.length = hts.length by rw [← hhot, List.length_set])
  have HHG := Lib.hid (show hot[m]? = some (x + more) by rw [← hhot, List.getElem?_set_self hml])
  rw [hhot] at HZI
  obtain ⟨e2, he2⟩ : ∃ t, coE s k st hot (hts.length : Int) = t := ⟨_, rfl⟩
  have HE2 := Lib.hid he2
  obtain ⟨l2, hl2⟩ : ∃ t, coL s k st hot (hts.length : Int) = t := ⟨_, rfl⟩
  have HL2 := Lib.hid hl2
  have HER := Lib.hid (show e2 ≠ 0 → 100000000 < x + more by intro h; rw [← he2, ← hhot] at h; exact rise_err HE1.out HX.out (by omega) h)
  clear hhot he2 hl2
  have HKZ2 := HKZ
  have Y1Z2 := Y1Z
  have HIZ2 := HZI
  go_at_call 7
  refine (c_coCourse p s k st hot (.slice (some ⟨g, 0, none⟩) hts.length cap) (hts.length : Int) Z2 (HA.out Z2 HKZ2.out) HZI.out e2 HE2.out l2 HL2.out).mono ?_
  rintro e v909 ⟨y2, rfl, hy2, bb⟩
  have HKv909 := Lib.hid (below_join HKZ2.out bb HKZ2.out.size)
  have Y1v909 := Lib.hid (Y1Z2.out.on bb (Nat.le_refl _))
  have HIv909 := Lib.hid (HIZ2.out.on bb (Nat.le_refl _))
  have Y2v909 := Lib.hid hy2; clear hy2
  clear bb
  rcases Decidable.em (e2 = 0) with he | he
  rotate_left
  · skip
    have heb : (e2 == 0) = false := beq_eq_false_iff_ne.2 he
    have heb2 : (e2 != 0) = true := by unfold bne; rw [heb]; rfl
    have hbig := HER.out he
    obtain ⟨qb, qo, qc, e3, -, -, -, w0⟩ := HIv909.out.at_ HHG.out
    injection e3 with e3 e7 e4
    clear e7
    injection e3 with e3
    injection e3 with e5 e6
    subst e4 e5 e6
    rw [Nat.zero_add] at w0
    go_wp2_with (fail)
    go_at_call 6
    refine (HLV.out v909).mono ?_
    rintro e v1010 ⟨rfl, bb⟩
    have HKv1010 := Lib.hid (below_join HKv909.out bb HKv909.out.size)
    have Y1v1010 := Lib.hid (Y1v909.out.on bb (Nat.le_refl _))
    have HIv1010 := Lib.hid (HIv909.out.on bb (Nat.le_refl _))
    have Y2v1010 := Lib.hid (Y2v909.out.on bb (Nat.le_refl _))
    clear bb
    go_wp2_with (fail)
    go_ret
    exact ⟨rfl, below_join HB.out HKv1010.out hle⟩
  subst he
  have HN1 := Lib.hid (show l1.length = hts.length + 1 by rw [← HL1.out, rise_len HE1.out, Int.toNat_natCast])
  have HN2 := Lib.hid (show l2.length = hts.length + 1 by rw [← HL2.out, rise_len HE2.out, Int.toNat_natCast])
  have HLE := Lib.hid (show ∀ (j : Nat) (u v : Int), l1[j]? = some u → l2[j]? = some v → u ≤ v by
    intro j u v hu hv
    rw [← HL1.out] at hu
    rw [← HL2.out, ← HHOT.out] at hv
    exact rise_le HE1.out HX.out (by omega) (by rw [HHOT.out]; exact HE2.out) hu hv)
  obtain ⟨A1, c1, rfl, a1, a2⟩ := Y1v909.out.shape
  obtain ⟨A2, c2, rfl, a3, a4⟩ := Y2v909.out.shape
  unfold maxLen at a2 a4
  rw [HN1.out] at a1
  rw [HN2.out] at a3
  rw [HN1.out, HN2.out]
  have hfm : Try.prog.follows Departure.mixedOrders = true := by kernel_rfl
  go_wp2_with (fail)
  go_loopw [18] (fun i wr => ∃ j : Nat, j ≤ hts.length + 1 ∧ i = .int .i64 (j : Int) ∧ Hid (Below v909.heap.size v909 wr)) (fun i _ => hts.length + 1 - (intOf i).toNat)
  case atStart => exact ⟨0, Nat.zero_le _, rfl, Lib.hid (Below.refl _ _)⟩
  case round =>
    obtain ⟨j, hj, rfl, hK⟩ := hrel
    have hji : ((j : Nat) : Int).toNat = j := by omega
    have HKwr := Lib.hid (below_join HKv909.out hK.out HKv909.out.size)
    by_cases hlt : j < hts.length + 1
    · have hlt2 : (j : Int) < (hts.length : Int) + 1 := by omega
      obtain ⟨u, hu⟩ : ∃ u, l1[j]? = some u := ⟨_, List.getElem?_eq_getElem (by rw [HN1.out]; exact hlt)⟩
      obtain ⟨t, ht⟩ : ∃ u, l2[j]? = some u := ⟨_, List.getElem?_eq_getElem (by rw [HN2.out]; exact hlt)⟩
      have hut := HLE.out j u t hu ht
      have hdf : ¬ t < u := by omega
      obtain ⟨pb1, po1, pc1, e1, hpb1, -, -, x1⟩ := (Y1v909.out.on hK.out (Nat.le_refl _)).at_ hu
      injection e1 with e1 _ e2
      subst e1 e2
      obtain ⟨pb2, po2, pc2, e1, hpb2, -, -, x2⟩ := (Y2v909.out.on hK.out (Nat.le_refl _)).at_ ht
      injection e1 with e1 _ e2
      subst e1 e2
      clear hu ht
      go_wp2_with (fail)
      go_region
      go_wp2_with (fail)
      go_roundw
      case rel => exact ⟨j + 1, by omega, by go_num, Lib.hid hK.out.drew⟩
      case measure => simp only [intOf]; omega
    · have hje : j = hts.length + 1 := by omega
      have hlt2 : ¬ (j : Int) < (hts.length : Int) + 1 := by omega
      go_wp2_with (fail)
      go_at_call 6
      refine (HLV.out wr).mono ?_
      rintro e v1061 ⟨rfl, bb⟩
      have HKv1061 := Lib.hid (below_join HKwr.out bb HKwr.out.size)
      clear bb
      go_wp2_with (fail)
      go_ret
      exact ⟨rfl, below_join HB.out HKv1061.out hle⟩
end Go.Proofs.Ytpokpgnclohiiaa
