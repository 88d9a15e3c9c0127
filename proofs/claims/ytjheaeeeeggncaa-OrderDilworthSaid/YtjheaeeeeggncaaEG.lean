/-
  The law OrderDilworth (stage 10).
-/
import Derived.Test.YtjheaeeeeggncaaPB7
import Derived.Test.YtjheaeeeeggncaaPB6
set_option linter.unusedVariables false
set_option linter.unusedSimpArgs false
namespace Go.Proofs.Ytjheaeeeeggncaa
open Go.RowKit Go.Shelf
attribute [local go_sem] Oper.semAt_some
set_option maxRecDepth 100000
set_option linter.unusedVariables false
set_option linter.unusedSimpArgs false

theorem dv_chn {n : Nat} {f : Nat → Nat} {CH : List (List Nat)} (h : DvOk n f CH) {C : List Nat} (hC : C ∈ CH) : ∀ (q x : Nat), C[q]? = some x → Chn f q x := by
  intro q
  induction q with
  | zero => intro x _; trivial
  | succ q ih =>
    intro x hx
    have hq : q < C.length := by have := (List.getElem?_eq_some_iff.1 hx).1; omega
    exact ⟨C[q], h.ord C hC q x _ (List.getElem?_eq_getElem hq) hx, ih _ (List.getElem?_eq_getElem hq)⟩
theorem dv_high {n k : Nat} {f : Nat → Nat} {CH : List (List Nat)} (h : DvOk n f CH) (hk : High n f k) {C : List Nat} (hC : C ∈ CH) : C.length ≤ k := by
  rcases Nat.lt_or_ge k C.length with g | g
  · exact absurd (dv_chn h hC k _ (List.getElem?_eq_getElem g)) (hk.1 _ (h.lt _ (List.mem_flatten.2 ⟨C, hC, List.getElem_mem g⟩)))
  · exact g
/-- Which elements are seen. -/
def snL (n : Nat) (p : List Nat) : List Bool := (List.range n).map fun y => decide (y ∈ p)
theorem snL_len (n : Nat) (p : List Nat) : (snL n p).length = n := by simp [snL]
theorem snL_at {n : Nat} (p : List Nat) {y : Nat} (h : y < n) : (snL n p)[y]? = some (decide (y ∈ p)) := by simp [snL, h]
theorem snL_set {n : Nat} (p : List Nat) {x : Nat} (h : x < n) : (snL n p).set x true = snL n (p ++ [x]) := by
  apply List.ext_getElem?
  intro j
  rw [List.getElem?_set]
  by_cases e : x = j
  · subst e
    rw [if_pos rfl, snL_len, if_pos h, snL_at _ h]
    simp
  · rw [if_neg e]
    by_cases hj : j < n
    · rw [snL_at _ hj, snL_at _ hj]
      have : ¬ j = x := fun e2 => e e2.symm
      simp [this]
    · rw [List.getElem?_eq_none (by rw [snL_len]; omega), List.getElem?_eq_none (by rw [snL_len]; omega)]
theorem snL_all {n : Nat} {f : Nat → Nat} {CH : List (List Nat)} (h : DvOk n f CH) : false ∉ snL n CH.flatten := fun hm => by
  unfold snL at hm
  obtain ⟨y, hy, e⟩ := List.mem_map.1 hm
  exact absurd (h.all y (List.mem_range.1 hy)) (of_decide_eq_false e)
theorem anti_of {N st : Nat} {b : Nat → Nat} (hp : Po N b) (h : ∀ x ∈ lst N st, ∀ y ∈ lst N st, (b x).testBit y = false) : Anti N b st := fun i j hi h1 h2 => by
  cases hb : (b i).testBit j with
  | false => rfl
  | true =>
    have hj := hp.lt i j hi hb
    have := h i (lst_mem.2 ⟨hi, h1⟩) j (lst_mem.2 ⟨hj, h2⟩)
    rw [hb] at this; exact this
theorem dv_new {CH : List (List Nat)} (h : CH.flatten.Nodup) {ci i x : Nat} {C : List Nat} (hC : CH[ci]? = some C) (hx : C[i]? = some x) : x ∉ (CH.take ci).flatten ++ C.take i := by
  obtain ⟨h1, e1⟩ := List.getElem?_eq_some_iff.1 hC
  obtain ⟨h2, e2⟩ := List.getElem?_eq_some_iff.1 hx
  have e3 : CH = CH.take ci ++ C :: CH.drop (ci + 1) := by rw [← e1, ← List.drop_eq_getElem_cons h1, List.take_append_drop]
  have e4 : C = C.take i ++ x :: C.drop (i + 1) := by rw [← e2, ← List.drop_eq_getElem_cons h2, List.take_append_drop]
  intro hm
  rw [e3, List.flatten_append, List.flatten_cons] at h
  rcases List.mem_append.1 hm with hm | hm
  · exact (List.nodup_append.1 h).2.2 x hm x (List.mem_append.2 (.inl (by rw [e4]; simp))) rfl
  · have h5 := (List.nodup_append.1 (List.nodup_append.1 h).2.1).1
    rw [e4] at h5
    exact (List.nodup_append.1 h5).2.2 x hm x (by simp) rfl
theorem dv_next {CH : List (List Nat)} {ci : Nat} {C : List Nat} (hC : CH[ci]? = some C) : (CH.take (ci + 1)).flatten = (CH.take ci).flatten ++ C := by
  rw [take_snoc hC]; simp
def snC (n : Nat) (p : List Nat) : List Value := (snL n p).map .bool
theorem snC_len (n : Nat) (p : List Nat) : (snC n p).length = n := by unfold snC; rw [List.length_map, snL_len]
theorem snC_at {n : Nat} (p : List Nat) {y : Nat} (h : y < n) : (snC n p)[y]? = some (.bool (decide (y ∈ p))) := by unfold snC; rw [List.getElem?_map, snL_at p h]; rfl
theorem snC_set {n : Nat} (p : List Nat) {x : Nat} (h : x < n) : (snC n p).set x (.bool true) = snC n (p ++ [x]) := by unfold snC; rw [← snL_set p h, List.map_set]
theorem bo_info : (Try.prog.info? 4).map (fun i => (i.zero, i.size, i.bytes)) = some (some (.bool false), 1, 1) := by kernel_rfl
theorem mk_seen (n : Nat) (h0 : n ≤ 100) : ∀ w : World, (Instr.makeSlice 56 (.int .i64 (n : Int)) (.int .i64 (n : Int))).run Try.prog w = .ok (.slice (some ⟨w.heap.size, 0, none⟩) n n) (w.alloc (.cells (snC n []).toArray 4)) := by
  obtain ⟨i0, hi0, hz0, hz1, hz2⟩ := info_parts bo_info
  intro w
  have h := run_make (P := Try.prog) w 56 4 i0 (.bool false) Try.underlying56 hi0 hz0 .i64 .i64 (n : Int) (n : Int) (by omega) (by omega) (by rw [hz2]; omega) (by omega)
  rw [hz1] at h
  have e : (snC n []).toArray = madeCells (Value.bool false).cells n := by
    apply Array.toList_inj.1
    rw [show (Value.bool false).cells = #[.bool false] from rfl, toList_madeCells_one]
    apply List.ext_getElem?
    intro j
    by_cases hj : j < n
    · show (snC n [])[j]? = _
      rw [snC_at _ hj]; simp [hj]
    · show (snC n [])[j]? = _
      rw [List.getElem?_eq_none (by rw [snC_len]; omega)]; simp; omega
  rw [e]
  simpa using h
theorem snC_rv {w : World} {g n : Nat} {p : List Nat} (hn : n ≤ 9) (h : w.heap[g]? = some (.cells (snC n p).toArray 4 (0, 0))) : Rv 1 boV w (some ⟨g, 0, none⟩) n (snL n p) := by
  refine ⟨by rw [snL_len]; omega, by unfold maxLen; omega, (by intro e; cases e), fun h0 => ⟨g, 0, rfl, at_lt h, fun j x hj i hi => ?_⟩⟩
  obtain rfl : i = 0 := by omega
  refine cell_of h ?_
  rw [List.getElem?_toArray, Nat.zero_add, Nat.mul_one, Nat.add_zero]
  unfold snC
  rw [List.getElem?_map, hj]
  rfl
set_option maxHeartbeats 16000000 in
theorem row_OrderDilworth (w : World) (n : Nat) (hn : n < 256) (B : Option Addr) (d : Nat) (tn : List Nat) (h : Rv 1 u8V w B d tn) (htn : ∀ x ∈ tn, x < 256) (pr : Int) (hpr : 0 ≤ pr) (st : Nat) (hst : st < 65536) :
    Calls Try.prog 10 #[.int .u8 (n : Int), .slice B tn.length d, .int .u64 pr, .int .u16 (st : Int)] w fun e w' => e = .returned (.bool true) ∧ Below w.heap.size w w' := by
  have HM := Lib.hid (c_made n hn B d tn htn pr hpr w h)
  obtain ⟨i1, hi1, hz1, hz2, hz3⟩ := info_parts int_info
  clear h htn
  go_enter Try.func10, Try.ntmps10
  go_wp2_with (fail)
  go_at_call 41
  refine HM.out.mono ?_
  rintro e w1 ⟨v, ys, rfl, ho, hl9, hrd, b1⟩
  obtain ⟨A1, c1, rfl, hl1⟩ := ho.ls
  have HB1 := Lib.hid b1
  have HL1 := Lib.hid hl1
  have HC0 := Lib.hid (fun (X : World) (hX : LsAt X A1 c1 ys) => c_Closure A1 c1 ys X hX)
  have HC2 := Lib.hid (fun (X : World) (hX : LsAt X A1 c1 ys) => c_Height A1 c1 ys X hX)
  have HC3 := Lib.hid (fun (X : World) (hX : LsAt X A1 c1 ys) => c_Width A1 c1 ys X hX)
  have HC5 := Lib.hid (fun (X : World) (hX : LsAt X A1 c1 ys) => c_Chains A1 c1 ys X hX)
  obtain ⟨s1, s2⟩ := sizes_fact hrd
  obtain ⟨CH, hCH⟩ : ∃ C, chsN ys.length (joinB ys.length (ordF ys) ys.length) = C := ⟨_, rfl⟩
  rw [chsN_P, hCH, hrd] at HC5
  rw [hrd] at HC0 HC2 HC3
  rw [hCH] at s1 s2
  obtain ⟨b, hb⟩ : ∃ b, ordF ys = b := ⟨_, rfl⟩
  obtain ⟨N, hN⟩ : ∃ N, ys.length = N := ⟨_, rfl⟩
  rw [hN] at HC0 HC2 HC3 HC5 s1 s2 hl9 ⊢
  rw [hb] at HC0 HC2 HC3 s1 s2
  have HDV := Lib.hid s2
  have HS1 := Lib.hid s1
  have HPO := Lib.hid (show Po N b from by have := (rd_all hrd).2.2; rwa [hN, hb] at this)
  clear hb hN hCH b1 hl1 ho s1 s2 hrd
  go_wp2_with (fail)
  go_at_call 13
  refine (HC0.out w1 HL1.out).mono ?_
  intro e w2 h2
  rcases h2 with ⟨⟨h0, -⟩ | ⟨-, v2, al, rfl, ho2, hm2⟩, b2⟩
  · exact absurd rfl h0
  obtain ⟨A2, c2, rfl, hl2⟩ := ho2.ls
  have HB2 := Lib.hid (below_join HB1.out b2 HB1.out.size)
  have HL2 := Lib.hid (HL1.out.on b2 (Nat.le_refl _))
  have HA2 := Lib.hid hl2
  have HAM := Lib.hid hm2
  have hal : al.length = N := by have := congrArg List.length hm2; simpa [setsL] using this
  have HAL := Lib.hid hal
  rw [hal]
  clear b2 hl2 ho2 hm2 hal
  go_wp2_with (fail)
  go_at_call 37
  refine (HC3.out w2 HL2.out).mono ?_
  intro e w3 h3
  rcases h3 with ⟨⟨h0, -⟩ | ⟨-, kw, rfl, hkw⟩, b3⟩
  · exact absurd rfl h0
  have HB3 := Lib.hid (below_join HB2.out b3 HB2.out.size)
  have HL3 := Lib.hid (HL2.out.on b3 (Nat.le_refl _))
  have HA3 := Lib.hid (HA2.out.on b3 (Nat.le_refl _))
  have HKW := Lib.hid hkw
  clear b3 hkw
  go_wp2_with (fail)
  go_at_call 35
  refine (HC2.out w3 HL3.out).mono ?_
  intro e w4 h4
  rcases h4 with ⟨⟨h0, -⟩ | ⟨-, kh, rfl, hkh⟩, b4⟩
  · exact absurd rfl h0
  have HB4 := Lib.hid (below_join HB3.out b4 HB3.out.size)
  have HL4 := Lib.hid (HL3.out.on b4 (Nat.le_refl _))
  have HA4 := Lib.hid (HA3.out.on b4 (Nat.le_refl _))
  have HKH := Lib.hid hkh
  clear b4 hkh
  go_wp2_with (fail)
  go_at_call 39
  refine (HC5.out w4 HL4.out).mono ?_
  intro e w5 h5
  rcases h5 with ⟨⟨h0, -⟩ | ⟨-, v5, zs, rfl, ho5, hm5⟩, b5⟩
  · exact absurd rfl h0
  obtain ⟨A5, c5, rfl, hl5⟩ := ho5.ls
  have HB5 := Lib.hid (below_join HB4.out b5 HB4.out.size)
  have HL5 := Lib.hid (HL4.out.on b5 (Nat.le_refl _))
  have HA5 := Lib.hid (HA4.out.on b5 (Nat.le_refl _))
  have HZ5 := Lib.hid hl5
  have HZM := Lib.hid hm5
  have hzk : zs.length = kw := by
    have h1 := congrArg List.length hm5
    rw [List.length_map, List.length_map] at h1
    rw [h1, HS1.out]
    exact (thN_is (fun a b => Wide.uniq) kw HKW.out).symm
  have HZK := Lib.hid hzk
  rw [hzk]
  clear b5 hl5 ho5 hm5 hzk
  --LOOP
  have hmk := mk_seen N (by omega) w5
  obtain ⟨W0, hW0⟩ : ∃ z, z = w5.alloc (.cells (snC N []).toArray 4) := ⟨_, rfl⟩
  rw [← hW0] at hmk
  have bW0 : Below w5.heap.size w5 W0 := by rw [hW0]; exact (Below.refl _ _).alloc (Nat.le_refl _) _
  obtain ⟨gs, hgs⟩ : ∃ z, w5.heap.size = z := ⟨_, rfl⟩
  have HGS := Lib.hid hgs
  have HS0 := Lib.hid (show W0.heap[gs]? = some (.cells (snC N []).toArray 4 (0, 0)) by rw [hW0, ← hgs]; exact heap_alloc_new _ _)
  have HK0 := Lib.hid bW0
  rw [hgs] at hmk
  have hfm : Try.prog.follows Departure.mixedOrders = true := by kernel_rfl
  clear hW0 bW0 hgs
  have hkw9 : kw ≤ 9 := by obtain ⟨s0, -, h2⟩ := HKW.out.1; have := lst_len N s0; omega
  go_wp2_with (fail)
  go_loopw [85] (fun z wr => ∃ ci : Nat, ci ≤ kw ∧ z = .int .i64 (ci : Int) ∧ Hid (Below w5.heap.size w5 wr) ∧ Hid (wr.heap[gs]? = some (.cells (snC N (CH.take ci).flatten).toArray 4 (0, 0)))) (fun z _ => kw - (intOf z).toNat)
  case atStart => exact ⟨0, Nat.zero_le _, rfl, HK0, HS0⟩
  case round =>
    obtain ⟨ci, hci, rfl, hB, hS⟩ := hrel
    have hcc : ((ci : Nat) : Int).toNat = ci := by omega
    by_cases hlt : ci < kw
    · have hcl : (ci : Int) < (kw : Int) := by omega
      obtain ⟨C, hC⟩ : ∃ C, CH[ci]? = some C := ⟨_, List.getElem?_eq_getElem (by rw [show CH.length = kw from by have h1 := congrArg List.length HZM.out; rw [List.length_map, List.length_map] at h1; rw [← h1]; exact HZK.out]; exact hlt)⟩
      obtain ⟨y, hy⟩ : ∃ y, zs[ci]? = some y := ⟨_, List.getElem?_eq_getElem (by rw [HZK.out]; exact hlt)⟩
      have hyl : y.l = intsN C := by
        have h1 := congrArg (fun L => L[ci]?) HZM.out
        simp only [List.getElem?_map, hy, hC, Option.map_some] at h1
        injection h1
      have hZ := HZ5.out.on hB.out (Nat.le_refl _)
      obtain ⟨pb, po, hpe, hpw, -⟩ := hZ.1.at_ hy
      rw [hpe]
      rw [hpe] at hZ
      have y0 := ls_at hZ.1 hy
      have HRX := Lib.hid (hZ.2 y (List.mem_of_getElem? hy))
      have hCm := List.mem_of_getElem? hC
      have hch := dv_high HDV.out HKH.out hCm
      have hne : 0 < C.length := List.length_pos_iff.2 (HDV.out.ne C hCm)
      have hC9 : C.length ≤ 9 := Nat.le_trans (nodup_le N C ((List.pairwise_flatten.1 HDV.out.nd).1 C hCm) (fun x hx => HDV.out.lt x (List.mem_flatten.2 ⟨C, hCm, hx⟩))) hl9
      obtain ⟨Ax, cx, l⟩ := y
      have hyl : l = intsN C := hyl
      subst hyl
      simp only at y0 HRX
      have HCC := Lib.hid hC
      have HY := Lib.hid hy
      obtain ⟨nC, hnC⟩ : ∃ z, C.length = z := ⟨_, rfl⟩
      have HNC := Lib.hid hnC
      rw [intsN_len, hnC] at y0
      rw [hnC] at hch hne hC9
      have hC0 : ((nC : Int) == 0) = false := by simp; omega
      have hCk : (nC : Int) ≤ (kh : Int) := by omega
      clear hC hy hZ hpw hCm hnC
      have HP0 := Lib.hid (show wr.heap[gs]? = some (.cells (snC N ((CH.take ci).flatten ++ C.take 0)).toArray 4 (0, 0)) by rw [List.take_zero, List.append_nil]; exact hS.out)
      go_wp2_with (fail)
      rename World => wo
      go_loopw [100] (fun z wr => ∃ i : Nat, i ≤ nC ∧ z = .int .i64 (i : Int) ∧ Hid (Below w5.heap.size w5 wr) ∧ Hid (wr.heap[gs]? = some (.cells (snC N ((CH.take ci).flatten ++ C.take i)).toArray 4 (0, 0)))) (fun z _ => nC - (intOf z).toNat)
      case atStart => exact ⟨0, Nat.zero_le _, rfl, hB, HP0⟩
      case round =>
        clear hB hS HP0 HRX y0
        obtain ⟨i, hi, rfl, hB, hS⟩ := hrel
        have hii : ((i : Nat) : Int).toNat = i := by omega
        by_cases hlt2 : i < nC
        · have hil : (i : Int) < (nC : Int) := by omega
          obtain ⟨x, hx⟩ : ∃ x, C[i]? = some x := ⟨_, List.getElem?_eq_getElem (by rw [HNC.out]; exact hlt2)⟩
          have hx1 : (intsN C)[i]? = some (x : Int) := by unfold intsN; rw [List.getElem?_map, hx]; rfl
          have hZ := HZ5.out.on hB.out (Nat.le_refl _)
          have hR := hZ.2 _ (List.mem_of_getElem? HY.out)
          have hR : Rv 1 inV wr Ax cx (intsN C) := hR
          obtain ⟨qb, qo, hqe, hqw, -⟩ := hR.at_ hx1
          subst hqe
          have x0 := inV_at hR hx1
          have hxm : x ∈ CH.flatten := List.mem_flatten.2 ⟨C, List.mem_of_getElem? HCC.out, List.mem_of_getElem? hx⟩
          have hxN : x < N := HDV.out.lt x hxm
          have hxN2 : (x : Int) < (N : Int) := by omega
          have hxx : ((x : Nat) : Int).toNat = x := by omega
          have hnew : decide (x ∈ (CH.take ci).flatten ++ C.take i) = false := decide_eq_false (dv_new HDV.out.nd HCC.out hx)
          have s0 : wr.cell? ⟨gs, x, none⟩ = some (.bool false) := cell_of hS.out (by rw [List.getElem?_toArray, snC_at _ hxN, hnew])
          have s1 : wr.frozen? ⟨gs, x, none⟩ = false := frz hS.out x
          have HN2 := Lib.hid (show (wr.setCell ⟨gs, x, none⟩ (.bool true)).heap[gs]? = some (.cells (snC N ((CH.take ci).flatten ++ C.take (i + 1))).toArray 4 (0, 0)) by rw [set_field hS.out, List.setIfInBounds_toArray, snC_set _ hxN, take_snoc hx, List.append_assoc])
          have HB2 := Lib.hid (hB.out.setCell (p := ⟨gs, x, none⟩) (by rw [HGS.out]; exact Nat.le_refl _) (.bool true))
          have hd1 : decide ((x : Int) < 0) = false := decide_eq_false (by omega)
          have hd2 : decide ((N : Int) ≤ (x : Int)) = false := decide_eq_false (by omega)
          have hd2n : decide (N ≤ x) = false := decide_eq_false (by omega)
          rcases Nat.eq_zero_or_pos i with hi0 | hi0
          · have hd3 : decide ((0 : Int) < (i : Int)) = false := decide_eq_false (by omega)
            have hd3n : decide (0 < i) = false := decide_eq_false (by omega)
            clear hx hx1 hZ hR hxm hnew hi0
            go_wp2_with (fail)
            refine region_zs (fun _ => false) (S := fun X => X.cell? ⟨gs, x, none⟩ = some (.bool false)) hfm s0 (fun hHeld => ?_)
            refine takeZs 0 (some 105) (by kernel_rfl) rfl rfl rfl (by kernel_rfl) (by kernel_rfl) (by kernel_rfl) (by kernel_rfl) (fun _ _ _ h => h) (by rfl) (by intro w g1; go_simp; try with_reducible rfl) hHeld ?_
            simp only [Act.put, List.setIfInBounds_toArray, List.set_cons_zero, List.set_cons_succ]
            refine takeZs 1 (some 106) (by kernel_rfl) rfl rfl rfl (by kernel_rfl) (by kernel_rfl) (by kernel_rfl) (by kernel_rfl) (fun _ _ _ h => h) (by rfl) (by intro w g1; go_simp; try with_reducible rfl) hHeld ?_
            simp only [Act.put, List.setIfInBounds_toArray, List.set_cons_zero, List.set_cons_succ]
            try rw [hd1]
            refine takeZs 2 (some 107) (by kernel_rfl) rfl rfl rfl (by kernel_rfl) (by kernel_rfl) (by kernel_rfl) (by kernel_rfl) (fun _ _ _ h => h) (by rfl) (by intro w g1; go_simp; try with_reducible rfl) hHeld ?_
            simp only [Act.put, List.setIfInBounds_toArray, List.set_cons_zero, List.set_cons_succ]
            refine takeZs 3 (some 108) (by kernel_rfl) rfl rfl rfl (by kernel_rfl) (by kernel_rfl) (by kernel_rfl) (by kernel_rfl) (fun _ _ _ h => h) (by rfl) (by intro w g1; go_simp; try with_reducible rfl) hHeld ?_
            simp only [Act.put, List.setIfInBounds_toArray, List.set_cons_zero, List.set_cons_succ]
            refine takeZs 4 (some 109) (by kernel_rfl) rfl rfl rfl (by kernel_rfl) (by kernel_rfl) (by kernel_rfl) (by kernel_rfl) (fun _ _ _ h => h) (by rfl) (by intro w g1; go_simp; try with_reducible rfl) hHeld ?_
            simp only [Act.put, List.setIfInBounds_toArray, List.set_cons_zero, List.set_cons_succ]
            refine takeZs 5 (some 110) (by kernel_rfl) rfl rfl rfl (by kernel_rfl) (by kernel_rfl) (by kernel_rfl) (by kernel_rfl) (fun _ _ _ h => h) (by rfl) (by intro w g1; go_simp; try with_reducible rfl) hHeld ?_
            simp only [Act.put, List.setIfInBounds_toArray, List.set_cons_zero, List.set_cons_succ]
            refine takeZs 6 (some 111) (by kernel_rfl) rfl rfl rfl (by kernel_rfl) (by kernel_rfl) (by kernel_rfl) (by kernel_rfl) (fun _ _ _ h => h) (by rfl) (by intro w g1; go_simp; try with_reducible rfl) hHeld ?_
            simp only [Act.put, List.setIfInBounds_toArray, List.set_cons_zero, List.set_cons_succ]
            first | rw [hd2] | rw [hd2n] | skip
            refine takeZs 7 (some 112) (by kernel_rfl) rfl rfl rfl (by kernel_rfl) (by kernel_rfl) (by kernel_rfl) (by kernel_rfl) (fun _ _ _ h => h) (by rfl) (by intro w g1; go_simp; try with_reducible rfl) hHeld ?_
            simp only [Act.put, List.setIfInBounds_toArray, List.set_cons_zero, List.set_cons_succ]
            refine takeZs 8 (some 113) (by kernel_rfl) rfl rfl rfl (by kernel_rfl) (by kernel_rfl) (by kernel_rfl) (by kernel_rfl) (fun _ _ _ h => h) (by rfl) (by intro w g1; go_simp; try with_reducible rfl) hHeld ?_
            simp only [Act.put, List.setIfInBounds_toArray, List.set_cons_zero, List.set_cons_succ]
            refine takeZs 9 (some 114) (by kernel_rfl) rfl rfl rfl (by kernel_rfl) (by kernel_rfl) (by kernel_rfl) (by kernel_rfl) (fun _ _ _ h => h) (by rfl) (by intro w g1; go_simp; try with_reducible rfl) hHeld ?_
            simp only [Act.put, List.setIfInBounds_toArray, List.set_cons_zero, List.set_cons_succ]
            refine takeZs 10 (some 115) (by kernel_rfl) rfl rfl rfl (by kernel_rfl) (by kernel_rfl) (by kernel_rfl) (by kernel_rfl) (fun _ _ _ h => h) (by rfl) (by intro w g1; go_simp; try with_reducible rfl) hHeld ?_
            simp only [Act.put, List.setIfInBounds_toArray, List.set_cons_zero, List.set_cons_succ]
            refine takeZs 11 (some 116) (by kernel_rfl) rfl rfl rfl (by kernel_rfl) (by kernel_rfl) (by kernel_rfl) (by kernel_rfl) (fun _ _ _ h => h) (by rfl) (by intro w g1; go_simp; try with_reducible rfl) hHeld ?_
            simp only [Act.put, List.setIfInBounds_toArray, List.set_cons_zero, List.set_cons_succ]
            refine takeZs 12 (some 117) (by kernel_rfl) rfl rfl rfl (by kernel_rfl) (by kernel_rfl) (by kernel_rfl) (by kernel_rfl) (fun _ _ _ h => h) (by rfl) (by intro w g1; go_simp; try with_reducible rfl) hHeld ?_
            simp only [Act.put, List.setIfInBounds_toArray, List.set_cons_zero, List.set_cons_succ]
            refine takeZs 13 (some 118) (by kernel_rfl) rfl rfl rfl (by kernel_rfl) (by kernel_rfl) (by kernel_rfl) (by kernel_rfl) (fun _ _ _ h => h) (by rfl) (by intro w g1; go_simp; try with_reducible rfl) hHeld ?_
            simp only [Act.put, List.setIfInBounds_toArray, List.set_cons_zero, List.set_cons_succ]
            refine takeZs 14 (some 119) (by kernel_rfl) rfl rfl rfl (by kernel_rfl) (by kernel_rfl) (by kernel_rfl) (by kernel_rfl) (fun _ _ _ h => h) (by rfl) (by intro w g1; go_simp; try with_reducible rfl) hHeld ?_
            simp only [Act.put, List.setIfInBounds_toArray, List.set_cons_zero, List.set_cons_succ]
            refine takeZs 15 (some 120) (by kernel_rfl) rfl rfl rfl (by kernel_rfl) (by kernel_rfl) (by kernel_rfl) (by kernel_rfl) (fun _ _ _ h => h) (by rfl) (by intro w g1; go_simp; try with_reducible rfl) hHeld ?_
            simp only [Act.put, List.setIfInBounds_toArray, List.set_cons_zero, List.set_cons_succ]
            refine takeZs 16 (some 121) (by kernel_rfl) rfl rfl rfl (by kernel_rfl) (by kernel_rfl) (by kernel_rfl) (by kernel_rfl) (fun _ _ _ h => h) (by rfl) (by intro w g1; go_simp; try with_reducible rfl) hHeld ?_
            simp only [Act.put, List.setIfInBounds_toArray, List.set_cons_zero, List.set_cons_succ]
            first | rw [hd3] | rw [hd3n] | skip
            refine takeZs 17 (some 122) (by kernel_rfl) rfl rfl rfl (by kernel_rfl) (by kernel_rfl) (by kernel_rfl) (by kernel_rfl) (fun _ _ _ h => h) (by rfl) (by intro w g1; go_simp; try with_reducible rfl) hHeld ?_
            simp only [Act.put, List.setIfInBounds_toArray, List.set_cons_zero, List.set_cons_succ]
            refine skipZs 18 (some 123) (by kernel_rfl) rfl rfl rfl (by kernel_rfl) (by kernel_rfl) (by kernel_rfl) (by kernel_rfl) (fun _ _ _ h => h) (by rfl) hHeld ?_
            simp only [Act.put, List.setIfInBounds_toArray, List.set_cons_zero, List.set_cons_succ]
            refine skipZs 19 (some 124) (by kernel_rfl) rfl rfl rfl (by kernel_rfl) (by kernel_rfl) (by kernel_rfl) (by kernel_rfl) (fun _ _ _ h => h) (by rfl) hHeld ?_
            simp only [Act.put, List.setIfInBounds_toArray, List.set_cons_zero, List.set_cons_succ]
            refine skipZs 20 (some 125) (by kernel_rfl) rfl rfl rfl (by kernel_rfl) (by kernel_rfl) (by kernel_rfl) (by kernel_rfl) (fun _ _ _ h => h) (by rfl) hHeld ?_
            simp only [Act.put, List.setIfInBounds_toArray, List.set_cons_zero, List.set_cons_succ]
            refine skipZs 21 (some 126) (by kernel_rfl) rfl rfl rfl (by kernel_rfl) (by kernel_rfl) (by kernel_rfl) (by kernel_rfl) (fun _ _ _ h => h) (by rfl) hHeld ?_
            simp only [Act.put, List.setIfInBounds_toArray, List.set_cons_zero, List.set_cons_succ]
            refine skipZs 22 (some 127) (by kernel_rfl) rfl rfl rfl (by kernel_rfl) (by kernel_rfl) (by kernel_rfl) (by kernel_rfl) (fun _ _ _ h => h) (by rfl) hHeld ?_
            simp only [Act.put, List.setIfInBounds_toArray, List.set_cons_zero, List.set_cons_succ]
            refine skipZs 23 (some 128) (by kernel_rfl) rfl rfl rfl (by kernel_rfl) (by kernel_rfl) (by kernel_rfl) (by kernel_rfl) (fun _ _ _ h => h) (by rfl) hHeld ?_
            simp only [Act.put, List.setIfInBounds_toArray, List.set_cons_zero, List.set_cons_succ]
            refine skipZs 24 (some 129) (by kernel_rfl) rfl rfl rfl (by kernel_rfl) (by kernel_rfl) (by kernel_rfl) (by kernel_rfl) (fun _ _ _ h => h) (by rfl) hHeld ?_
            simp only [Act.put, List.setIfInBounds_toArray, List.set_cons_zero, List.set_cons_succ]
            refine skipZs 25 (some 130) (by kernel_rfl) rfl rfl rfl (by kernel_rfl) (by kernel_rfl) (by kernel_rfl) (by kernel_rfl) (fun _ _ _ h => h) (by rfl) hHeld ?_
            simp only [Act.put, List.setIfInBounds_toArray, List.set_cons_zero, List.set_cons_succ]
            refine skipZs 26 (some 131) (by kernel_rfl) rfl rfl rfl (by kernel_rfl) (by kernel_rfl) (by kernel_rfl) (by kernel_rfl) (fun _ _ _ h => h) (by rfl) hHeld ?_
            simp only [Act.put, List.setIfInBounds_toArray, List.set_cons_zero, List.set_cons_succ]
            refine skipZs 27 (some 132) (by kernel_rfl) rfl rfl rfl (by kernel_rfl) (by kernel_rfl) (by kernel_rfl) (by kernel_rfl) (fun _ _ _ h => h) (by rfl) hHeld ?_
            simp only [Act.put, List.setIfInBounds_toArray, List.set_cons_zero, List.set_cons_succ]
            refine skipZs 28 (some 133) (by kernel_rfl) rfl rfl rfl (by kernel_rfl) (by kernel_rfl) (by kernel_rfl) (by kernel_rfl) (fun _ _ _ h => h) (by rfl) hHeld ?_
            simp only [Act.put, List.setIfInBounds_toArray, List.set_cons_zero, List.set_cons_succ]
            refine takeZs 29 (some 134) (by kernel_rfl) rfl rfl rfl (by kernel_rfl) (by kernel_rfl) (by kernel_rfl) (by kernel_rfl) (fun _ _ _ h => h) (by rfl) (by intro w g1; go_simp; try with_reducible rfl) hHeld ?_
            simp only [Act.put, List.setIfInBounds_toArray, List.set_cons_zero, List.set_cons_succ]
            refine takeZs 30 (some 135) (by kernel_rfl) rfl rfl rfl (by kernel_rfl) (by kernel_rfl) (by kernel_rfl) (by kernel_rfl) (fun _ _ _ h => h) (by rfl) (by intro w g1; go_simp; try with_reducible rfl) hHeld ?_
            simp only [Act.put, List.setIfInBounds_toArray, List.set_cons_zero, List.set_cons_succ]
            refine doneZs (by kernel_rfl) ?_ _
            clear hHeld
            go_wp2_with (fail)
            go_roundw
            case rel => exact ⟨i + 1, by omega, by go_num, Lib.hid HB2.out.drew, HN2⟩
            case measure => simp only [intOf]; omega
          · obtain ⟨q, hqi⟩ : ∃ q, i = q + 1 := ⟨i - 1, by omega⟩
            have hd3 : decide ((0 : Int) < (i : Int)) = true := decide_eq_true (by omega)
            have hd3n : decide (0 < i) = true := decide_eq_true (by omega)
            have hqn : q < nC := by omega
            have hql : (q : Int) < (nC : Int) := by omega
            have hqq : ((q : Nat) : Int).toNat = q := by omega
            have hsub : IntKind.i64.wrap ((i : Int) - 1) = (q : Int) := by rw [show (i : Int) - 1 = (q : Int) by omega]; exact wrap_in (by omega) (by omega)
            obtain ⟨yq, hyq⟩ : ∃ y, C[q]? = some y := ⟨_, List.getElem?_eq_getElem (by rw [HNC.out]; exact hqn)⟩
            have hy1 : (intsN C)[q]? = some (yq : Int) := by unfold intsN; rw [List.getElem?_map, hyq]; rfl
            have x1 := inV_at hR hy1
            have hbit : (b x).testBit yq = true := HDV.out.ord C (List.mem_of_getElem? HCC.out) q x yq hyq (by rw [← hqi]; exact hx)
            have hyN : yq < N := HPO.out.lt x yq hxN hbit
            obtain ⟨ax, hax⟩ : ∃ y, al[x]? = some y := ⟨_, List.getElem?_eq_getElem (by rw [HAL.out]; exact hxN)⟩
            have hal : ax.l = intsN (lst 12 (b x)) := by
              have h1 := congrArg (fun L => L[x]?) HAM.out
              simp only [setsL, List.getElem?_map, hax, List.getElem?_range hxN, Option.map_some] at h1
              injection h1
            have hAt := HA5.out.on hB.out (Nat.le_refl _)
            obtain ⟨ab, ao, hae, -, -⟩ := hAt.1.at_ hax
            subst hae
            have x2 := ls_at hAt.1 hax
            have hRa := (hAt.2 ax (List.mem_of_getElem? hax)).on (B := wr.heap.size) (Below.refl _ _).drew (Nat.le_refl _)
            have hin : (true = true) ↔ (yq : Int) ∈ ax.l := ⟨fun _ => by rw [hal]; unfold intsN; exact List.mem_map.2 ⟨yq, lst_mem.2 ⟨by omega, hbit⟩, rfl⟩, fun _ => rfl⟩
            obtain ⟨aA, ac, al0⟩ := ax
            have HCT := Lib.hid (c_Contains aA ac al0 (yq : Int) true hin wr.drew hRa)
            simp only at x2
            clear hx hx1 hZ hR hxm hnew hi0 hqi hyq hy1 hbit hax hal hAt hRa hin
            go_wp2_with (fail)
            refine region_zs (fun _ => false) (S := fun X => X.cell? ⟨gs, x, none⟩ = some (.bool false) ∧ X.cell? ⟨ab, ao + x, none⟩ = some (.slice aA al0.length ac) ∧ X.cell? ⟨qb, qo + q, none⟩ = some (.int .i64 (yq : Int))) hfm ⟨s0, x2, x1⟩ (fun hHeld => ?_)
            refine takeZs 0 (some 105) (by kernel_rfl) rfl rfl rfl (by kernel_rfl) (by kernel_rfl) (by kernel_rfl) (by kernel_rfl) (fun _ _ _ h => h) (by rfl) (by intro w ⟨g1, g2, g3⟩; go_simp; try with_reducible rfl) hHeld ?_
            simp only [Act.put, List.setIfInBounds_toArray, List.set_cons_zero, List.set_cons_succ]
            refine takeZs 1 (some 106) (by kernel_rfl) rfl rfl rfl (by kernel_rfl) (by kernel_rfl) (by kernel_rfl) (by kernel_rfl) (fun _ _ _ h => h) (by rfl) (by intro w ⟨g1, g2, g3⟩; go_simp; try with_reducible rfl) hHeld ?_
            simp only [Act.put, List.setIfInBounds_toArray, List.set_cons_zero, List.set_cons_succ]
            try rw [hd1]
            refine takeZs 2 (some 107) (by kernel_rfl) rfl rfl rfl (by kernel_rfl) (by kernel_rfl) (by kernel_rfl) (by kernel_rfl) (fun _ _ _ h => h) (by rfl) (by intro w ⟨g1, g2, g3⟩; go_simp; try with_reducible rfl) hHeld ?_
            simp only [Act.put, List.setIfInBounds_toArray, List.set_cons_zero, List.set_cons_succ]
            refine takeZs 3 (some 108) (by kernel_rfl) rfl rfl rfl (by kernel_rfl) (by kernel_rfl) (by kernel_rfl) (by kernel_rfl) (fun _ _ _ h => h) (by rfl) (by intro w ⟨g1, g2, g3⟩; go_simp; try with_reducible rfl) hHeld ?_
            simp only [Act.put, List.setIfInBounds_toArray, List.set_cons_zero, List.set_cons_succ]
            refine takeZs 4 (some 109) (by kernel_rfl) rfl rfl rfl (by kernel_rfl) (by kernel_rfl) (by kernel_rfl) (by kernel_rfl) (fun _ _ _ h => h) (by rfl) (by intro w ⟨g1, g2, g3⟩; go_simp; try with_reducible rfl) hHeld ?_
            simp only [Act.put, List.setIfInBounds_toArray, List.set_cons_zero, List.set_cons_succ]
            refine takeZs 5 (some 110) (by kernel_rfl) rfl rfl rfl (by kernel_rfl) (by kernel_rfl) (by kernel_rfl) (by kernel_rfl) (fun _ _ _ h => h) (by rfl) (by intro w ⟨g1, g2, g3⟩; go_simp; try with_reducible rfl) hHeld ?_
            simp only [Act.put, List.setIfInBounds_toArray, List.set_cons_zero, List.set_cons_succ]
            refine takeZs 6 (some 111) (by kernel_rfl) rfl rfl rfl (by kernel_rfl) (by kernel_rfl) (by kernel_rfl) (by kernel_rfl) (fun _ _ _ h => h) (by rfl) (by intro w ⟨g1, g2, g3⟩; go_simp; try with_reducible rfl) hHeld ?_
            simp only [Act.put, List.setIfInBounds_toArray, List.set_cons_zero, List.set_cons_succ]
            first | rw [hd2] | rw [hd2n] | skip
            refine takeZs 7 (some 112) (by kernel_rfl) rfl rfl rfl (by kernel_rfl) (by kernel_rfl) (by kernel_rfl) (by kernel_rfl) (fun _ _ _ h => h) (by rfl) (by intro w ⟨g1, g2, g3⟩; go_simp; try with_reducible rfl) hHeld ?_
            simp only [Act.put, List.setIfInBounds_toArray, List.set_cons_zero, List.set_cons_succ]
            refine takeZs 8 (some 113) (by kernel_rfl) rfl rfl rfl (by kernel_rfl) (by kernel_rfl) (by kernel_rfl) (by kernel_rfl) (fun _ _ _ h => h) (by rfl) (by intro w ⟨g1, g2, g3⟩; go_simp; try with_reducible rfl) hHeld ?_
            simp only [Act.put, List.setIfInBounds_toArray, List.set_cons_zero, List.set_cons_succ]
            refine takeZs 9 (some 114) (by kernel_rfl) rfl rfl rfl (by kernel_rfl) (by kernel_rfl) (by kernel_rfl) (by kernel_rfl) (fun _ _ _ h => h) (by rfl) (by intro w ⟨g1, g2, g3⟩; go_simp; try with_reducible rfl) hHeld ?_
            simp only [Act.put, List.setIfInBounds_toArray, List.set_cons_zero, List.set_cons_succ]
            refine takeZs 10 (some 115) (by kernel_rfl) rfl rfl rfl (by kernel_rfl) (by kernel_rfl) (by kernel_rfl) (by kernel_rfl) (fun _ _ _ h => h) (by rfl) (by intro w ⟨g1, g2, g3⟩; go_simp; try with_reducible rfl) hHeld ?_
            simp only [Act.put, List.setIfInBounds_toArray, List.set_cons_zero, List.set_cons_succ]
            refine takeZs 11 (some 116) (by kernel_rfl) rfl rfl rfl (by kernel_rfl) (by kernel_rfl) (by kernel_rfl) (by kernel_rfl) (fun _ _ _ h => h) (by rfl) (by intro w ⟨g1, g2, g3⟩; go_simp; try with_reducible rfl) hHeld ?_
            simp only [Act.put, List.setIfInBounds_toArray, List.set_cons_zero, List.set_cons_succ]
            refine takeZs 12 (some 117) (by kernel_rfl) rfl rfl rfl (by kernel_rfl) (by kernel_rfl) (by kernel_rfl) (by kernel_rfl) (fun _ _ _ h => h) (by rfl) (by intro w ⟨g1, g2, g3⟩; go_simp; try with_reducible rfl) hHeld ?_
            simp only [Act.put, List.setIfInBounds_toArray, List.set_cons_zero, List.set_cons_succ]
            refine takeZs 13 (some 118) (by kernel_rfl) rfl rfl rfl (by kernel_rfl) (by kernel_rfl) (by kernel_rfl) (by kernel_rfl) (fun _ _ _ h => h) (by rfl) (by intro w ⟨g1, g2, g3⟩; go_simp; try with_reducible rfl) hHeld ?_
            simp only [Act.put, List.setIfInBounds_toArray, List.set_cons_zero, List.set_cons_succ]
            refine takeZs 14 (some 119) (by kernel_rfl) rfl rfl rfl (by kernel_rfl) (by kernel_rfl) (by kernel_rfl) (by kernel_rfl) (fun _ _ _ h => h) (by rfl) (by intro w ⟨g1, g2, g3⟩; go_simp; try with_reducible rfl) hHeld ?_
            simp only [Act.put, List.setIfInBounds_toArray, List.set_cons_zero, List.set_cons_succ]
            refine takeZs 15 (some 120) (by kernel_rfl) rfl rfl rfl (by kernel_rfl) (by kernel_rfl) (by kernel_rfl) (by kernel_rfl) (fun _ _ _ h => h) (by rfl) (by intro w ⟨g1, g2, g3⟩; go_simp; try with_reducible rfl) hHeld ?_
            simp only [Act.put, List.setIfInBounds_toArray, List.set_cons_zero, List.set_cons_succ]
            refine takeZs 16 (some 121) (by kernel_rfl) rfl rfl rfl (by kernel_rfl) (by kernel_rfl) (by kernel_rfl) (by kernel_rfl) (fun _ _ _ h => h) (by rfl) (by intro w ⟨g1, g2, g3⟩; go_simp; try with_reducible rfl) hHeld ?_
            simp only [Act.put, List.setIfInBounds_toArray, List.set_cons_zero, List.set_cons_succ]
            first | rw [hd3] | rw [hd3n] | skip
            refine takeZs 17 (some 122) (by kernel_rfl) rfl rfl rfl (by kernel_rfl) (by kernel_rfl) (by kernel_rfl) (by kernel_rfl) (fun _ _ _ h => h) (by rfl) (by intro w ⟨g1, g2, g3⟩; go_simp; try with_reducible rfl) hHeld ?_
            simp only [Act.put, List.setIfInBounds_toArray, List.set_cons_zero, List.set_cons_succ]
            refine takeZs 18 (some 123) (by kernel_rfl) rfl rfl rfl (by kernel_rfl) (by kernel_rfl) (by kernel_rfl) (by kernel_rfl) (fun _ _ _ h => h) (by rfl) (by intro w ⟨g1, g2, g3⟩; go_simp; try with_reducible rfl) hHeld ?_
            simp only [Act.put, List.setIfInBounds_toArray, List.set_cons_zero, List.set_cons_succ]
            refine takeZs 19 (some 124) (by kernel_rfl) rfl rfl rfl (by kernel_rfl) (by kernel_rfl) (by kernel_rfl) (by kernel_rfl) (fun _ _ _ h => h) (by rfl) (by intro w ⟨g1, g2, g3⟩; go_simp; try with_reducible rfl) hHeld ?_
            simp only [Act.put, List.setIfInBounds_toArray, List.set_cons_zero, List.set_cons_succ]
            refine takeZs 20 (some 125) (by kernel_rfl) rfl rfl rfl (by kernel_rfl) (by kernel_rfl) (by kernel_rfl) (by kernel_rfl) (fun _ _ _ h => h) (by rfl) (by intro w ⟨g1, g2, g3⟩; go_simp; try with_reducible rfl) hHeld ?_
            simp only [Act.put, List.setIfInBounds_toArray, List.set_cons_zero, List.set_cons_succ]
            refine takeZs 21 (some 126) (by kernel_rfl) rfl rfl rfl (by kernel_rfl) (by kernel_rfl) (by kernel_rfl) (by kernel_rfl) (fun _ _ _ h => h) (by rfl) (by intro w ⟨g1, g2, g3⟩; go_simp; try with_reducible rfl) hHeld ?_
            simp only [Act.put, List.setIfInBounds_toArray, List.set_cons_zero, List.set_cons_succ]
            refine takeZs 22 (some 127) (by kernel_rfl) rfl rfl rfl (by kernel_rfl) (by kernel_rfl) (by kernel_rfl) (by kernel_rfl) (fun _ _ _ h => h) (by rfl) (by intro w ⟨g1, g2, g3⟩; go_simp; try with_reducible rfl) hHeld ?_
            simp only [Act.put, List.setIfInBounds_toArray, List.set_cons_zero, List.set_cons_succ]
            refine takeZs 23 (some 128) (by kernel_rfl) rfl rfl rfl (by kernel_rfl) (by kernel_rfl) (by kernel_rfl) (by kernel_rfl) (fun _ _ _ h => h) (by rfl) (by intro w ⟨g1, g2, g3⟩; go_simp; try with_reducible rfl) hHeld ?_
            simp only [Act.put, List.setIfInBounds_toArray, List.set_cons_zero, List.set_cons_succ]
            refine takeZs 24 (some 129) (by kernel_rfl) rfl rfl rfl (by kernel_rfl) (by kernel_rfl) (by kernel_rfl) (by kernel_rfl) (fun _ _ _ h => h) (by rfl) (by intro w ⟨g1, g2, g3⟩; go_simp; try with_reducible rfl) hHeld ?_
            simp only [Act.put, List.setIfInBounds_toArray, List.set_cons_zero, List.set_cons_succ]
            first | rw [hsub] | skip
            refine takeZs 25 (some 130) (by kernel_rfl) rfl rfl rfl (by kernel_rfl) (by kernel_rfl) (by kernel_rfl) (by kernel_rfl) (fun _ _ _ h => h) (by rfl) (by intro w ⟨g1, g2, g3⟩; go_simp; try with_reducible rfl) hHeld ?_
            simp only [Act.put, List.setIfInBounds_toArray, List.set_cons_zero, List.set_cons_succ]
            refine takeZs 26 (some 131) (by kernel_rfl) rfl rfl rfl (by kernel_rfl) (by kernel_rfl) (by kernel_rfl) (by kernel_rfl) (fun _ _ _ h => h) (by rfl) (by intro w ⟨g1, g2, g3⟩; go_simp; try with_reducible rfl) hHeld ?_
            simp only [Act.put, List.setIfInBounds_toArray, List.set_cons_zero, List.set_cons_succ]
            refine oneZs 27 rfl (by kernel_rfl) (fun K hK => ?_)
            go_simp
            go_at_call 43
            refine HCT.out.mono ?_
            rintro e wz ⟨rfl, hwz⟩
            rw [hwz]
            clear hwz wz
            refine hK.out _ _ (.inr hHeld) ?_
            clear hK K
            try simp only [Act.put, List.setIfInBounds_toArray, List.set_cons_zero, List.set_cons_succ]
            refine takeZs 28 (some 133) (by kernel_rfl) rfl rfl rfl (by kernel_rfl) (by kernel_rfl) (by kernel_rfl) (by kernel_rfl) (fun _ _ _ h => h) (by rfl) (by intro w ⟨g1, g2, g3⟩; go_simp; try with_reducible rfl) hHeld ?_
            simp only [Act.put, List.setIfInBounds_toArray, List.set_cons_zero, List.set_cons_succ]
            refine takeZs 29 (some 134) (by kernel_rfl) rfl rfl rfl (by kernel_rfl) (by kernel_rfl) (by kernel_rfl) (by kernel_rfl) (fun _ _ _ h => h) (by rfl) (by intro w ⟨g1, g2, g3⟩; go_simp; try with_reducible rfl) hHeld ?_
            simp only [Act.put, List.setIfInBounds_toArray, List.set_cons_zero, List.set_cons_succ]
            refine takeZs 30 (some 135) (by kernel_rfl) rfl rfl rfl (by kernel_rfl) (by kernel_rfl) (by kernel_rfl) (by kernel_rfl) (fun _ _ _ h => h) (by rfl) (by intro w ⟨g1, g2, g3⟩; go_simp; try with_reducible rfl) hHeld ?_
            simp only [Act.put, List.setIfInBounds_toArray, List.set_cons_zero, List.set_cons_succ]
            refine doneZs (by kernel_rfl) ?_ _
            clear hHeld
            go_wp2_with (fail)
            go_roundw
            case rel => exact ⟨i + 1, by omega, by go_num, Lib.hid HB2.out.drew, HN2⟩
            case measure => simp only [intOf]; omega
        · obtain rfl : i = nC := by omega
          have HN3 := Lib.hid (show wr.heap[gs]? = some (.cells (snC N (CH.take (ci + 1)).flatten).toArray 4 (0, 0)) by have h := hS.out; rw [← HNC.out, List.take_length, ← dv_next HCC.out] at h; exact h)
          go_wp2_with (fail)
          go_roundw
          case rel => exact ⟨ci + 1, by omega, by go_num, hB, HN3⟩
          case measure => simp only [intOf]; omega
    · obtain rfl : ci = kw := by omega
      have hall : (CH.take ci).flatten = CH.flatten := by rw [List.take_of_length_le]; have h1 := congrArg List.length HZM.out; rw [List.length_map, List.length_map] at h1; rw [← h1, HZK.out]; exact Nat.le_refl _
      have hS2 : wr.heap[gs]? = some (.cells (snC N CH.flatten).toArray 4 (0, 0)) := by rw [← hall]; exact hS.out
      have HCB := Lib.hid (c_ContainsB (some ⟨gs, 0, none⟩) N (snL N CH.flatten) false false ⟨fun h => (by cases h), fun h => absurd h (snL_all HDV.out)⟩ wr (snC_rv hl9 hS2))
      rw [snL_len] at HCB
      have HBW := Lib.hid hB.out
      clear hall hS2 hlt hci hcc
      go_wp2_with (fail)
      go_at_call 46
      refine HCB.out.mono ?_
      rintro e wz ⟨rfl, hwz⟩
      subst hwz
      have H0 := Lib.hid (show wz.ownsRow w5.heap.size 3 1 (.slice none 0 0) (lst 0 st).length (elV (lst 0 st)) from World.ownsRow_nil _ _ _ _)
      go_wp2_with (fail)
      go_loopw [23, 145] (fun v z wr => ∃ i : Nat, i ≤ N ∧ z = .int .i64 (i : Int) ∧ Hid (Below w5.heap.size w5 wr) ∧ Hid (wr.ownsRow w5.heap.size 3 1 v (lst i st).length (elV (lst i st)))) (fun _ z _ => N - (intOf z).toNat)
      case atStart => exact ⟨0, Nat.zero_le _, rfl, HBW, H0⟩
      case round =>
        obtain ⟨i, hi, rfl, hB, ho⟩ := hrel
        have hii : ((i : Nat) : Int).toNat = i := by omega
        obtain ⟨As, cs, rfl⟩ := own_shape ho.out
        by_cases hlt : i < N
        · have hil : (i : Int) < (N : Int) := by omega
          have hbit := has_bit st i hst
          rw [Nat.min_eq_left (by omega)] at hbit
          have hnx := lst_next i st
          have hll := lst_len i st
          rcases hbt : st.testBit i with _ | _
          · rw [hbt] at hbit hnx
            have ho2 : wr.ownsRow w5.heap.size 3 1 (.slice As (lst i st).length cs) (lst (i + 1) st).length (elV (lst (i + 1) st)) := by rw [hnx, if_neg (by decide), List.append_nil]; exact ho.out
            have HO2 := Lib.hid ho2
            obtain ⟨nl, hnl⟩ : ∃ z, (lst i st).length = z := ⟨_, rfl⟩
            rw [hnl] at HO2 ⊢
            clear hnx hbt ho2 hnl hll
            go_wp2_with (fail)
            go_roundw
            case rel => exact ⟨i + 1, by omega, by go_num, hB, HO2⟩
            case measure => simp only [intOf]; omega
          · rw [hbt] at hbit hnx
            have hz4 := hB.out.size
            have HNX := Lib.hid (show lst (i + 1) st = lst i st ++ [i] by rw [hnx, if_pos rfl])
            obtain ⟨nl, hnl⟩ : ∃ z, (lst i st).length = z := ⟨_, rfl⟩
            have HNL := Lib.hid hnl
            rw [hnl] at hll ho ⊢
            clear hnx hbt hnl
            go_wp2_with (at_builtin; refine wpList_append_lies _ rfl _ _ 33 rfl w5.heap.size 3 i1 (.int .i64 0) 1 8 Try.underlying33 hi1 hz1 hz2 hz3 rfl (by decide) (.slice As nl cs) nl _ rfl (ho.out.alloc _) ⟨wr.heap.size, 0, none⟩ 1 1 [.int .i64 (i : Int)] rfl rfl (World.news_of_block (heap_alloc_new _ _)) (by simp [Value.oneCell']) (by decide) (by unfold maxLen; omega) (by omega) (by simp; omega) (wr.heap.size + 1) (by simp) ?_; intro g4 cap4 Z hown hgrow _ _; have HBZ := Lib.hid ((hB.out.alloc hB.out.size _).grown hgrow (by simp; omega) (fun k hk => (ownsRow_lt ho.out hk).1)); have HOZ := Lib.hid hown; clear hown hgrow)
            go_roundw
            case rel => exact ⟨i + 1, by omega, by go_num, HBZ, by rw [HNX.out, List.length_append, HNL.out, elV_snoc]; exact HOZ⟩
            case measure => simp only [intOf]; omega
        · obtain rfl : i = N := by omega
          have hll := lst_len i st
          obtain ⟨l, hl⟩ : ∃ z, lst i st = z := ⟨_, rfl⟩
          have HLL := Lib.hid hl
          rw [hl] at ho hll ⊢
          obtain ⟨nl, hnl⟩ : ∃ z, l.length = z := ⟨_, rfl⟩
          have HNL := Lib.hid hnl
          obtain ⟨A6, c6, e6, hr6⟩ := own_rv (show wr.ownsRow w5.heap.size 3 1 (.slice As l.length cs) (intsN l).length (cellsV 1 inV (intsN l)) by rw [intsN_len, ← elV_ints]; exact ho.out)
          injection e6 with e6 _ e7
          subst e6 e7
          have HR6 := Lib.hid hr6
          rw [hnl] at hll ⊢
          have HAt := Lib.hid (HA5.out.on hB.out (Nat.le_refl _))
          have HQ0 := Lib.hid (show ∀ x ∈ l.take 0, ∀ y ∈ l, (b x).testBit y = false from fun x hx => by simp at hx)
          have HWB := Lib.hid (below_join HB5.out hB.out HB5.out.size)
          clear hl hnl hr6 ho hB
          go_wp2_with (fail)
          obtain ⟨wL, hwL⟩ : ∃ z, z = wr := ⟨_, rfl⟩
          rw [← hwL]
          rw [← hwL] at HR6 HAt HWB
          clear hwL
          go_loopw [160] (fun z wr => ∃ a : Nat, a ≤ nl ∧ z = .int .i64 (a : Int) ∧ wL = wr ∧ Hid (∀ x ∈ l.take a, ∀ y ∈ l, (b x).testBit y = false)) (fun z _ => nl - (intOf z).toNat)
          case atStart => exact ⟨0, Nat.zero_le _, rfl, rfl, HQ0⟩
          case round =>
            clear HQ0
            obtain ⟨a, ha, rfl, rfl, hQ⟩ := hrel
            have haa : ((a : Nat) : Int).toNat = a := by omega
            by_cases hlt3 : a < nl
            · have hal2 : (a : Int) < (nl : Int) := by omega
              obtain ⟨x, hx⟩ : ∃ x, l[a]? = some x := ⟨_, List.getElem?_eq_getElem (by rw [HNL.out]; exact hlt3)⟩
              have hx1 : (intsN l)[a]? = some (x : Int) := by unfold intsN; rw [List.getElem?_map, hx]; rfl
              have hxN : x < i := (lst_mem.1 (by rw [HLL.out]; exact List.mem_of_getElem? hx)).1
              have hxi : (x : Int) < (i : Int) := by omega
              have hxx : ((x : Nat) : Int).toNat = x := by omega
              obtain ⟨qb, qo, hqe, -, -⟩ := HR6.out.at_ hx1
              subst hqe
              have x0 := inV_at HR6.out hx1
              obtain ⟨ax, hax⟩ : ∃ y, al[x]? = some y := ⟨_, List.getElem?_eq_getElem (by rw [HAL.out]; exact hxN)⟩
              have hall : ax.l = intsN (lst 12 (b x)) := by
                have h1 := congrArg (fun L => L[x]?) HAM.out
                simp only [setsL, List.getElem?_map, hax, List.getElem?_range hxN, Option.map_some] at h1
                injection h1
              obtain ⟨ab, ao, hae, -, -⟩ := HAt.out.1.at_ hax
              subst hae
              have x2 := ls_at HAt.out.1 hax
              have hRa := HAt.out.2 ax (List.mem_of_getElem? hax)
              have HIN := Lib.hid (show ∀ y : Nat, y < i → ((b x).testBit y = true ↔ (y : Int) ∈ ax.l) from fun y hy => by
                rw [hall]; unfold intsN
                constructor
                · intro h; exact List.mem_map.2 ⟨y, lst_mem.2 ⟨by omega, h⟩, rfl⟩
                · intro h
                  obtain ⟨z, hz, e⟩ := List.mem_map.1 h
                  obtain rfl : z = y := by omega
                  exact (lst_mem.1 hz).2)
              obtain ⟨aA, ac, al0⟩ := ax
              simp only at x2 hRa HIN
              have HCT := Lib.hid (fun (y : Nat) (hy : y < i) (r : Bool) (hr : (b x).testBit y = r) => c_Contains aA ac al0 (y : Int) r (by rw [← hr]; exact HIN.out y hy) wL hRa)
              have HX := Lib.hid hx
              have HP0 := Lib.hid (show ∀ y ∈ l.take 0, (b x).testBit y = false from fun y hy => by simp at hy)
              clear hx hx1 hax hall hRa
              go_wp2_with (fail)
              go_loopw [166] (fun z wr => ∃ c : Nat, c ≤ nl ∧ z = .int .i64 (c : Int) ∧ wL = wr ∧ Hid (∀ y ∈ l.take c, (b x).testBit y = false)) (fun z _ => nl - (intOf z).toNat)
              case atStart => exact ⟨0, Nat.zero_le _, rfl, rfl, HP0⟩
              case round =>
                clear HP0
                obtain ⟨c, hc, rfl, rfl, hP⟩ := hrel
                have hcc2 : ((c : Nat) : Int).toNat = c := by omega
                by_cases hlt4 : c < nl
                · have hcl2 : (c : Int) < (nl : Int) := by omega
                  obtain ⟨y, hy⟩ : ∃ y, l[c]? = some y := ⟨_, List.getElem?_eq_getElem (by rw [HNL.out]; exact hlt4)⟩
                  have hy1 : (intsN l)[c]? = some (y : Int) := by unfold intsN; rw [List.getElem?_map, hy]; rfl
                  have hyN : y < i := (lst_mem.1 (by rw [HLL.out]; exact List.mem_of_getElem? hy)).1
                  have x3 := inV_at HR6.out hy1
                  obtain ⟨r, hr⟩ : ∃ r, (b x).testBit y = r := ⟨_, rfl⟩
                  have HC9 := Lib.hid (HCT.out y hyN r hr)
                  have HYY := Lib.hid hy
                  have HRR := Lib.hid hr
                  clear hy hy1 hr
                  go_wp2_with (fail)
                  go_at_call 43
                  refine HC9.out.mono ?_
                  rintro e wz2 ⟨rfl, hwz⟩
                  rw [hwz]
                  clear hwz wz2
                  cases r
                  · have HP2 := Lib.hid (show ∀ z ∈ l.take (c + 1), (b x).testBit z = false from fun z hz => by
                      rw [take_snoc HYY.out, List.mem_append, List.mem_singleton] at hz
                      rcases hz with hz | hz
                      · exact hP.out z hz
                      · rw [hz]; exact HRR.out)
                    go_wp2_with (fail)
                    go_roundw
                    case rel => exact ⟨c + 1, by omega, by go_num, trivial, HP2⟩
                    case measure => simp only [intOf]; omega
                  · go_wp2_with (fail)
                    go_at_call 20
                    refine (c_works wL).mono ?_
                    rintro e w8 ⟨rfl, b8⟩
                    have HB8 := Lib.hid (below_join HWB.out b8 HWB.out.size)
                    clear b8
                    go_wp2_with (fail)
                    go_ret
                    exact ⟨rfl, HB8.out⟩
                · obtain rfl : c = nl := by omega
                  have HQ2 := Lib.hid (show ∀ x ∈ l.take (a + 1), ∀ y ∈ l, (b x).testBit y = false from fun z hz y hy => by
                    rw [take_snoc HX.out, List.mem_append, List.mem_singleton] at hz
                    rcases hz with hz | hz
                    · exact hQ.out z hz y hy
                    · rw [hz]; exact hP.out y (by rw [← HNL.out, List.take_length]; exact hy))
                  go_wp2_with (fail)
                  go_roundw
                  case rel => exact ⟨a + 1, by omega, by go_num, trivial, HQ2⟩
                  case measure => simp only [intOf]; omega
            · obtain rfl : a = nl := by omega
              have hle : a ≤ ci := by
                have h1 := hQ.out
                rw [← HNL.out, List.take_length, ← HLL.out] at h1
                have h2 := HKW.out.2 st (anti_of HPO.out h1)
                rw [HLL.out, HNL.out] at h2; exact h2
              have hle2 : (a : Int) ≤ (ci : Int) := by omega
              go_wp2_with (fail)
              go_at_call 20
              refine (c_works wL).mono ?_
              rintro e w8 ⟨rfl, b8⟩
              have HB8 := Lib.hid (below_join HWB.out b8 HWB.out.size)
              clear b8
              go_wp2_with (fail)
              go_ret
              exact ⟨rfl, HB8.out⟩
end Go.Proofs.Ytjheaeeeeggncaa
