/-
  DERIVED. Several texts in one.
-/
import Derived.Test.YtjheaeeeeggncaaPB5
import Derived.Test.YtjheaeeeeggncaaPB1
import Derived.Test.YtjheaeeeeggncaaPB3
import Derived.Lib.SliceRun
import Derived.Test.YtjheaeeeeggncaaPB2
import Derived.Lib.Tables
import Derived.Test.YtjheaeeeeggncaaPB4
set_option linter.unusedVariables false
set_option linter.unusedSimpArgs false

namespace Go.Proofs.Ytjheaeeeeggncaa
open Go.RowKit Go.Shelf
attribute [local go_sem] Oper.semAt_some
set_option maxRecDepth 100000
set_option linter.unusedVariables false
set_option linter.unusedSimpArgs false

theorem Po.lt2 {n : Nat} {f : Nat → Nat} (hp : Po n f) : ∀ j, j < n → f j < 2 ^ n := fun j hj => Nat.lt_pow_two_of_testBit _ fun k hk => by
  cases e : (f j).testBit k
  · rfl
  · have := hp.lt j k hj e; omega
/-- The numbers of the row next. -/
def nxL (n : Nat) (nx : Nat → Int) : List Int := (List.range n).map nx
theorem nxL_len (n : Nat) (nx : Nat → Int) : (nxL n nx).length = n := by simp [nxL]
theorem nx_rv {W : World} {r n : Nat} {nx : Nat → Int} (h : W.heap[r]? = some (.cells (nxC n nx).toArray 3 (0, 0))) (hn : n ≤ 12) : Rv 1 inV W (some ⟨r, 0, none⟩) n (nxL n nx) := by
  refine ⟨by rw [nxL_len]; exact Nat.le_refl _, by unfold maxLen; omega, (by intro h; cases h), fun _ => ⟨r, 0, rfl, at_lt h, fun j x hj i hi => ?_⟩⟩
  obtain rfl : i = 0 := by omega
  have hj' : j < n := by have := (List.getElem?_eq_some_iff.1 hj).1; rwa [nxL_len] at this
  have hx : nx j = x := by simp [nxL, hj'] at hj; exact hj
  rw [show 0 + j * 1 + 0 = j by omega, ← hx]
  exact cell_of h (by rw [List.getElem?_toArray]; exact nxC_at nx hj')
theorem nx_in {n : Nat} {nx : Nat → Int} {i : Nat} : isNx n nx i = true ↔ (i : Int) ∈ nxL n nx := by
  rw [isNx_iff]
  unfold nxL
  rw [List.mem_map]
  exact ⟨fun ⟨f, h1, h2⟩ => ⟨f, List.mem_range.2 h1, h2⟩, fun ⟨f, h1, h2⟩ => ⟨f, List.mem_range.1 h1, h2⟩⟩
/-- The chains of the first elements. -/
def chsP (n : Nat) (nx : Nat → Int) (p : Nat) : List (List Int) := ((List.range p).filter fun i => !isNx n nx i).map fun i => intsN (chN n nx i)
theorem chsP_in {n p : Nat} {nx : Nat → Int} (h : isNx n nx p = true) : chsP n nx (p + 1) = chsP n nx p := by
  unfold chsP
  rw [List.range_succ, List.filter_append]
  simp [h]
theorem chsP_new {n p : Nat} {nx : Nat → Int} (h : isNx n nx p = false) : chsP n nx (p + 1) = chsP n nx p ++ [intsN (chN n nx p)] := by
  unfold chsP
  rw [List.range_succ, List.filter_append]
  simp [h]
/-- What is left of a chain. -/
def remL (n : Nat) (nx : Nat → Int) (x : Int) : List Nat := if x = -1 then [] else chN n nx x.toNat
theorem remL_at {n j : Nat} {b : Nat → Nat} {nx : Nat → Int} (hp : Po n b) (hm : Mt n b nx) (hj : j < n) : remL n nx (j : Int) = j :: remL n nx (nx j) := by
  unfold remL
  rw [if_neg (by omega), Int.toNat_natCast]
  exact chN_eq hp hm hj
set_option maxHeartbeats 16000000 in
theorem c_chains (g n : Nat) (f : Nat → Nat) (hn : n ≤ 12) (hp : Po n f) (w : World) (h : Blk w g n f) :
    Calls Try.prog 68 #[.slice (some ⟨g, 0, none⟩) n n] w fun e w' => ∃ v ys, e = .returned v ∧ OutL w.heap.size w' v ys ∧ ys.map (·.l) = chsP n (joinB n f n) n ∧ Below w.heap.size w w' := by
  have hm := (wide_join hp).1
  have HC := Lib.hid (c_joined g n f hn hp.lt2 w h)
  unfold JdTo at HC
  obtain ⟨nx, hnx⟩ : ∃ nx, joinB n f n = nx := ⟨_, rfl⟩
  rw [hnx] at hm HC ⊢
  clear hnx h
  have HP := Lib.hid hp
  have HM := Lib.hid hm
  obtain ⟨i1, hi1, hz1, hz2, hz3⟩ := info_parts li_info
  obtain ⟨i2, hi2, hy1, hy2, hy3⟩ := info_parts int_info
  clear hp hm
  go_enter Try.func68, Try.ntmps68
  go_wp2_with (fail)
  go_at_call 83
  refine HC.out.mono ?_
  rintro e w1 ⟨r, rfl, hr, hrl, b1⟩
  have HB1 := Lib.hid b1
  have HR1 := Lib.hid hr
  have hr1 := at_lt hr
  clear b1 hr
  go_wp2_with (fail)
  go_loopw [4, 12] (fun v i wr => ∃ (p : Nat) (ys : List LsV), p ≤ n ∧ i = .int .i64 (p : Int) ∧ Hid (Below w1.heap.size w1 wr) ∧ ys.length ≤ p ∧ Hid (OutL w1.heap.size wr v ys) ∧ Hid (ys.map (·.l) = chsP n nx p)) (fun _ i _ => n - (intOf i).toNat)
  case atStart => exact ⟨0, [], Nat.zero_le _, rfl, Lib.hid (Below.refl _ _), Nat.le_refl _, Lib.hid ⟨World.ownsRow_nil _ _ _ _, fun y hy => by cases hy⟩, Lib.hid rfl⟩
  case round =>
    obtain ⟨p, ys, hpn, rfl, hB, hyl, hO, hQ⟩ := hrel
    rename World => wo
    have hpi : ((p : Nat) : Int).toNat = p := by omega
    obtain ⟨As, cs, rfl⟩ := own_shape hO.out.1
    by_cases hlt : p < n
    · have hpl : (p : Int) < (n : Int) := by omega
      have HRW := Lib.hid ((hB.out.block _ hr1).trans HR1.out)
      obtain ⟨bb, hbb⟩ : ∃ bb, isNx n nx p = bb := ⟨_, rfl⟩
      have HBB := Lib.hid hbb
      have HCT := Lib.hid (c_Contains (some ⟨r, 0, none⟩) n (nxL n nx) (p : Int) bb (by rw [← hbb]; exact nx_in) wo (nx_rv HRW.out hn))
      rw [nxL_len] at HCT
      clear hbb
      go_wp2_with (fail)
      go_at_call 43
      refine HCT.out.mono ?_
      rintro e wa ⟨rfl, hwa⟩
      rw [hwa]
      clear hwa wa
      cases bb
      · go_wp2_with (fail)
        have HCL := Lib.hid (show (chN n nx p).length ≤ n from chF_len HP.out HM.out hlt)
        go_loopw [6, 7] (fun v c wr => ∃ (q : List Nat) (cu : Int), c = .int .i64 cu ∧ (cu = -1 ∨ ∃ j : Nat, j < n ∧ cu = ((j : Nat) : Int)) ∧ Hid (chN n nx p = q ++ remL n nx cu) ∧ Hid (Below wo.heap.size wo wr) ∧ Hid (wr.ownsRow wo.heap.size 3 1 v q.length (elV q))) (fun _ c _ => (remL n nx (intOf c)).length)
        case atStart => exact ⟨[], (p : Int), rfl, .inr ⟨p, hlt, rfl⟩, Lib.hid (by unfold remL; rw [if_neg (by omega), Int.toNat_natCast]; rfl), Lib.hid (Below.refl _ _), Lib.hid (World.ownsRow_nil _ _ _ _)⟩
        case round =>
          obtain ⟨q, cu, rfl, hcu, hch, hB5, hO5⟩ := hrel
          obtain ⟨A5, c5, rfl⟩ := own_shape hO5.out
          have hq12 : q.length ≤ 12 := by
            have h1 := HCL.out
            rw [hch.out, List.length_append] at h1
            omega
          rcases hcu with rfl | ⟨j, hj, rfl⟩
          · have HQE := Lib.hid (show chN n nx p = q by rw [hch.out]; simp [remL])
            have HQ2 := Lib.hid (show (ys.map (·.l)) ++ [intsN q] = chsP n nx (p + 1) by rw [hQ.out, chsP_new HBB.out, HQE.out])
            have hs1 := hB.out.size
            have K3 := Lib.hid (below_join hB.out hB5.out hB.out.size)
            have O3 := Lib.hid (hO.out.on hB5.out (Nat.le_refl _))
            have Y3 := Lib.hid (show wr.ownsRow w1.heap.size 3 1 (.slice A5 (intsN q).length c5) (intsN q).length (cellsV 1 inV (intsN q)) by
              rw [intsN_len, ← elV_ints]; exact own_mono hO5.out hs1)
            obtain ⟨l', hl'⟩ : ∃ l', intsN q = l' := ⟨_, rfl⟩
            have hll : q.length = l'.length := by rw [← hl', intsN_len]
            rw [hll]
            rw [hl'] at Y3 HQ2
            clear hl' hll hq12
            go_wp2_with (at_builtin; refine wpList_append_lies _ rfl _ _ 22 rfl w1.heap.size 33 i1 (.slice none 0 0) 1 24 Try.underlying22 hi1 hz1 hz2 hz3 rfl (by decide) (.slice As ys.length cs) ys.length _ rfl (O3.out.1.alloc _) ⟨wr.heap.size, 0, none⟩ 1 1 [.slice A5 l'.length c5] rfl rfl (World.news_of_block (heap_alloc_new _ _)) (by simp [Value.oneCell']) (by decide) (by unfold maxLen; omega) (by omega) (by have := K3.out.size; simp; omega) (wr.heap.size + 1) (by simp) ?_; intro g4 cap4 Z hown hgrow _ _; have HBZ := Lib.hid ((K3.out.alloc K3.out.size _).grown hgrow (by have := K3.out.size; simp; omega) (fun k hk => (ownsRow_lt O3.out.1 hk).1)); have HOZ := Lib.hid (O3.out.push ⟨A5, c5, l'⟩ Y3.out hown hgrow); clear hown hgrow)
            go_roundw
            case rel => exact ⟨p + 1, ys ++ [⟨A5, c5, l'⟩], by omega, by go_num, HBZ, by rw [List.length_append]; exact Nat.succ_le_succ hyl, Lib.hid (by simpa using HOZ.out), Lib.hid (by rw [List.map_append]; exact HQ2.out)⟩
            case measure => simp only [intOf]; omega
          · have hne : ((j : Int) != -1) = true := by simp
            have hd0 : ((j : Int) == -1) = false := by rw [beq_eq_false_iff_ne]; omega
            have hjl : (j : Int) < (n : Int) := by omega
            have HRA := Lib.hid (remL_at HP.out HM.out hj)
            have HNX := Lib.hid (show chN n nx p = (q ++ [j]) ++ remL n nx (nx j) by rw [hch.out, HRA.out]; simp)
            have HOK := Lib.hid (show nx j = -1 ∨ ∃ k : Nat, k < n ∧ nx j = ((k : Nat) : Int) from by
              rcases HM.out.ok j hj with h | ⟨k, h1, h2, -⟩
              · exact .inl h
              · exact .inr ⟨k, h1, h2⟩)
            go_wp2_with (at_builtin; refine wpList_append_lies _ rfl _ _ 33 rfl wo.heap.size 3 i2 (.int .i64 0) 1 8 Try.underlying33 hi2 hy1 hy2 hy3 rfl (by decide) (.slice A5 q.length c5) q.length _ rfl (hO5.out.alloc _) ⟨wr.heap.size, 0, none⟩ 1 1 [.int .i64 (j : Int)] rfl rfl (World.news_of_block (heap_alloc_new _ _)) (by simp [Value.oneCell']) (by decide) (by unfold maxLen; omega) (by omega) (by have := hB5.out.size; simp; omega) (wr.heap.size + 1) (by simp) ?_; intro g4 cap4 Z hown hgrow _ _; have HBZ := Lib.hid ((hB5.out.alloc hB5.out.size _).grown hgrow (by have := hB5.out.size; simp; omega) (fun k hk => (ownsRow_lt hO5.out hk).1)); have HOZ := Lib.hid hown; clear hown hgrow; have yr := cell_of ((HBZ.out.block _ (at_lt HRW.out)).trans HRW.out) (show (nxC n nx).toArray[j]? = some (.int .i64 (nx j)) by rw [List.getElem?_toArray]; exact nxC_at nx hj))
            go_roundw
            case rel => exact ⟨q ++ [j], nx j, rfl, HOK.out, HNX, HBZ, Lib.hid (by rw [List.length_append, elV_snoc]; exact HOZ.out)⟩
            case measure => simp only [intOf]; rw [HRA.out, List.length_cons]; omega
      · have HQ2 := Lib.hid (show ys.map (·.l) = chsP n nx (p + 1) by rw [hQ.out, chsP_in HBB.out])
        go_wp2_with (fail)
        go_roundw
        case rel => exact ⟨p + 1, ys, by omega, by go_num, hB, by omega, hO, HQ2⟩
        case measure => simp only [intOf]; omega
    · obtain rfl : p = n := by omega
      go_wp2_with (fail)
      go_ret
      have h1 := HB1.out.size
      exact ⟨_, ys, rfl, ⟨own_mono hO.out.1 h1, fun y hy => own_mono (hO.out.2 y hy) h1⟩, hQ.out, below_join HB1.out hB.out h1⟩
set_option maxHeartbeats 8000000 in
theorem c_Chains (A : Option Addr) (c : Nat) (xs : List LsV) (w : World) (h : LsAt w A c xs) : Calls Try.prog 39 #[.slice A xs.length c] w (LsTo w (rdN xs) (chsP xs.length (joinB xs.length (ordF xs) xs.length) xs.length)) := by
  have H := Lib.hid h
  obtain ⟨R, hR⟩ : ∃ R, R = LsTo w (rdN xs) (chsP xs.length (joinB xs.length (ordF xs) xs.length) xs.length) := ⟨_, rfl⟩
  rw [← hR]
  have HRR := Lib.hid hR
  clear hR h
  go_enter Try.func39, Try.ntmps39
  go_wp2_with (fail)
  go_at_call 48
  refine (c_read A c xs w H.out).mono ?_
  rintro e w1 ⟨⟨h0, rfl⟩ | ⟨h0, hl, hok, hno, g, rfl, hg, hblk⟩, b1⟩
  · have H0 := Lib.hid h0
    have K1 := Lib.hid b1
    have hne : (rdN xs != 0) = true := by simpa using h0
    have hd0 : (rdN xs == 0) = false := by simpa using h0
    clear h0 b1
    go_wp2_with (fail)
    rw [HRR.out]
    exact ⟨.inl ⟨H0.out, rfl⟩, K1.out⟩
  · have H0 := Lib.hid h0
    have K1 := Lib.hid b1
    have HC := Lib.hid (c_chains g xs.length (ordF xs) hl (ord_po hok hno) w1 hblk)
    clear h0 b1 hblk
    go_wp2_with (fail)
    go_at_call 68
    refine HC.out.mono ?_
    rintro e w2 ⟨v, ys, rfl, ho, hm, b2⟩
    have K2 := Lib.hid (below_join K1.out b2 K1.out.size)
    have HO := Lib.hid ho
    have HM := Lib.hid hm
    have hs1 := K1.out.size
    clear b2 ho hm
    go_wp2_with (fail)
    rw [HRR.out, H0.out]
    exact ⟨.inr ⟨rfl, _, ys, rfl, ⟨own_mono HO.out.1 hs1, fun y hy => own_mono (HO.out.2 y hy) hs1⟩, HM.out⟩, K2.out⟩
end Go.Proofs.Ytjheaeeeeggncaa

namespace Go.Proofs.Ytjheaeeeeggncaa
open Go.RowKit Go.Shelf
attribute [local go_sem] Oper.semAt_some
set_option maxRecDepth 100000
set_option linter.unusedVariables false
set_option linter.unusedSimpArgs false

/-- Lists alone. -/
abbrev SameL (xs ys : List LsV) : Prop := xs.map (·.l) = ys.map (·.l)
section
variable {xs ys : List LsV}
theorem SameL.len (h : SameL xs ys) : xs.length = ys.length := by have := congrArg List.length h; simpa using this
theorem SameL.at_ (h : SameL xs ys) (j : Nat) : (xs[j]?).map (·.l) = (ys[j]?).map (·.l) := by
  have := congrArg (·[j]?) h
  simpa using this
theorem SameL.lAt (h : SameL xs ys) (j : Nat) : lAt xs j = lAt ys j := by
  have := h.at_ j
  unfold Go.Proofs.Ytjheaeeeeggncaa.lAt
  cases hx : xs[j]? <;> cases hy : ys[j]? <;> rw [hx, hy] at this <;> simp at this ⊢
  exact this
theorem SameL.dirA (h : SameL xs ys) : dirA xs = dirA ys := funext fun j => by unfold Go.Proofs.Ytjheaeeeeggncaa.dirA; rw [h.lAt]
theorem SameL.ordF (h : SameL xs ys) : ordF xs = ordF ys := by unfold Go.Proofs.Ytjheaeeeeggncaa.ordF; rw [h.dirA, h.len]
theorem SameL.loop (h : SameL xs ys) : Loop xs ↔ Loop ys := by unfold Loop; rw [h.ordF, h.len]
theorem SameL.nm (h : SameL xs ys) : NmOk xs ↔ NmOk ys := by
  have key : ∀ {xs ys : List LsV}, SameL xs ys → NmOk xs → NmOk ys := fun {xs ys} h hn o y hy i hi => by
    have h1 := h.at_ o
    rw [hy] at h1
    cases hx : xs[o]? with
    | none => rw [hx] at h1; simp at h1
    | some x =>
      rw [hx] at h1
      simp at h1
      have := hn o x hx i (by rw [h1]; exact hi)
      rwa [h.len] at this
  exact ⟨key h, key h.symm⟩
theorem SameL.dis (h : SameL xs ys) : xs.any (fun x => disB x.l) = ys.any fun x => disB x.l := by
  have : ∀ l : List LsV, l.any (fun x => disB x.l) = (l.map (·.l)).any disB := fun l => by rw [List.any_map]; rfl
  rw [this, this]; exact congrArg (·.any disB) h
theorem SameL.rd (h : SameL xs ys) : rdN xs = rdN ys := by
  unfold rdN
  rw [h.len, h.dis]
  by_cases h1 : NmOk ys
  · by_cases h2 : Loop ys
    · simp [h.nm, h.loop, h1, h2]
    · simp [h.nm, h.loop, h1, h2]
  · simp [h.nm, h1]
end
/-- The sample, as lists alone. -/
def smpX : List LsV := [⟨none, 0, []⟩, ⟨none, 0, []⟩, ⟨none, 0, [0, 1]⟩, ⟨none, 0, [1, 2]⟩]
theorem smp_nm : NmOk smpX := fun o x hx i hi => by
  match o, hx with
  | 0, hx => simp [smpX] at hx; subst hx; cases hi
  | 1, hx => simp [smpX] at hx; subst hx; cases hi
  | 2, hx => simp [smpX] at hx; subst hx; simp at hi; rcases hi with rfl | rfl <;> decide
  | 3, hx => simp [smpX] at hx; subst hx; simp at hi; rcases hi with rfl | rfl <;> decide
theorem smp_ord : ∀ j, j < 4 → ordF smpX j = [0, 0, 3, 7].getD j 0 := by decide +kernel
theorem smp_loop : ¬ Loop smpX := by
  rintro ⟨i, hi, h⟩
  have hi : i < 4 := hi
  rw [smp_ord i hi] at h
  match i, hi with
  | 0, _ => simp at h
  | 1, _ => simp at h
  | 2, _ => revert h; decide
  | 3, _ => revert h; decide
theorem smp_rd : rdN smpX = 0 := by
  unfold rdN
  rw [if_neg (by decide +kernel), if_neg (fun h => h smp_nm), if_neg smp_loop]
theorem smp_sets : setsL (ordF smpX) 4 = [[], [], [0, 1], [0, 1, 2]] := by decide +kernel
theorem smp_chains : (chsP 4 (joinB 4 (ordF smpX) 4) 4).length = 2 := by decide +kernel
theorem smp_wys : wys 4 (ordF smpX) 0 = 2 := by decide +kernel
theorem smp_nth : nthL 4 (ordF smpX) 4 0 1 = [1, 0, 2, 3] := by decide +kernel
theorem smp_rank : rkL 4 (ordF smpX) [1, 0, 2, 3] 0 0 = some 1 := by decide +kernel
end Go.Proofs.Ytjheaeeeeggncaa

namespace Go.Proofs.Ytjheaeeeeggncaa
open Go.RowKit Go.Shelf
attribute [local go_sem] Oper.semAt_some
set_option maxRecDepth 100000
set_option linter.unusedVariables false
set_option linter.unusedSimpArgs false

theorem smp_ideals : idL (ordF smpX) 16 = [0, 1, 2, 3, 7, 15] := by decide +kernel
theorem smp_enabled : enL 4 (ordF smpX) 2 = [0] := by decide +kernel
theorem smp_reduced : setsL (dirS (ordF smpX)) 4 = [[], [], [0, 1], [2]] := by decide +kernel
theorem smp_is : idB (ordF smpX) 7 = true := by decide +kernel
theorem smp_is2 : idB (ordF smpX) 2 = true := by decide +kernel
theorem smp_wyI : wyI 4 (ordF smpX) 0 = 2 := by decide +kernel
theorem smp_po : Po 4 (ordF smpX) := ord_po smp_nm smp_loop
theorem smp_wide : Wide 4 (ordF smpX) 2 := by
  have h := wide_idL (by decide : 4 ≤ 12) smp_po
  rwa [show wideL 4 (ordF smpX) (idL (ordF smpX) (2 ^ 4)) = 2 by decide +kernel] at h
theorem smp_high : High 4 (ordF smpX) 3 := high_of smp_po (fun i hi => by
    match i, hi with
    | 0, _ => decide +kernel
    | 1, _ => decide +kernel
    | 2, _ => decide +kernel
    | 3, _ => decide +kernel) (.inr ⟨3, by decide, by decide +kernel⟩)
theorem smp_ask {x : Int} (h : 0 ≤ x ∧ x < 16) : askN smpX x = 0 := by unfold askN; rw [if_neg (by simp [smp_rd]), if_pos (show 0 ≤ x ∧ x < ((2 ^ smpX.length : Nat) : Int) from h)]
theorem smp_isA : isA smpX 7 = true := by unfold isA; rw [if_pos (smp_ask (by decide))]; exact smp_is
theorem smp_enN : enN smpX 2 = 0 := by unfold enN; rw [if_pos (smp_ask (by decide)), show Int.toNat 2 = 2 from rfl, if_pos smp_is2]
theorem smp_ntN : ntN smpX 1 = 0 := nt_in smp_rd (by show (0 : Int) ≤ 1 ∧ (1 : Int) < ((wys 4 (ordF smpX) 0 : Nat) : Int); rw [smp_wys]; decide)
theorem smp_rkN : rkN smpX [1, 0, 2, 3] = 0 := by
  unfold rkN
  rw [if_neg (by simp [smp_rd]), if_pos ⟨rfl, by show (rkL 4 (ordF smpX) [1, 0, 2, 3] 0 0).isSome = true; rw [smp_rank]; rfl⟩]
set_option maxHeartbeats 4000000 in
theorem c_sample (w : World) : Calls Try.prog 47 #[] w fun e w' => ∃ A c xs, e = .returned (.slice A 4 c) ∧ xs.length = 4 ∧ SameL xs smpX ∧ LsAt w' A c xs ∧ Below w.heap.size w w' := by
  go_enter Try.func47, Try.ntmps47
  go_wp2_with (fail)
  go_ret
  obtain ⟨W1, h1⟩ : ∃ W, W = w.alloc (.cells #[.int .i64 0, .int .i64 1] 3) := ⟨_, rfl⟩
  obtain ⟨W2, h2⟩ : ∃ W, W = W1.alloc (.cells #[.int .i64 1, .int .i64 2] 3) := ⟨_, rfl⟩
  obtain ⟨W3, h3⟩ : ∃ W, W = W2.alloc (.cells #[.slice none 0 0, .slice none 0 0, .slice (some ⟨w.heap.size, 0, none⟩) 2 2, .slice (some ⟨w.heap.size + 1, 0, none⟩) 2 2] 33) := ⟨_, rfl⟩
  obtain ⟨hb2, k1, k2, hz2⟩ := two_boxes h1 h2
  have b3 : Below W2.heap.size W2 W3 := by rw [h3]; exact (Below.refl _ _).alloc (Nat.le_refl _) _
  have k3 : W3.heap[w.heap.size + 1 + 1]? = some (.cells #[.slice none 0 0, .slice none 0 0, .slice (some ⟨w.heap.size, 0, none⟩) 2 2, .slice (some ⟨w.heap.size + 1, 0, none⟩) 2 2] 33 (0, 0)) := by rw [← hz2, h3]; exact heap_alloc_new _ _
  have j1 := (b3.block _ (at_lt k1)).trans k1
  have j2 := (b3.block _ (at_lt k2)).trans k2
  rw [← h1, ← h2, ← h3]
  refine ⟨some ⟨w.heap.size + 1 + 1, 0, none⟩, 4, [⟨none, 0, []⟩, ⟨none, 0, []⟩, ⟨some ⟨w.heap.size, 0, none⟩, 2, [0, 1]⟩, ⟨some ⟨w.heap.size + 1, 0, none⟩, 2, [1, 2]⟩], rfl, rfl, rfl, ⟨rv_block (l := [(⟨none, 0, []⟩ : LsV), ⟨none, 0, []⟩, ⟨some ⟨w.heap.size, 0, none⟩, 2, [0, 1]⟩, ⟨some ⟨w.heap.size + 1, 0, none⟩, 2, [1, 2]⟩]) k3 (by unfold maxLen; simp), fun x hx => ?_⟩, hb2.trans (b3.mono (by omega))⟩
  simp only [List.mem_cons, List.not_mem_nil, or_false] at hx
  rcases hx with rfl | rfl | rfl | rfl
  · exact Rv.nil _
  · exact Rv.nil _
  · exact rv_block (l := [(0 : Int), 1]) j1 (by unfold maxLen; simp)
  · exact rv_block (l := [(1 : Int), 2]) j2 (by unfold maxLen; simp)
end Go.Proofs.Ytjheaeeeeggncaa

namespace Go.Proofs.Ytjheaeeeeggncaa
open Go.RowKit Go.Shelf
attribute [local go_sem] Oper.semAt_some
set_option maxRecDepth 100000
set_option linter.unusedVariables false
set_option linter.unusedSimpArgs false

theorem ls_same {w : World} {v : Value} {ys : List LsV} {base : Nat} (h : OutL base w v ys) {L : List (List Int)} (hm : ys.map (·.l) = L) : ∃ A c, v = .slice A L.length c ∧ ys.length = L.length ∧ LsAt w A c ys := by
  obtain ⟨A, c, e, hl⟩ := h.ls
  have hn : ys.length = L.length := by rw [← hm, List.length_map]
  exact ⟨A, c, by rw [e, hn], hn, hl⟩
section
variable {xs ys : List LsV}
theorem SameL.ask (h : SameL xs ys) (x : Int) : askN xs x = askN ys x := by unfold askN; rw [h.rd, h.len]
theorem SameL.is (h : SameL xs ys) (x : Int) : isA xs x = isA ys x := by unfold isA; rw [h.ask, h.ordF]
theorem SameL.en (h : SameL xs ys) (x : Int) : enN xs x = enN ys x := by unfold enN; rw [h.ask, h.ordF]
theorem SameL.nt (h : SameL xs ys) (x : Int) : ntN xs x = ntN ys x := by unfold ntN; rw [h.rd, h.len, h.ordF]
theorem SameL.rk (h : SameL xs ys) (l : List Int) : rkN xs l = rkN ys l := by unfold rkN; rw [h.rd, h.len, h.ordF]
end
/-- Two lists that go in a circle. -/
def badX : List LsV := [⟨none, 0, [1]⟩, ⟨none, 0, [0]⟩]
theorem bad_nm : NmOk badX := fun o x hx i hi => by
  match o, hx with
  | 0, hx => simp [badX] at hx; subst hx; simp at hi; subst hi; decide
  | 1, hx => simp [badX] at hx; subst hx; simp at hi; subst hi; decide
theorem bad_rd : rdN badX = 12 := by
  unfold rdN
  rw [if_neg (by decide +kernel), if_neg (fun h => h bad_nm), if_pos ⟨0, by decide, by decide +kernel⟩]
/-- A literal of lists. -/
theorem ls_lit {X : World} {b : Nat} {ys : List LsV} (h : X.heap[b]? = some (.cells (cellsV 1 lsV ys).toArray 33 (0, 0))) (hl : ys.length ≤ maxLen) (hy : ∀ y ∈ ys, Rv 1 inV X y.A y.c y.l) : LsAt X (some ⟨b, 0, none⟩) ys.length ys := ⟨rv_block h hl, hy⟩
theorem lit4 {W : World} {l m : List Int} {cl cm : Array Value} {nl nm : Nat} (hcl : cl = (cellsV 1 inV l).toArray) (hcm : cm = (cellsV 1 inV m).toArray) (hnl : nl = l.length) (hnm : nm = m.length) (h1 : l.length ≤ 10) (h2 : m.length ≤ 10) :
    LsAt (((W.alloc (.cells cl 3)).alloc (.cells cm 3)).alloc (.cells #[.slice none 0 0, .slice none 0 0, .slice (some ⟨W.heap.size, 0, none⟩) nl nl, .slice (some ⟨W.heap.size + 1, 0, none⟩) nm nm] 33)) (some ⟨W.heap.size + 1 + 1, 0, none⟩) 4 [⟨none, 0, []⟩, ⟨none, 0, []⟩, ⟨some ⟨W.heap.size, 0, none⟩, nl, l⟩, ⟨some ⟨W.heap.size + 1, 0, none⟩, nm, m⟩] ∧
    Below W.heap.size W (((W.alloc (.cells cl 3)).alloc (.cells cm 3)).alloc (.cells #[.slice none 0 0, .slice none 0 0, .slice (some ⟨W.heap.size, 0, none⟩) nl nl, .slice (some ⟨W.heap.size + 1, 0, none⟩) nm nm] 33)) := by
  subst hcl hcm hnl hnm
  obtain ⟨X1, q1⟩ : ∃ X, X = W.alloc (.cells (cellsV 1 inV l).toArray 3) := ⟨_, rfl⟩
  obtain ⟨X2, q2⟩ : ∃ X, X = X1.alloc (.cells (cellsV 1 inV m).toArray 3) := ⟨_, rfl⟩
  obtain ⟨X3, q3⟩ : ∃ X, X = X2.alloc (.cells #[.slice none 0 0, .slice none 0 0, .slice (some ⟨W.heap.size, 0, none⟩) l.length l.length, .slice (some ⟨W.heap.size + 1, 0, none⟩) m.length m.length] 33) := ⟨_, rfl⟩
  rw [← q1, ← q2, ← q3]
  obtain ⟨hb2, k1, k2, hz2⟩ := two_boxes q1 q2
  have b3 : Below X2.heap.size X2 X3 := by rw [q3]; exact (Below.refl _ _).alloc (Nat.le_refl _) _
  have k3 : X3.heap[W.heap.size + 1 + 1]? = some (.cells #[.slice none 0 0, .slice none 0 0, .slice (some ⟨W.heap.size, 0, none⟩) l.length l.length, .slice (some ⟨W.heap.size + 1, 0, none⟩) m.length m.length] 33 (0, 0)) := by rw [← hz2, q3]; exact heap_alloc_new _ _
  refine ⟨ls_lit (ys := [⟨none, 0, []⟩, ⟨none, 0, []⟩, ⟨some ⟨W.heap.size, 0, none⟩, l.length, l⟩, ⟨some ⟨W.heap.size + 1, 0, none⟩, m.length, m⟩]) k3 (by unfold maxLen; simp) (fun y hy => ?_), hb2.trans (b3.mono (by omega))⟩
  simp only [List.mem_cons, List.not_mem_nil, or_false] at hy
  rcases hy with rfl | rfl | rfl | rfl
  · exact Rv.nil _
  · exact Rv.nil _
  · exact rv_block (l := l) ((b3.block _ (at_lt k1)).trans k1) (by unfold maxLen; omega)
  · exact rv_block (l := m) ((b3.block _ (at_lt k2)).trans k2) (by unfold maxLen; omega)
theorem lit1 {W : World} {l : List Int} {cl : Array Value} (hcl : cl = (cellsV 1 inV l).toArray) (h1 : l.length ≤ 10) : Rv 1 inV (W.alloc (.cells cl 3)) (some ⟨W.heap.size, 0, none⟩) l.length l ∧ Below W.heap.size W (W.alloc (.cells cl 3)) := by
  subst hcl
  exact ⟨rv_block (heap_alloc_new _ _) (by unfold maxLen; omega), (Below.refl _ _).alloc (Nat.le_refl _) _⟩
theorem nm_own {w : World} {b : Nat} {v : Value} {L : List Nat} {M : List Int} (h : w.ownsRow b 3 1 v L.length (elV L)) (hM : intsN L = M) : ∃ A c, v = .slice A M.length c ∧ Rv 1 inV w A c M := by
  rw [elV_ints, ← intsN_len L, hM] at h
  exact own_rv h
set_option maxHeartbeats 16000000 in
theorem c_works (w : World) : Calls Try.prog 20 #[] w fun e w' => e = .returned (.bool true) ∧ Below w.heap.size w w' := by
  have HS := Lib.hid (c_sample w)
  have hfm : Try.prog.follows Departure.mixedOrders = true := by kernel_rfl
  go_enter Try.func20, Try.ntmps20
  go_wp2_with (fail)
  go_at_call 47
  refine HS.out.mono ?_
  rintro e w1 ⟨A, c, xs, rfl, hl, hsm, hls, b1⟩
  have HB1 := Lib.hid b1
  have HLS := Lib.hid hls
  have HSM := Lib.hid hsm
  have HLN := Lib.hid hl
  have hrd : rdN xs = 0 := by rw [hsm.rd]; exact smp_rd
  have HRD := Lib.hid hrd
  have HC := Lib.hid (fun (X : World) (hX : LsAt X A c xs) => (show Calls Try.prog 13 #[.slice A 4 c] X (LsTo X 0 [[], [], [0, 1], [0, 1, 2]]) from by
    have h0 := c_Closure A c xs X hX
    rw [hl, hrd, hsm.ordF, smp_sets] at h0; exact h0))
  have HR := Lib.hid (fun (X : World) (hX : LsAt X A c xs) => (show Calls Try.prog 15 #[.slice A 4 c] X (LsTo X 0 [[], [], [0, 1], [2]]) from by
    have h0 := c_Reduce A c xs X hX
    rw [hl, hrd, hsm.ordF, smp_reduced] at h0; exact h0))
  have HI := Lib.hid (fun (X : World) (hX : LsAt X A c xs) => (show Calls Try.prog 23 #[.slice A 4 c] X (NmTo X 0 [0, 1, 2, 3, 7, 15]) from by
    have h0 := c_Ideals A c xs X hX
    rw [hl, hrd, hsm.ordF, show 2 ^ 4 = 16 from rfl, smp_ideals] at h0; exact h0))
  have HE := Lib.hid (fun (X : World) (hX : LsAt X A c xs) => (show Calls Try.prog 26 #[.slice A 4 c, .int .i64 2] X (NmTo X 0 [0]) from by
    have h0 := c_Enabled A c xs 2 X hX
    rw [hl, hsm.en, smp_enN, hsm.ordF, show Int.toNat 2 = 2 from rfl, smp_enabled] at h0; exact h0))
  have HIS := Lib.hid (fun (X : World) (hX : LsAt X A c xs) => (show Calls Try.prog 21 #[.slice A 4 c, .int .i64 7] X (fun e w' => e = .returned (.tuple #[.bool true, .int .i64 0]) ∧ Below X.heap.size X w') from by
    have h0 := c_IsIdeal A c xs 7 X hX
    rw [hl, hsm.is, smp_isA, hsm.ask, smp_ask (by decide)] at h0; exact h0))
  have HCN := Lib.hid (fun (X : World) (hX : LsAt X A c xs) => (show Calls Try.prog 28 #[.slice A 4 c] X (HwTo X 0 (fun k => k = 2)) from by
    have h0 := c_Count A c xs X hX
    rw [hl, hrd, hsm.ordF, smp_wyI] at h0; exact h0))
  have HN := Lib.hid (fun (X : World) (hX : LsAt X A c xs) => (show Calls Try.prog 30 #[.slice A 4 c, .int .i64 1] X (NmTo X 0 [1, 0, 2, 3]) from by
    have h0 := c_Nth A c xs 1 X hX
    rw [hl, hsm.nt, smp_ntN, hsm.ordF, show Int.toNat 1 = 1 from rfl, smp_nth] at h0; exact h0))
  have HRK := Lib.hid (fun (B : Option Addr) (d : Nat) (X : World) (hX : LsAt X A c xs) (h2 : Rv 1 inV X B d [1, 0, 2, 3]) => (show Calls Try.prog 32 #[.slice A 4 c, .slice B 4 d] X (HwTo X 0 (fun k => k = 1)) from by
    have h0 := c_Rank A c xs B d [1, 0, 2, 3] X hX h2
    rw [hl, hsm.rk, smp_rkN, hsm.ordF] at h0
    refine h0.mono fun e w' ⟨h1, h2⟩ => ⟨h1.imp (fun h => h) (fun ⟨a, k, b, d⟩ => ⟨a, k, b, ?_⟩), h2⟩
    have d : rkL 4 (ordF smpX) [1, 0, 2, 3] 0 0 = some k := d
    rw [smp_rank] at d; injection d with d; exact d.symm))
  have HH := Lib.hid (fun (X : World) (hX : LsAt X A c xs) => (show Calls Try.prog 35 #[.slice A 4 c] X (HwTo X 0 (fun k => k = 3)) from by
    have h0 := c_Height A c xs X hX
    rw [hl, hrd, hsm.ordF] at h0
    exact h0.mono fun e w' ⟨h1, h2⟩ => ⟨h1.imp (fun h => h) (fun ⟨a, k, b, d⟩ => ⟨a, k, b, High.uniq d smp_high⟩), h2⟩))
  have HWD := Lib.hid (fun (X : World) (hX : LsAt X A c xs) => (show Calls Try.prog 37 #[.slice A 4 c] X (HwTo X 0 (fun k => k = 2)) from by
    have h0 := c_Width A c xs X hX
    rw [hl, hrd, hsm.ordF] at h0
    exact h0.mono fun e w' ⟨h1, h2⟩ => ⟨h1.imp (fun h => h) (fun ⟨a, k, b, d⟩ => ⟨a, k, b, Wide.uniq d smp_wide⟩), h2⟩))
  have HCH := Lib.hid (fun (X : World) (hX : LsAt X A c xs) => (show Calls Try.prog 39 #[.slice A 4 c] X (LsTo X 0 (chsP 4 (joinB 4 (ordF smpX) 4) 4)) from by
    have h0 := c_Chains A c xs X hX
    rw [hl, hrd, hsm.ordF] at h0; exact h0))
  clear hls hl hsm hrd b1
  go_wp2_with (fail)
  go_at_call 13
  refine (HC.out w1 HLS.out).mono ?_
  rintro e w2 ⟨⟨h, -⟩ | ⟨-, v2, ys2, rfl, ho2, hm2⟩, b2⟩
  · exact absurd rfl h
  obtain ⟨A2, c2, rfl, hy2, hl2⟩ := ls_same ho2 hm2
  have HB2 := Lib.hid (below_join HB1.out b2 HB1.out.size)
  have HL2 := Lib.hid hl2
  have HM2 := Lib.hid hm2
  have HY2 := Lib.hid hy2
  have HLS2 := Lib.hid (HLS.out.on b2 (Nat.le_refl _))
  clear ho2 hm2 hl2 b2 hy2
  simp only [List.length_cons, List.length_nil]
  go_wp2_with (fail)
  go_at_call 15
  refine (HR.out w2 HLS2.out).mono ?_
  rintro e w3 ⟨⟨h, -⟩ | ⟨-, v3, ys3, rfl, ho3, hm3⟩, b3⟩
  · exact absurd rfl h
  obtain ⟨A3, c3, rfl, hy3, hl3⟩ := ls_same ho3 hm3
  have HB3 := Lib.hid (below_join HB2.out b3 HB2.out.size)
  have HL3 := Lib.hid hl3
  have HM3 := Lib.hid hm3
  have HY3 := Lib.hid hy3
  have HLS3 := Lib.hid (HLS2.out.on b3 (Nat.le_refl _))
  have HL23 := Lib.hid (HL2.out.on b3 (Nat.le_refl _))
  clear ho3 hm3 hl3 b3 hy3
  simp only [List.length_cons, List.length_nil]
  go_wp2_with (fail)
  obtain ⟨X1, q1⟩ : ∃ X, X = w3.alloc (.cells #[.int .i64 1] 3) := ⟨_, rfl⟩
  obtain ⟨X2, q2⟩ : ∃ X, X = X1.alloc (.cells #[.int .i64 0] 3) := ⟨_, rfl⟩
  obtain ⟨X3, q3⟩ : ∃ X, X = X2.alloc (.cells #[.slice (some ⟨w3.heap.size, 0, none⟩) 1 1, .slice (some ⟨w3.heap.size + 1, 0, none⟩) 1 1] 33) := ⟨_, rfl⟩
  rw [← q1, ← q2, ← q3]
  obtain ⟨hb2, k1, k2, hz2⟩ := two_boxes q1 q2
  have b3 : Below X2.heap.size X2 X3 := by rw [q3]; exact (Below.refl _ _).alloc (Nat.le_refl _) _
  have k3 : X3.heap[w3.heap.size + 1 + 1]? = some (.cells #[.slice (some ⟨w3.heap.size, 0, none⟩) 1 1, .slice (some ⟨w3.heap.size + 1, 0, none⟩) 1 1] 33 (0, 0)) := by rw [← hz2, q3]; exact heap_alloc_new _ _
  have j1 := (b3.block _ (at_lt k1)).trans k1
  have j2 := (b3.block _ (at_lt k2)).trans k2
  have HV := Lib.hid (show Calls Try.prog 18 #[.slice (some ⟨w3.heap.size + 1 + 1, 0, none⟩) 2 2] X3 (fun e w' => e = .returned (.int .i64 12) ∧ Below X3.heap.size X3 w') from by
    have h0 := c_orValid (some ⟨w3.heap.size + 1 + 1, 0, none⟩) 2 [⟨some ⟨w3.heap.size, 0, none⟩, 1, [1]⟩, ⟨some ⟨w3.heap.size + 1, 0, none⟩, 1, [0]⟩] X3 (ls_lit (ys := [⟨some ⟨w3.heap.size, 0, none⟩, 1, [1]⟩, ⟨some ⟨w3.heap.size + 1, 0, none⟩, 1, [0]⟩]) k3 (by unfold maxLen; simp) (fun y hy => by
      simp only [List.mem_cons, List.not_mem_nil, or_false] at hy
      rcases hy with rfl | rfl
      · exact rv_block (l := [(1 : Int)]) j1 (by unfold maxLen; simp)
      · exact rv_block (l := [(0 : Int)]) j2 (by unfold maxLen; simp)))
    rw [show rdN [⟨some ⟨w3.heap.size, 0, none⟩, 1, [1]⟩, ⟨some ⟨w3.heap.size + 1, 0, none⟩, 1, [0]⟩] = 12 from (SameL.rd (xs := [⟨some ⟨w3.heap.size, 0, none⟩, 1, [1]⟩, ⟨some ⟨w3.heap.size + 1, 0, none⟩, 1, [0]⟩]) (ys := badX) rfl).trans bad_rd] at h0
    exact h0)
  have BX := hb2.trans (b3.mono (by omega))
  have HBX := Lib.hid (below_join HB3.out BX HB3.out.size)
  have HLX := Lib.hid (HLS3.out.on BX (Nat.le_refl _))
  have HL2X := Lib.hid (HL23.out.on BX (Nat.le_refl _))
  have HL3X := Lib.hid (HL3.out.on BX (Nat.le_refl _))
  clear q1 q2 q3 hb2 k1 k2 hz2 b3 k3 j1 j2 BX
  go_at_call 18
  refine HV.out.mono ?_
  rintro e w4 ⟨rfl, b4⟩
  have HB4 := Lib.hid (below_join HBX.out b4 HBX.out.size)
  have HL4 := Lib.hid (HLX.out.on b4 (Nat.le_refl _))
  have HL24 := Lib.hid (HL2X.out.on b4 (Nat.le_refl _))
  have HL34 := Lib.hid (HL3X.out.on b4 (Nat.le_refl _))
  clear b4
  go_wp2_with (fail)
  obtain ⟨hq, hbq⟩ := lit4 (W := w4) (l := [0, 1]) (m := [0, 1, 2]) (cl := #[.int .i64 0, .int .i64 1]) (cm := #[.int .i64 0, .int .i64 1, .int .i64 2]) rfl rfl rfl rfl (by decide) (by decide)
  have h0 := c_same A2 c2 ys2 _ 4 _ true (by rw [decide_eq_true_iff]; exact HM2.out) _ (HL24.out.on hbq (Nat.le_refl _)) hq
  rw [HY2.out] at h0
  go_at_call 17
  refine h0.mono ?_
  clear h0
  rintro e w5 ⟨rfl, b5⟩
  have b5' := below_join hbq b5 hbq.size
  have HB5 := Lib.hid (below_join HB4.out b5' HB4.out.size)
  have HL5 := Lib.hid (HL4.out.on b5' (Nat.le_refl _))
  have HL35 := Lib.hid (HL34.out.on b5' (Nat.le_refl _))
  clear b5 b5' hq hbq
  go_wp2_with (fail)
  obtain ⟨hq, hbq⟩ := lit4 (W := w5) (l := [0, 1]) (m := [2]) (cl := #[.int .i64 0, .int .i64 1]) (cm := #[.int .i64 2]) rfl rfl rfl rfl (by decide) (by decide)
  have h0 := c_same A3 c3 ys3 _ 4 _ true (by rw [decide_eq_true_iff]; exact HM3.out) _ (HL35.out.on hbq (Nat.le_refl _)) hq
  rw [HY3.out] at h0
  go_at_call 17
  refine h0.mono ?_
  clear h0
  rintro e w6 ⟨rfl, b6⟩
  have b6' := below_join hbq b6 hbq.size
  have HB6 := Lib.hid (below_join HB5.out b6' HB5.out.size)
  have HL6 := Lib.hid (HL5.out.on b6' (Nat.le_refl _))
  clear b6 b6' hq hbq
  go_wp2_with (fail)
  go_at_call 23
  refine (HI.out w6 HL6.out).mono ?_
  rintro e w7 ⟨⟨h, -⟩ | ⟨-, v, rfl, ho⟩, b7⟩
  · exact absurd rfl h
  obtain ⟨A7, c7, rfl, hr7⟩ := nm_own ho (M := [0, 1, 2, 3, 7, 15]) rfl
  have HR7 := Lib.hid hr7
  have HB7 := Lib.hid (below_join HB6.out b7 HB6.out.size)
  have HL7 := Lib.hid (HL6.out.on b7 (Nat.le_refl _))
  clear ho b7 hr7
  simp only [List.length_cons, List.length_nil]
  go_wp2_with (fail)
  go_at_call 26
  refine (HE.out w7 HL7.out).mono ?_
  rintro e w8 ⟨⟨h, -⟩ | ⟨-, v, rfl, ho⟩, b8⟩
  · exact absurd rfl h
  obtain ⟨A8, c8, rfl, hr8⟩ := nm_own ho (M := [0]) rfl
  have HR8 := Lib.hid hr8
  have HR78 := Lib.hid (HR7.out.on b8 (Nat.le_refl _))
  have HB8 := Lib.hid (below_join HB7.out b8 HB7.out.size)
  have HL8 := Lib.hid (HL7.out.on b8 (Nat.le_refl _))
  clear ho b8 hr8
  simp only [List.length_cons, List.length_nil]
  go_wp2_with (fail)
  go_at_call 21
  refine (HIS.out w8 HL8.out).mono ?_
  rintro e w9 ⟨rfl, b9⟩
  have HR79 := Lib.hid (HR78.out.on b9 (Nat.le_refl _))
  have HR89 := Lib.hid (HR8.out.on b9 (Nat.le_refl _))
  have HB9 := Lib.hid (below_join HB8.out b9 HB8.out.size)
  have HL9 := Lib.hid (HL8.out.on b9 (Nat.le_refl _))
  clear b9
  go_wp2_with (fail)
  obtain ⟨hq, hbq⟩ := lit1 (W := w9) (l := [0, 1, 2, 3, 7, 15]) (cl := #[.int .i64 0, .int .i64 1, .int .i64 2, .int .i64 3, .int .i64 7, .int .i64 15]) rfl (by decide)
  have h0 := c_eqInts A7 c7 [0, 1, 2, 3, 7, 15] (some ⟨w9.heap.size, 0, none⟩) 6 [0, 1, 2, 3, 7, 15] true (by decide) _ (HR79.out.on hbq (Nat.le_refl _)) hq
  go_at_call 25
  refine (show Calls Try.prog 25 #[.slice A7 6 c7, .slice (some ⟨w9.heap.size, 0, none⟩) 6 6] _ _ from h0).mono ?_
  clear h0
  rintro e w10 ⟨rfl, b10⟩
  have b10' := below_join hbq b10 hbq.size
  have HB10 := Lib.hid (below_join HB9.out b10' HB9.out.size)
  have HL10 := Lib.hid (HL9.out.on b10' (Nat.le_refl _))
  have HR810 := Lib.hid (HR89.out.on b10' (Nat.le_refl _))
  clear b10 b10' hq hbq
  go_wp2_with (fail)
  obtain ⟨hq, hbq⟩ := lit1 (W := w10) (l := [0]) (cl := #[.int .i64 0]) rfl (by decide)
  have h0 := c_eqInts A8 c8 [0] (some ⟨w10.heap.size, 0, none⟩) 1 [0] true (by decide) _ (HR810.out.on hbq (Nat.le_refl _)) hq
  go_at_call 25
  refine (show Calls Try.prog 25 #[.slice A8 1 c8, .slice (some ⟨w10.heap.size, 0, none⟩) 1 1] _ _ from h0).mono ?_
  clear h0
  rintro e w11 ⟨rfl, b11⟩
  have b11' := below_join hbq b11 hbq.size
  have HB11 := Lib.hid (below_join HB10.out b11' HB10.out.size)
  have HL11 := Lib.hid (HL10.out.on b11' (Nat.le_refl _))
  clear b11 b11' hq hbq
  go_wp2_with (fail)
  go_at_call 28
  refine (HCN.out w11 HL11.out).mono ?_
  rintro e w12 ⟨⟨h, -⟩ | ⟨-, k, rfl, rfl⟩, b12⟩
  · exact absurd rfl h
  have HB12 := Lib.hid (below_join HB11.out b12 HB11.out.size)
  have HL12 := Lib.hid (HL11.out.on b12 (Nat.le_refl _))
  clear b12
  go_wp2_with (fail)
  go_at_call 30
  refine (HN.out w12 HL12.out).mono ?_
  rintro e w13 ⟨⟨h, -⟩ | ⟨-, v, rfl, ho⟩, b13⟩
  · exact absurd rfl h
  obtain ⟨A13, c13, rfl, hr13⟩ := nm_own ho (M := [1, 0, 2, 3]) rfl
  have HR13 := Lib.hid hr13
  have HB13 := Lib.hid (below_join HB12.out b13 HB12.out.size)
  have HL13 := Lib.hid (HL12.out.on b13 (Nat.le_refl _))
  clear ho b13 hr13
  simp only [List.length_cons, List.length_nil]
  go_wp2_with (fail)
  obtain ⟨hq, hbq⟩ := lit1 (W := w13) (l := [1, 0, 2, 3]) (cl := #[.int .i64 1, .int .i64 0, .int .i64 2, .int .i64 3]) rfl (by decide)
  go_at_call 32
  refine (HRK.out (some ⟨w13.heap.size, 0, none⟩) 4 _ (HL13.out.on hbq (Nat.le_refl _)) hq).mono ?_
  rintro e w14 ⟨⟨h, -⟩ | ⟨-, k, rfl, rfl⟩, b14⟩
  · exact absurd rfl h
  have b14' := below_join hbq b14 hbq.size
  have HB14 := Lib.hid (below_join HB13.out b14' HB13.out.size)
  have HL14 := Lib.hid (HL13.out.on b14' (Nat.le_refl _))
  have HR14 := Lib.hid (HR13.out.on b14' (Nat.le_refl _))
  clear b14 b14' hq hbq
  go_wp2_with (fail)
  obtain ⟨hq, hbq⟩ := lit1 (W := w14) (l := [1, 0, 2, 3]) (cl := #[.int .i64 1, .int .i64 0, .int .i64 2, .int .i64 3]) rfl (by decide)
  have h0 := c_eqInts A13 c13 [1, 0, 2, 3] (some ⟨w14.heap.size, 0, none⟩) 4 [1, 0, 2, 3] true (by decide) _ (HR14.out.on hbq (Nat.le_refl _)) hq
  go_at_call 25
  refine (show Calls Try.prog 25 #[.slice A13 4 c13, .slice (some ⟨w14.heap.size, 0, none⟩) 4 4] _ _ from h0).mono ?_
  clear h0
  rintro e w15 ⟨rfl, b15⟩
  have b15' := below_join hbq b15 hbq.size
  have HB15 := Lib.hid (below_join HB14.out b15' HB14.out.size)
  have HL15 := Lib.hid (HL14.out.on b15' (Nat.le_refl _))
  clear b15 b15' hq hbq
  go_wp2_with (fail)
  go_at_call 35
  refine (HH.out w15 HL15.out).mono ?_
  rintro e w16 ⟨⟨h, -⟩ | ⟨-, k, rfl, rfl⟩, b16⟩
  · exact absurd rfl h
  have HB16 := Lib.hid (below_join HB15.out b16 HB15.out.size)
  have HL16 := Lib.hid (HL15.out.on b16 (Nat.le_refl _))
  clear b16
  go_wp2_with (fail)
  go_at_call 37
  refine (HWD.out w16 HL16.out).mono ?_
  rintro e w17 ⟨⟨h, -⟩ | ⟨-, k, rfl, rfl⟩, b17⟩
  · exact absurd rfl h
  have HB17 := Lib.hid (below_join HB16.out b17 HB16.out.size)
  have HL17 := Lib.hid (HL16.out.on b17 (Nat.le_refl _))
  clear b17
  go_wp2_with (fail)
  go_at_call 39
  refine (HCH.out w17 HL17.out).mono ?_
  rintro e w18 ⟨⟨h, -⟩ | ⟨-, v18, ys18, rfl, ho18, hm18⟩, b18⟩
  · exact absurd rfl h
  obtain ⟨A18, c18, rfl, -, -⟩ := ls_same ho18 hm18
  rw [smp_chains]
  have HB18 := Lib.hid (below_join HB17.out b18 HB17.out.size)
  clear ho18 hm18 b18
  go_wp2_with (fail)
  go_ret
  exact ⟨rfl, HB18.out⟩
end Go.Proofs.Ytjheaeeeeggncaa

namespace Go.Proofs.Ytjheaeeeeggncaa
open Go.RowKit Go.Shelf
attribute [local go_sem] Oper.semAt_some
set_option maxRecDepth 100000
set_option linter.unusedVariables false
set_option linter.unusedSimpArgs false

/-- Chains that contain each element once. -/
structure DvOk (n : Nat) (f : Nat → Nat) (CH : List (List Nat)) : Prop where
  ne : ∀ C ∈ CH, C ≠ []
  lt : ∀ x ∈ CH.flatten, x < n
  nd : CH.flatten.Nodup
  ord : ∀ C ∈ CH, ∀ q x y, C[q]? = some y → C[q + 1]? = some x → (f x).testBit y = true
  all : ∀ x, x < n → x ∈ CH.flatten
end Go.Proofs.Ytjheaeeeeggncaa

namespace Go.Proofs.Ytjheaeeeeggncaa
open Go.RowKit Go.Shelf
attribute [local go_sem] Oper.semAt_some
set_option maxRecDepth 100000
set_option linter.unusedVariables false
set_option linter.unusedSimpArgs false

/-- The program's chains as lists of elements. -/
def chsN (n : Nat) (nx : Nat → Int) : List (List Nat) := ((List.range n).filter fun i => !isNx n nx i).map fun i => chN n nx i
theorem chsN_P (n : Nat) (nx : Nat → Int) : chsP n nx n = (chsN n nx).map intsN := by unfold chsP chsN; rw [List.map_map]; rfl
theorem chsN_len (n : Nat) (nx : Nat → Int) : (chsN n nx).length = cnt n fun i => !isNx n nx i := by unfold chsN cnt; rw [List.length_map]
theorem asc_at {b : Nat → Nat} : ∀ {l : List Nat} {q x y : Nat}, Asc b l → l[q]? = some y → l[q + 1]? = some x → (b x).testBit y = true := by
  intro l
  induction l with
  | nil => intro q x y _ h; simp at h
  | cons a l ih =>
    intro q x y h h1 h2
    cases l with
    | nil => simp at h2
    | cons c l =>
      cases q with
      | zero =>
        simp at h1 h2
        subst h1 h2
        exact h.1
      | succ q => exact ih h.2 (by simpa using h1) (by simpa using h2)
theorem chs_dv {n : Nat} {b : Nat → Nat} {nx : Nat → Int} (hp : Po n b) (hm : Mt n b nx) : DvOk n b (chsN n nx) := by
  have hin : ∀ C ∈ chsN n nx, ∃ i, i < n ∧ isNx n nx i = false ∧ C = chN n nx i := fun C hC => by
    obtain ⟨i, hi, rfl⟩ := List.mem_map.1 hC
    obtain ⟨h1, h2⟩ := List.mem_filter.1 hi
    exact ⟨i, List.mem_range.1 h1, by simpa using h2, rfl⟩
  refine ⟨fun C hC => ?_, fun x hx => ?_, ?_, fun C hC q x y h1 h2 => ?_, fun x hx => ?_⟩
  · obtain ⟨i, hi, -, rfl⟩ := hin C hC
    rw [chN_eq hp hm hi]; simp
  · obtain ⟨C, hC, hx⟩ := List.mem_flatten.1 hx
    obtain ⟨i, hi, -, rfl⟩ := hin C hC
    exact chF_lt hm _ i hi x hx
  · show List.Pairwise (fun a b => a ≠ b) (chsN n nx).flatten
    rw [List.pairwise_flatten]
    refine ⟨fun C hC => ?_, ?_⟩
    · obtain ⟨i, hi, -, rfl⟩ := hin C hC
      exact (asc_nodup hp _ (chF_lt hm _ i hi) (chF_asc hm _ i hi)).1
    · unfold chsN
      rw [List.pairwise_map]
      have h1 : List.Pairwise (fun a b => a ≠ b) ((List.range n).filter fun i => !isNx n nx i) := (List.nodup_range).filter _
      refine (List.Pairwise.and_mem.1 h1).imp ?_
      rintro i j ⟨hi, hj, hne⟩ x hx y hy rfl
      obtain ⟨i1, i2⟩ := List.mem_filter.1 hi
      obtain ⟨j1, j2⟩ := List.mem_filter.1 hj
      have hi' := List.mem_range.1 i1
      have hj' := List.mem_range.1 j1
      exact hne (chain_one hp hm _ x i j (chF_lt hm _ i hi' x hx) (Nat.le_refl _) hi' hj' (by simpa using i2) (by simpa using j2) hx hy)
  · obtain ⟨i, hi, -, rfl⟩ := hin C hC
    exact asc_at (chF_asc hm _ i hi) h1 h2
  · obtain ⟨i, hi, h1, h2⟩ := chain_in hp hm _ x hx (Nat.le_refl _)
    exact List.mem_flatten.2 ⟨_, List.mem_map.2 ⟨i, List.mem_filter.2 ⟨List.mem_range.2 hi, by rw [h1]; rfl⟩, rfl⟩, h2⟩
/-- The number that a property says, if there is one. -/
noncomputable def thN (P : Nat → Prop) : Nat := open Classical in if h : ∃ k, P k then Classical.choose h else 0
theorem thN_is {P : Nat → Prop} (hu : ∀ a b, P a → P b → a = b) (k : Nat) (h : P k) : k = thN P := by
  unfold thN
  rw [dif_pos ⟨k, h⟩]
  exact hu _ _ h (Classical.choose_spec (⟨k, h⟩ : ∃ k, P k))
theorem rd_all {xs : List LsV} (h : rdN xs = 0) : xs.length ≤ 12 ∧ NmOk xs ∧ Po xs.length (ordF xs) := by
  have h0 := h
  unfold rdN at h
  split at h
  · cases h
  · rename_i h1
    split at h
    · cases h
    · rename_i h2
      split at h
      · cases h
      · rename_i h3
        exact ⟨by omega, Classical.not_not.1 h2, ord_po (Classical.not_not.1 h2) h3⟩
theorem sizes_fact {ys : List LsV} (h : rdN ys = 0) : ((chsN ys.length (joinB ys.length (ordF ys) ys.length)).length = thN (Wide ys.length (ordF ys))) ∧ DvOk ys.length (ordF ys) (chsN ys.length (joinB ys.length (ordF ys) ys.length)) := by
  obtain ⟨-, -, hp⟩ := rd_all h
  obtain ⟨h1, h2⟩ := wide_join hp
  exact ⟨by rw [chsN_len]; exact thN_is (fun a b => Wide.uniq) _ h2, chs_dv hp h1⟩
end Go.Proofs.Ytjheaeeeeggncaa

namespace Go.Proofs.Ytjheaeeeeggncaa
open Go.RowKit Go.Shelf
attribute [local go_sem] Oper.semAt_some
set_option maxRecDepth 100000
set_option linter.unusedVariables false
set_option linter.unusedSimpArgs false

/-- In order up to an index. -/
def SrtTo (m : List Nat) (i : Nat) : Prop := ∀ p q x y, p < q → q < i → m[p]? = some x → m[q]? = some y → x ≤ y
structure InsI (m : List Nat) (i j : Nat) : Prop where
  a : ∀ p q x y, p < q → q ≤ i → p ≠ j → q ≠ j → m[p]? = some x → m[q]? = some y → x ≤ y
  b : ∀ q x y, j < q → q ≤ i → m[j]? = some x → m[q]? = some y → x ≤ y
theorem InsI.start {m : List Nat} {i : Nat} (h : SrtTo m i) : InsI m i i :=
  ⟨fun p q x y h1 h2 h3 h4 => h p q x y h1 (by omega), fun q x y h1 h2 => absurd h1 (by omega)⟩
theorem InsI.end_ {m : List Nat} {i j : Nat} (h : InsI m i j) (hl : i < m.length) (hj : j ≤ i) (he : j = 0 ∨ ∀ x y, m[j - 1]? = some x → m[j]? = some y → x ≤ y) : SrtTo m (i + 1) := by
  intro p q x y h1 h2 h3 h4
  by_cases e1 : p = j
  · subst e1; exact h.b q x y h1 (by omega) h3 h4
  · by_cases e2 : q = j
    · subst e2
      rcases he with he | he
      · omega
      · obtain ⟨z, hz⟩ : ∃ z, m[q - 1]? = some z := ⟨_, List.getElem?_eq_getElem (by omega)⟩
        have h5 := he z y hz h4
        by_cases e3 : p = q - 1
        · subst e3; rw [hz] at h3; injection h3 with h3; omega
        · have := h.a p (q - 1) x z (by omega) (by omega) e1 (by omega) h3 hz
          omega
    · exact h.a p q x y h1 (by omega) e1 e2 h3 h4
theorem swap_at {m : List Nat} {j k x y : Nat} (hk : k + 1 = j) (hj : j < m.length) (p : Nat) : ((m.set j x).set k y)[p]? = if p = k then some y else if p = j then some x else m[p]? := by
  rw [List.getElem?_set, List.getElem?_set, List.length_set]
  by_cases h1 : p = k
  · subst h1; rw [if_pos rfl, if_pos rfl, if_pos (by omega)]
  · rw [if_neg (fun e => h1 e.symm), if_neg h1]
    by_cases h2 : p = j
    · subst h2; rw [if_pos rfl, if_pos rfl, if_pos hj]
    · rw [if_neg (fun e => h2 e.symm), if_neg h2]
theorem InsI.swap {m : List Nat} {i j k x y : Nat} (h : InsI m i j) (hk : k + 1 = j) (hji : j ≤ i) (hl : i < m.length) (hx : m[k]? = some x) (hy : m[j]? = some y) (hlt : y < x) : InsI ((m.set j x).set k y) i k := by
  refine ⟨fun p q u v h1 h2 h3 h4 hu hv => ?_, fun q u v h1 h2 hu hv => ?_⟩
  · rw [swap_at hk (by omega), if_neg h3] at hu
    rw [swap_at hk (by omega), if_neg h4] at hv
    by_cases e1 : p = j
    · subst e1
      rw [if_pos rfl] at hu
      rw [if_neg (by omega)] at hv
      injection hu with hu; subst hu
      exact h.a k q x v (by omega) h2 (by omega) (by omega) hx hv
    · rw [if_neg e1] at hu
      by_cases e2 : q = j
      · subst e2
        rw [if_pos rfl] at hv
        injection hv with hv; subst hv
        exact h.a p k u x (by omega) (by omega) e1 (by omega) hu hx
      · rw [if_neg e2] at hv
        exact h.a p q u v h1 h2 e1 e2 hu hv
  · rw [swap_at hk (by omega), if_pos rfl] at hu
    rw [swap_at hk (by omega), if_neg (by omega)] at hv
    injection hu with hu; subst hu
    by_cases e2 : q = j
    · subst e2
      rw [if_pos rfl] at hv
      injection hv with hv; omega
    · rw [if_neg e2] at hv
      exact h.b q y v (by omega) h2 hy hv
theorem swap_perm {m : List Nat} {j k x y : Nat} (hj : j < m.length) (hk : k < m.length) (hx : m[k]? = some x) (hy : m[j]? = some y) : ((m.set j x).set k y).Perm m := by
  have e1 : x = m[k] := by rw [List.getElem?_eq_getElem hk] at hx; injection hx with hx; exact hx.symm
  have e2 : y = m[j] := by rw [List.getElem?_eq_getElem hj] at hy; injection hy with hy; exact hy.symm
  subst e1 e2
  exact List.set_set_perm hj hk
theorem own_setN {X : World} {base g cap i v : Nat} {l : List Nat} (h : X.ownsRow base 3 1 (.slice (some ⟨g, 0, none⟩) l.length cap) l.length (elV l)) (hi : i < l.length) :
    (X.setCell ⟨g, i, none⟩ (.int .i64 (v : Int))).ownsRow base 3 1 (.slice (some ⟨g, 0, none⟩) l.length cap) l.length (elV (l.set i v)) := by
  obtain ⟨k1, ⟨e0, -⟩ | ⟨g', cap', cur, e0, k3, k4, k5, k6, k7, k8⟩⟩ := h
  · cases e0
  · injection e0 with e1 _ e2
    injection e1 with e1
    injection e1 with e1
    subst e1 e2
    refine ⟨by simp [elV], .inr ⟨g, cap, cur.setIfInBounds i (.int .i64 (v : Int)), rfl, k3, set_field k4 _, k5, k6, by rw [Array.size_setIfInBounds]; exact k7, ?_⟩⟩
    rw [Array.toList_setIfInBounds, List.take_set, k8]
    simp [elV, List.map_set]
theorem own_atN {X : World} {base g cap i x : Nat} {l : List Nat} (h : X.ownsRow base 3 1 (.slice (some ⟨g, 0, none⟩) l.length cap) l.length (elV l)) (hx : l[i]? = some x) : X.cell? ⟨g, i, none⟩ = some (.int .i64 (x : Int)) := by
  have hi := (List.getElem?_eq_some_iff.1 hx).1
  have := h.cellAt i (by omega)
  rw [this]
  simp [elV, hx]
theorem own_frzN {X : World} {base g cap n : Nat} {xs : List Value} {T : TypeId} {k : Nat} (h : X.ownsRow base T k (.slice (some ⟨g, 0, none⟩) n cap) n xs) (i : Nat) : X.frozen? ⟨g, i, none⟩ = false := by
  obtain ⟨k1, ⟨e0, -⟩ | ⟨g', cap', cur, e0, k3, k4, k5, k6, k7, k8⟩⟩ := h
  · cases e0
  · injection e0 with e1 _ e2
    injection e1 with e1
    injection e1 with e1
    subst e1
    simp [World.frozen?, k4]
set_option maxHeartbeats 2000000 in
theorem c_nanInt (x : Int) (w : World) : Calls Try.prog 86 #[.int .i64 x] w fun e w' => e = .returned (.bool false) ∧ w' = w := by
  have h : (x != x) = false := by simp
  go_enter Try.func86, Try.ntmps86
  go_wp2
  go_ret
  exact ⟨rfl, rfl⟩
set_option maxHeartbeats 2000000 in
theorem c_lessInt (x y : Int) (r : Bool) (hr : decide (x < y) = r) (w : World) : Calls Try.prog 97 #[.int .i64 x, .int .i64 y] w fun e w' => e = .returned (.bool r) ∧ w' = w := by
  subst hr
  go_enter Try.func97, Try.ntmps97
  go_wp2_with (go_at_call 86; refine (c_nanInt _ _).mono ?_; rintro e w1 ⟨rfl, rfl⟩)
  go_ret
  exact ⟨rfl, rfl⟩
set_option maxHeartbeats 16000000 in
theorem c_insSort (base g cap : Nat) (l : List Nat) (hn : l.length ≤ 12) (w : World) (h : w.ownsRow base 3 1 (.slice (some ⟨g, 0, none⟩) l.length cap) l.length (elV l)) :
    Calls Try.prog 91 #[.slice (some ⟨g, 0, none⟩) l.length cap, .int .i64 0, .int .i64 (l.length : Int)] w fun e w' => e = .returned (.tuple #[]) ∧ ∃ m : List Nat, m.length = l.length ∧ m.Perm l ∧ SrtTo m l.length ∧ w'.ownsRow base 3 1 (.slice (some ⟨g, 0, none⟩) l.length cap) l.length (elV m) ∧ But g w w' := by
  obtain ⟨n, hnn⟩ : ∃ n, l.length = n := ⟨_, rfl⟩
  have HN := Lib.hid hnn
  rw [hnn] at h hn ⊢
  have H := Lib.hid h
  have hcap : n ≤ cap := by
    obtain ⟨k1, ⟨e0, -⟩ | ⟨g', cap', cur, e0, k3, k4, k5, k6, k7, k8⟩⟩ := h
    · cases e0
    · injection e0 with _ _ e2; omega
  clear h hnn
  go_enter Try.func91, Try.ntmps91
  go_wp2_with (fail)
  go_loopw [6] (fun z wr => ∃ (i : Nat) (m : List Nat), 1 ≤ i ∧ (i ≤ n ∨ i = 1) ∧ z = .int .i64 (i : Int) ∧ m.length = n ∧ Hid (m.Perm l) ∧ Hid (SrtTo m i) ∧ Hid (wr.ownsRow base 3 1 (.slice (some ⟨g, 0, none⟩) n cap) n (elV m)) ∧ Hid (But g w wr)) (fun z _ => n - (intOf z).toNat)
  case atStart => exact ⟨1, l, Nat.le_refl _, .inr rfl, rfl, HN.out, Lib.hid (List.Perm.refl _), Lib.hid (fun p q x y h1 h2 => absurd h1 (by omega)), H, Lib.hid (But.refl _)⟩
  case round =>
    obtain ⟨i, m, hi1, hin, rfl, hml, hP, hS, hO, hB⟩ := hrel
    have hii : ((i : Nat) : Int).toNat = i := by omega
    by_cases hlt : i < n
    · have hil : (i : Int) < (n : Int) := by omega
      have HI := Lib.hid (InsI.start hS.out)
      have HMLa := Lib.hid hml
      clear hml
      go_wp2_with (fail)
      go_loopw [7] (fun z wr => ∃ (j : Nat) (m : List Nat), j ≤ i ∧ z = .int .i64 (j : Int) ∧ Hid (m.length = n) ∧ Hid (m.Perm l) ∧ Hid (InsI m i j) ∧ Hid (wr.ownsRow base 3 1 (.slice (some ⟨g, 0, none⟩) n cap) n (elV m)) ∧ Hid (But g w wr)) (fun z _ => (intOf z).toNat)
      case atStart => exact ⟨i, m, Nat.le_refl _, rfl, HMLa, hP, HI, hO, hB⟩
      case round =>
        obtain ⟨j, m, hji, rfl, hML, hP, hI, hO, hB⟩ := hrel
        have hjj : ((j : Nat) : Int).toNat = j := by omega
        have hfin : (∀ x y, m[j - 1]? = some x → m[j]? = some y → j = 0 ∨ x ≤ y) → Hid (SrtTo m (i + 1)) := fun h => Lib.hid (hI.out.end_ (by rw [hML.out]; exact hlt) hji (by
          by_cases e : j = 0
          · exact .inl e
          · exact .inr fun x y h1 h2 => (h x y h1 h2).resolve_left e))
        by_cases hj0 : j = 0
        · have g1 : decide ((0 : Int) < (j : Int)) = false := decide_eq_false (by omega)
          have g1n : decide (0 < j) = false := decide_eq_false (by omega)
          have HSF := hfin (fun x y _ _ => .inl hj0)
          clear hfin hj0
          go_wp2_with (fail)
          go_region
          go_wp2_with (fail)
          go_roundw
          case rel => exact ⟨i + 1, m, by omega, by omega, by go_num, hML.out, hP, HSF, Lib.hid (own_on hO.out (Below.refl _ _).drew (Nat.le_refl _)), Lib.hid (hB.out.trans But.drew)⟩
          case measure => simp only [intOf]; omega
        · obtain ⟨k, hk⟩ : ∃ k, k + 1 = j := ⟨j - 1, by omega⟩
          obtain ⟨x, hx⟩ : ∃ x, m[k]? = some x := ⟨_, List.getElem?_eq_getElem (by rw [hML.out]; omega)⟩
          obtain ⟨y, hy⟩ : ∃ y, m[j]? = some y := ⟨_, List.getElem?_eq_getElem (by rw [hML.out]; omega)⟩
          have g1 : decide ((0 : Int) < (j : Int)) = true := decide_eq_true (by omega)
          have g1n : decide (0 < j) = true := decide_eq_true (by omega)
          have hj1 : IntKind.i64.wrap ((j : Int) - 1) = (k : Int) := by rw [show (j : Int) - 1 = (k : Int) by omega]; exact wrap_in (by omega) (by omega)
          have hjn : (j : Int) < (n : Int) := by omega
          have hkn : (k : Int) < (n : Int) := by omega
          have hk0 : (0 : Int) ≤ (k : Int) := by omega
          have hkk : ((k : Nat) : Int).toNat = k := by omega
          have ho' := hO.out
          rw [← hML.out] at ho'
          have x0 := own_atN ho' hx
          have x1 := own_atN ho' hy
          have HX2 := Lib.hid (And.intro x0 x1)
          obtain ⟨r, hr⟩ : ∃ r, decide ((y : Int) < (x : Int)) = r := ⟨_, rfl⟩
          have HLS := Lib.hid (c_lessInt (y : Int) (x : Int) r hr wr.drew)
          have HXX := Lib.hid hx
          have HYY := Lib.hid hy
          have HK := Lib.hid hk
          have hrr := hr
          clear ho' hx hy hr hk hj0
          go_wp2_with (fail)
          go_region_held3 (fun X => X.cell? ⟨g, k, none⟩ = some (.int .i64 (x : Int)) ∧ X.cell? ⟨g, j, none⟩ = some (.int .i64 (y : Int)))
            (first | exact HX2.out | fail)
            (first
              | (go_at_call 97; (with_reducible refine HLS.out.mono ?_); rintro e w1 ⟨rfl, rfl⟩)
              | fail)
          have hjn2 : j < n := by omega
          cases r
          · have HSF := hfin (fun u v h1 h2 => .inr (by
              have e : j - 1 = k := by have := HK.out; omega
              rw [e, HXX.out] at h1
              rw [HYY.out] at h2
              injection h1 with h1
              injection h2 with h2
              have := of_decide_eq_false hrr
              omega))
            clear hfin
            go_wp2_with (fail)
            go_roundw
            case rel => exact ⟨i + 1, m, by omega, by omega, by go_num, hML.out, hP, HSF, Lib.hid (own_on hO.out (Below.refl _ _).drew (Nat.le_refl _)), Lib.hid (hB.out.trans But.drew)⟩
            case measure => simp only [intOf]; omega
          · have hlt2 : y < x := by have := of_decide_eq_true hrr; omega
            have f0 := own_frzN hO.out j
            have f1 := own_frzN hO.out k
            have hkj : k ≠ j := by have := HK.out; omega
            have ho1 := hO.out
            rw [← hML.out] at ho1
            have ho2 := own_setN (v := x) ho1 (show j < m.length by rw [hML.out]; exact hjn2)
            have ho3 : ((wr.setCell ⟨g, j, none⟩ (.int .i64 (x : Int))).setCell ⟨g, k, none⟩ (.int .i64 (y : Int))).ownsRow base 3 1 (.slice (some ⟨g, 0, none⟩) n cap) n (elV ((m.set j x).set k y)) := by
              have h4 := own_setN (l := m.set j x) (v := y) (i := k) (by rw [List.length_set]; exact ho2) (by rw [List.length_set, hML.out]; have := HK.out; omega)
              rw [List.length_set, hML.out] at h4
              exact h4
            have HO3 := Lib.hid ho3
            have HP3 := Lib.hid ((swap_perm (by rw [hML.out]; exact hjn2) (by rw [hML.out]; have := HK.out; omega) HXX.out HYY.out).trans hP.out)
            have HI3 := Lib.hid (hI.out.swap HK.out hji (by rw [hML.out]; exact hlt) HXX.out HYY.out hlt2)
            have HL3 := Lib.hid (show ((m.set j x).set k y).length = n by rw [List.length_set, List.length_set]; exact hML.out)
            have HB3 := Lib.hid ((hB.out.trans (But.store (.int .i64 (x : Int)) j)).trans (But.store (.int .i64 (y : Int)) k))
            have hkm : k < j := by have := HK.out; omega
            clear ho1 ho2 ho3 hfin
            go_wp2_with (fail)
            go_region
            go_wp2_with (fail)
            go_roundw
            case rel => exact ⟨k, _, by omega, by go_num, HL3, HP3, HI3, Lib.hid (own_on HO3.out (below_drewN (n := 2) (Below.refl _ _)) (Nat.le_refl _)), Lib.hid (HB3.out.trans (But.drew.trans But.drew))⟩
            case measure => simp only [intOf]; omega
    · have hil : (n : Int) ≤ (i : Int) := by omega
      have HE := Lib.hid (show SrtTo m n from fun p q x y h1 h2 => hS.out p q x y h1 (by omega))
      go_wp2_with (fail)
      go_end0
      exact ⟨rfl, m, hml, hP.out, HE.out, hO.out, hB.out⟩
end Go.Proofs.Ytjheaeeeeggncaa

namespace Go.Proofs.Ytjheaeeeeggncaa
open Go.RowKit Go.Shelf
attribute [local go_sem] Oper.semAt_some
set_option maxRecDepth 100000
set_option linter.unusedVariables false
set_option linter.unusedSimpArgs false

set_option maxHeartbeats 8000000 in
theorem c_len64 (x : Nat) (hx : x ≤ 12) (w : World) : Calls Try.prog 101 #[.int .u64 (x : Int)] w fun e w' => (∃ r : Int, e = .returned (.int .i64 r)) ∧ w' = w := by
  have h1 : decide ((4294967296 : Int) ≤ (x : Int)) = false := decide_eq_false (by omega)
  have h2 : decide ((65536 : Int) ≤ (x : Int)) = false := decide_eq_false (by omega)
  have h3 : decide ((256 : Int) ≤ (x : Int)) = false := decide_eq_false (by omega)
  have h1n : decide (4294967296 ≤ x) = false := decide_eq_false (by omega)
  have h2n : decide (65536 ≤ x) = false := decide_eq_false (by omega)
  have h3n : decide (256 ≤ x) = false := decide_eq_false (by omega)
  have hsz : Lib.len8tab.size = 256 := by decide
  have hs8 : x < Lib.len8tab.size := by rw [hsz]; omega
  clear hsz
  go_enter Try.func101, Try.ntmps101
  go_wp2_with (fail)
  go_ret
  exact ⟨⟨_, rfl⟩, rfl⟩
set_option maxHeartbeats 8000000 in
theorem c_bitsLen (x : Nat) (hx : x ≤ 12) (w : World) : Calls Try.prog 85 #[.int .u64 (x : Int)] w fun e w' => (∃ r : Int, e = .returned (.int .i64 r)) ∧ w' = w := by
  have HC := Lib.hid (c_len64 x hx w)
  go_enter Try.func85, Try.ntmps85
  go_wp2_with (go_at_call 101; refine HC.out.mono ?_; rintro e w1 ⟨⟨r, rfl⟩, rfl⟩)
  go_ret
  exact ⟨⟨_, rfl⟩, rfl⟩
/-- What is sorted in place. -/
def SrtP (base g cap : Nat) (l : List Nat) (w : World) (e : Ending) (w' : World) : Prop := e = .returned (.tuple #[]) ∧ ∃ m : List Nat, m.length = l.length ∧ m.Perm l ∧ SrtTo m l.length ∧ w'.ownsRow base 3 1 (.slice (some ⟨g, 0, none⟩) l.length cap) l.length (elV m) ∧ But g w w'
set_option maxHeartbeats 8000000 in
theorem c_pdqsort (base g cap : Nat) (l : List Nat) (hn : l.length ≤ 12) (r : Int) (w : World) (h : w.ownsRow base 3 1 (.slice (some ⟨g, 0, none⟩) l.length cap) l.length (elV l)) :
    Calls Try.prog 84 #[.slice (some ⟨g, 0, none⟩) l.length cap, .int .i64 0, .int .i64 (l.length : Int), .int .i64 r] w (SrtP base g cap l w) := by
  have HC := Lib.hid (show Calls Try.prog 91 #[.slice (some ⟨g, 0, none⟩) l.length cap, .int .i64 0, .int .i64 (l.length : Int)] w (SrtP base g cap l w) from c_insSort base g cap l hn w h)
  obtain ⟨R, hR⟩ : ∃ R, R = SrtP base g cap l w := ⟨_, rfl⟩
  have HRR := Lib.hid (fun e w' (h : R e w') => (by rw [hR] at h; exact h.1 : e = .returned (.tuple #[])))
  rw [← hR] at HC ⊢
  clear hR h
  obtain ⟨n, hnn⟩ : ∃ n, l.length = n := ⟨_, rfl⟩
  rw [hnn] at HC hn ⊢
  have h1 : decide ((n : Int) ≤ 12) = true := decide_eq_true (by omega)
  have h1n : decide (n ≤ 12) = true := decide_eq_true (by omega)
  clear hnn
  go_enter Try.func84, Try.ntmps84
  go_wp2_with (fail)
  refine wp_loop_once ?_
  go_wp2_with (fail)
  go_at_call 91
  refine HC.out.mono ?_
  intro e w1 h
  have he := HRR.out e w1 h
  subst he
  have HH := Lib.hid h
  clear h
  go_wp2_with (fail)
  go_end0
  exact HH.out
set_option maxHeartbeats 8000000 in
theorem c_Sort (base g cap : Nat) (l : List Nat) (hn : l.length ≤ 12) (w : World) (h : w.ownsRow base 3 1 (.slice (some ⟨g, 0, none⟩) l.length cap) l.length (elV l)) :
    Calls Try.prog 69 #[.slice (some ⟨g, 0, none⟩) l.length cap] w (SrtP base g cap l w) := by
  have HC := Lib.hid (fun r : Int => c_pdqsort base g cap l hn r w h)
  have HB := Lib.hid (c_bitsLen l.length hn w)
  obtain ⟨R, hR⟩ : ∃ R, R = SrtP base g cap l w := ⟨_, rfl⟩
  have HRR := Lib.hid (fun e w' (h : R e w') => (by rw [hR] at h; exact h.1 : e = .returned (.tuple #[])))
  rw [← hR] at HC ⊢
  clear hR h
  obtain ⟨n, hnn⟩ : ∃ n, l.length = n := ⟨_, rfl⟩
  rw [hnn] at HC HB hn ⊢
  clear hnn
  go_enter Try.func69, Try.ntmps69
  go_wp2_with (fail)
  go_at_call 85
  refine HB.out.mono ?_
  rintro e w1 ⟨⟨r, rfl⟩, rfl⟩
  go_wp2_with (fail)
  go_at_call 84
  refine (HC.out r).mono ?_
  intro e w2 h
  have he := HRR.out e w2 h
  subst he
  have HH := Lib.hid h
  clear h
  go_wp2_with (fail)
  go_end0
  exact HH.out
def SrtN (w : World) (e : Ending) (w' : World) : Prop := e = .returned (.tuple #[]) ∧ w' = w
set_option maxHeartbeats 8000000 in
theorem c_insNil (w : World) : Calls Try.prog 91 #[.slice none 0 0, .int .i64 0, .int .i64 0] w (SrtN w) := by
  go_enter Try.func91, Try.ntmps91
  go_wp2_with (fail)
  go_loopw [6] (fun z wr => z = .int .i64 1 ∧ w = wr) (fun _ _ => 0)
  case atStart => exact ⟨rfl, rfl⟩
  case round =>
    obtain ⟨rfl, rfl⟩ := hrel
    go_wp2_with (fail)
    go_end0
    exact ⟨rfl, rfl⟩
set_option maxHeartbeats 8000000 in
theorem c_pdqNil (r : Int) (w : World) : Calls Try.prog 84 #[.slice none 0 0, .int .i64 0, .int .i64 0, .int .i64 r] w (SrtN w) := by
  have HI := Lib.hid (c_insNil w)
  have HRR := Lib.hid (fun e w' (h : SrtN w e w') => (h.1 : e = .returned (.tuple #[])))
  obtain ⟨R, hR⟩ : ∃ R, R = SrtN w := ⟨_, rfl⟩
  rw [← hR] at HI HRR ⊢
  clear hR
  go_enter Try.func84, Try.ntmps84
  go_wp2_with (fail)
  refine wp_loop_once ?_
  go_wp2_with (fail)
  go_at_call 91
  refine HI.out.mono ?_
  intro e w1 h
  have he := HRR.out e w1 h
  subst he
  have HH := Lib.hid h
  clear h
  go_wp2_with (fail)
  go_end0
  exact HH.out
set_option maxHeartbeats 8000000 in
theorem c_SortNil (w : World) : Calls Try.prog 69 #[.slice none 0 0] w (SrtN w) := by
  have HB := Lib.hid (c_bitsLen 0 (by omega) w)
  have HC := Lib.hid (fun r : Int => c_pdqNil r w)
  have HRR := Lib.hid (fun e w' (h : SrtN w e w') => (h.1 : e = .returned (.tuple #[])))
  obtain ⟨R, hR⟩ : ∃ R, R = SrtN w := ⟨_, rfl⟩
  rw [← hR] at HC HRR ⊢
  clear hR
  go_enter Try.func69, Try.ntmps69
  go_wp2_with (fail)
  go_at_call 85
  refine HB.out.mono ?_
  rintro e w1 ⟨⟨r, rfl⟩, rfl⟩
  go_wp2_with (fail)
  go_at_call 84
  refine (HC.out r).mono ?_
  intro e w2 h
  have he := HRR.out e w2 h
  subst he
  have HH := Lib.hid h
  clear h
  go_wp2_with (fail)
  go_end0
  exact HH.out
end Go.Proofs.Ytjheaeeeeggncaa

namespace Go.Proofs.Ytjheaeeeeggncaa
open Go.RowKit Go.Shelf
attribute [local go_sem] Oper.semAt_some
set_option maxRecDepth 100000
set_option linter.unusedVariables false
set_option linter.unusedSimpArgs false

/-- Lists that name earlier names only: those before place i, and at i those before j. -/
def MdP (nm : List Nat) (i j : Nat) (ls : Nat → List Nat) : Prop := ∀ q x, x ∈ ls q → ∃ t s, nm[t]? = some q ∧ nm[s]? = some x ∧ s < t ∧ (t < i ∨ (t = i ∧ s < j))
theorem nm_uniq {nm : List Nat} (h : nm.Nodup) {s t x : Nat} (h1 : nm[s]? = some x) (h2 : nm[t]? = some x) : s = t := by
  have hs := (List.getElem?_eq_some_iff.1 h1).1
  have ht := (List.getElem?_eq_some_iff.1 h2).1
  have e1 := (List.getElem?_eq_some_iff.1 h1).2
  have e2 := (List.getElem?_eq_some_iff.1 h2).2
  rcases Nat.lt_trichotomy s t with g | g | g
  · exact absurd (e1.trans e2.symm) (List.pairwise_iff_getElem.1 h s t hs ht g)
  · exact g
  · exact absurd (e2.trans e1.symm) (List.pairwise_iff_getElem.1 h t s ht hs g)
theorem MdP.start (nm : List Nat) : MdP nm 0 0 (fun _ => []) := fun q x h => by cases h
theorem MdP.row {nm : List Nat} {i : Nat} {ls : Nat → List Nat} (h : MdP nm i i ls) : MdP nm (i + 1) 0 ls := fun q x hx => by
  obtain ⟨t, s, h1, h2, h3, h4⟩ := h q x hx
  exact ⟨t, s, h1, h2, h3, .inl (by omega)⟩
theorem MdP.skip {nm : List Nat} {i j : Nat} {ls : Nat → List Nat} (h : MdP nm i j ls) : MdP nm i (j + 1) ls := fun q x hx => by
  obtain ⟨t, s, h1, h2, h3, h4⟩ := h q x hx
  exact ⟨t, s, h1, h2, h3, by omega⟩
def putL (ls : Nat → List Nat) (u : Nat) (l : List Nat) : Nat → List Nat := fun q => if q = u then l else ls q
theorem MdP.add {nm : List Nat} {i j u x : Nat} {ls : Nat → List Nat} (h : MdP nm i j ls) (hji : j < i) (hu : nm[i]? = some u) (hx : nm[j]? = some x) : MdP nm i (j + 1) (putL ls u (ls u ++ [x])) := fun q y hy => by
  unfold putL at hy
  split at hy
  · rename_i e
    subst e
    rcases List.mem_append.1 hy with hy | hy
    · exact h.skip q y hy
    · simp at hy; subst hy
      exact ⟨i, j, hu, hx, hji, .inr ⟨rfl, by omega⟩⟩
  · exact h.skip q y hy
theorem MdP.new {nm : List Nat} {i j u x : Nat} {ls : Nat → List Nat} (hnd : nm.Nodup) (h : MdP nm i j ls) (hu : nm[i]? = some u) (hx : nm[j]? = some x) : x ∉ ls u := fun hm => by
  obtain ⟨t, s, h1, h2, h3, h4⟩ := h u x hm
  have e1 := nm_uniq hnd h1 hu
  have e2 := nm_uniq hnd h2 hx
  omega
theorem made_rd {xs : List LsV} {nm : List Nat} {ls : Nat → List Nat} {i : Nat} (hk : xs.length ≤ 12) (hp : nm.Perm (List.range xs.length)) (hx : ∀ q x, xs[q]? = some x → x.l = intsN (ls q)) (hm : MdP nm i 0 ls)
    (hs : ∀ q, q < xs.length → SrtTo (ls q) (ls q).length) (hnd : ∀ q, q < xs.length → (ls q).Nodup) : rdN xs = 0 := by
  have hnm : nm.Nodup := hp.nodup_iff.2 List.nodup_range
  have hlt : ∀ {t q : Nat}, nm[t]? = some q → q < xs.length := fun h => List.mem_range.1 (hp.mem_iff.1 (List.mem_of_getElem? h))
  have hok : NmOk xs := fun o x ho z hz => by
    rw [hx o x ho] at hz
    obtain ⟨y, hy, rfl⟩ := List.mem_map.1 hz
    obtain ⟨t, s, h1, h2, h3, -⟩ := hm o y hy
    have := hlt h2
    refine ⟨by omega, by omega, fun e => ?_⟩
    have e' : y = o := by omega
    subst e'
    have := nm_uniq hnm h1 h2
    omega
  have hdis : ¬ (12 < xs.length ∨ xs.any (fun x => disB x.l) = true) := by
    rintro (h | h)
    · omega
    · obtain ⟨x, hxm, hd⟩ := List.any_eq_true.1 h
      obtain ⟨q, hq⟩ := List.getElem?_of_mem hxm
      have hql := (List.getElem?_eq_some_iff.1 hq).1
      obtain ⟨k, a, b, h1, h2, h3⟩ := disB_iff.1 hd
      rw [hx q x hq] at h1 h2
      unfold intsN at h1 h2
      rw [List.getElem?_map] at h1 h2
      obtain ⟨a', e1, rfl⟩ := Option.map_eq_some_iff.1 h1
      obtain ⟨b', e2, rfl⟩ := Option.map_eq_some_iff.1 h2
      have hkl := (List.getElem?_eq_some_iff.1 e2).1
      have g1 := hs q hql k (k + 1) a' b' (by omega) hkl e1 e2
      have e3 : a' = b' := by omega
      subst e3
      have := nm_uniq (hnd q hql) e1 e2
      omega
  have hloop : ¬ Loop xs := by
    rintro ⟨o, ho, hb⟩
    have hc := (ord_cb hok ho o).1 hb
    have key : ∀ (a b : Nat), Cb (EdF xs) a b → ∀ t : Nat, nm[t]? = some a → ∃ s : Nat, nm[s]? = some b ∧ s < t := by
      intro a b h
      have step : ∀ (a b : Nat), EdF xs a b → ∀ t : Nat, nm[t]? = some a → ∃ s : Nat, nm[s]? = some b ∧ s < t := fun a b e t ht => by
        obtain ⟨h1, h2⟩ := e
        unfold lstF natsL lAt at h2
        obtain ⟨z, hz, rfl⟩ := List.mem_map.1 h2
        cases hq : xs[a]? with
        | none => rw [hq] at hz; simp at hz
        | some x =>
          rw [hq] at hz
          have hz : z ∈ x.l := by simpa using hz
          rw [hx a x hq] at hz
          obtain ⟨y, hy, rfl⟩ := List.mem_map.1 hz
          obtain ⟨t', s, k1, k2, k3, -⟩ := hm a y hy
          have := nm_uniq hnm k1 ht
          exact ⟨s, by simpa using k2, by omega⟩
      induction h with
      | one e => exact step _ _ e
      | more e _ ih =>
        intro t ht
        obtain ⟨s, h1, h2⟩ := step _ _ e t ht
        obtain ⟨r, h3, h4⟩ := ih s h1
        exact ⟨r, h3, by omega⟩
    have hmem : o ∈ nm := hp.mem_iff.2 (List.mem_range.2 ho)
    obtain ⟨t, ht⟩ := List.getElem?_of_mem hmem
    obtain ⟨s, h1, h2⟩ := key o o hc t ht
    have := nm_uniq hnm h1 ht
    omega
  unfold rdN
  rw [if_neg hdis, if_neg (by simpa using hok), if_neg hloop]
/-- The cells of k slices. -/
def slV (k : Nat) (vs : Nat → Value) : List Value := (List.range k).map vs
theorem slV_len (k : Nat) (vs : Nat → Value) : (slV k vs).length = k := by simp [slV]
theorem slV_at {k q : Nat} (vs : Nat → Value) (h : q < k) : (slV k vs)[q]? = some (vs q) := by simp [slV, h]
def putV (vs : Nat → Value) (u : Nat) (v : Value) : Nat → Value := fun q => if q = u then v else vs q
theorem slV_set {k u : Nat} (vs : Nat → Value) (v : Value) (h : u < k) : (slV k vs).set u v = slV k (putV vs u v) := by
  apply List.ext_getElem?
  intro j
  rw [List.getElem?_set]
  by_cases e : u = j
  · subst e
    rw [if_pos rfl, slV_len, if_pos h, slV_at _ h]
    simp [putV]
  · rw [if_neg e]
    by_cases hj : j < k
    · rw [slV_at _ hj, slV_at _ hj]
      unfold putV
      rw [if_neg (fun x => e x.symm)]
    · rw [List.getElem?_eq_none (by rw [slV_len]; omega), List.getElem?_eq_none (by rw [slV_len]; omega)]
/-- The lists while they are made: the block of slices at ga, each row the walk's own, no two in one block; the names in a row of their own. -/
structure MdS (w X : World) (ga k : Nat) (nv : Value) (nm : List Nat) (vs : Nat → Value) (ls : Nat → List Nat) : Prop where
  bel : Below w.heap.size w X
  gle : w.heap.size ≤ ga
  blk : X.heap[ga]? = some (.cells (slV k vs).toArray 33 (0, 0))
  row : ∀ q, q < k → X.ownsRow w.heap.size 3 1 (vs q) (ls q).length (elV (ls q))
  dis : ∀ q r g, q < k → r < k → q ≠ r → (vs q).ownBlock = some g → (vs r).ownBlock ≠ some g
  names : X.ownsRow w.heap.size 3 1 nv nm.length (elV nm)
  apart : ∀ q g, q < k → (vs q).ownBlock = some g → nv.ownBlock ≠ some g
theorem own_obj {X : World} {base n k : Nat} {T : TypeId} {v : Value} {xs : List Value} (h : X.ownsRow base T k v n xs) {g : Nat} (hg : v.ownBlock = some g) : ∃ cur, X.heap[g]? = some (.cells cur T (0, 0)) := by
  obtain ⟨-, ⟨rfl, -⟩ | ⟨g', cap, cur, rfl, -, k4, -⟩⟩ := h
  · cases hg
  · have hg2 : some g' = some g := hg
    injection hg2 with hg2
    subst hg2
    exact ⟨cur, k4⟩
section
variable {w X Y : World} {ga k : Nat} {nv : Value} {nm : List Nat} {vs : Nat → Value} {ls : Nat → List Nat}
theorem MdS.not_ga (h : MdS w X ga k nv nm vs ls) {v : Value} {n : Nat} {xs : List Value} (ho : X.ownsRow w.heap.size 3 1 v n xs) : v.ownBlock ≠ some ga := fun e => by
  obtain ⟨cur, hc⟩ := own_obj ho e
  rw [h.blk] at hc
  injection hc with hc
  injection hc with _ hc _
  exact absurd hc (by decide)
theorem MdS.drew (h : MdS w X ga k nv nm vs ls) : MdS w X.drew ga k nv nm vs ls := ⟨h.bel.drew, h.gle, h.blk, h.row, h.dis, h.names, h.apart⟩
/-- A row grows by one, and its slice is stored. -/
theorem MdS.add (h : MdS w X ga k nv nm vs ls) {u x : Nat} (hu : u < k) {o : Obj} {Z : World} {g cap : Nat} (hgrow : (X.alloc o).grownBy Z (vs u).ownBlock) (hat : (vs u).ownBlock = some g ∨ g = X.heap.size + 1)
    (hown : Z.ownsRow w.heap.size 3 1 (.slice (some ⟨g, 0, none⟩) (ls u ++ [x]).length cap) (ls u ++ [x]).length (elV (ls u ++ [x]))) :
    Z.heap[ga]? = some (.cells (slV k vs).toArray 33 (0, 0)) ∧ MdS w (Z.setCell ⟨ga, u, none⟩ (.slice (some ⟨g, 0, none⟩) (ls u ++ [x]).length cap)) ga k nv nm (putV vs u (.slice (some ⟨g, 0, none⟩) (ls u ++ [x]).length cap)) (putL ls u (ls u ++ [x])) := by
  have hkeep : ∀ {g' : Nat} {ob : Obj}, X.heap[g']? = some ob → (vs u).ownBlock ≠ some g' → Z.heap[g']? = some ob := fun {g' ob} h1 h2 => by
    have hl := at_lt h1
    rw [hgrow.block g' (by simp; omega) (fun e => h2 e.symm)]
    exact old_heap _ h1
  have hblk := hkeep h.blk (h.not_ga (h.row u hu))
  have hgl := at_lt h.blk
  have hzga : g ≠ ga := by
    rcases hat with e | e
    · intro e2; subst e2; exact h.not_ga (h.row u hu) e
    · omega
  have hfar : ∀ (v : Value) (n : Nat) (xs : List Value), X.ownsRow w.heap.size 3 1 v n xs → (∀ g', (vs u).ownBlock = some g' → v.ownBlock ≠ some g') → (Z.setCell ⟨ga, u, none⟩ (.slice (some ⟨g, 0, none⟩) (ls u ++ [x]).length cap)).ownsRow w.heap.size 3 1 v n xs ∧ v.ownBlock ≠ some g := fun v n xs ho hd => by
    refine ⟨own_row_kept ho fun g' cur hg hc => set_else (hkeep hc (fun e => hd g' e hg)) (fun e => by subst e; exact h.not_ga ho hg), fun e => ?_⟩
    rcases hat with e2 | e2
    · exact hd g e2 e
    · have := (ownsRow_lt ho e).2; omega
  refine ⟨hblk, ((h.bel.alloc h.bel.size o).grown hgrow (by have := h.bel.size; simp; omega) (fun q e => (ownsRow_lt (h.row u hu) e).1)).setCell h.gle _, h.gle, ?_, fun q hq => ?_, fun q r g' hq hr hne hg => ?_, (hfar nv _ _ h.names (fun g' e => h.apart u g' hu e)).1, fun q g' hq hg => ?_⟩
  · rw [set_field hblk, List.setIfInBounds_toArray, slV_set _ _ hu]
  · unfold putV putL
    by_cases e : q = u
    · rw [if_pos e, if_pos e]
      exact own_row_kept hown fun g' cur hg hc => set_else hc (fun e => by
        have hg2 : some g = some g' := hg
        injection hg2 with hg2
        exact hzga (hg2.trans e))
    · rw [if_neg e, if_neg e]
      exact (hfar (vs q) _ _ (h.row q hq) (fun g' e2 => h.dis u q g' hu hq (fun x => e x.symm) e2)).1
  · unfold putV at hg ⊢
    by_cases e : q = u
    · rw [if_pos e] at hg
      rw [if_neg (by rw [← e]; exact fun x => hne x.symm)]
      have hg2 : some g = some g' := hg
      injection hg2 with hg2
      subst hg2
      exact (hfar (vs r) _ _ (h.row r hr) (fun g' e2 => h.dis u r g' hu hr (by rw [← e]; exact hne) e2)).2
    · rw [if_neg e] at hg
      by_cases e2 : r = u
      · rw [if_pos e2]
        intro e3
        have e4 : some g = some g' := e3
        injection e4 with e4
        subst e4
        exact (hfar (vs q) _ _ (h.row q hq) (fun g' e5 => h.dis u q g' hu hq (fun x => e x.symm) e5)).2 hg
      · rw [if_neg e2]; exact h.dis q r g' hq hr hne hg
  · unfold putV at hg
    by_cases e : q = u
    · rw [if_pos e] at hg
      have hg2 : some g = some g' := hg
      injection hg2 with hg2
      subst hg2
      exact (hfar nv _ _ h.names (fun g' e2 => h.apart u g' hu e2)).2
    · rw [if_neg e] at hg
      exact h.apart q g' hq hg
/-- A row is sorted in place. -/
theorem MdS.sort (h : MdS w X ga k nv nm vs ls) {u g cap : Nat} (hu : u < k) (hv : vs u = .slice (some ⟨g, 0, none⟩) (ls u).length cap) {m : List Nat} (hml : m.length = (ls u).length)
    (hown : Y.ownsRow w.heap.size 3 1 (.slice (some ⟨g, 0, none⟩) (ls u).length cap) (ls u).length (elV m)) (hb : But g X Y) : MdS w Y ga k nv nm vs (putL ls u m) := by
  have hub : (vs u).ownBlock = some g := by rw [hv]; rfl
  have hg0 := (ownsRow_lt (h.row u hu) hub).1
  have hne : ga ≠ g := fun e => by subst e; exact h.not_ga (h.row u hu) hub
  refine ⟨hb.below h.bel hg0 (Nat.le_refl _), h.gle, hb.same _ _ hne h.blk, fun q hq => ?_, h.dis, own_row_kept h.names fun g' cur hg hc => hb.same _ _ (fun e => by subst e; exact h.apart u g' hu hub hg) hc, h.apart⟩
  unfold putL
  by_cases e : q = u
  · rw [if_pos e, e, hv, hml]; exact hown
  · rw [if_neg e]
    exact own_row_kept (h.row q hq) fun g' cur hg hc => hb.same _ _ (fun e2 => by subst e2; exact h.dis u q g' hu hq (fun x => e x.symm) hub hg) hc
end
end Go.Proofs.Ytjheaeeeeggncaa
