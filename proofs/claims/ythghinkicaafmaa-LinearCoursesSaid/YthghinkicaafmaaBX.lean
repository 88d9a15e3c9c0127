/-
  DERIVED. own: arguments of their own, cut (stage 6).
-/
import Derived.Test.YthghinkicaafmaaBW
namespace Go.Proofs.Ythghinkicaafmaa
open Go.RowKit
set_option maxRecDepth 100000

theorem sl_info : (Try.prog.info? 32).map (fun i => (i.zero, i.size, i.bytes)) = some (some (.slice none 0 0), 1, 24) := by kernel_rfl
/-- What own hands over. -/
def OwnPost (w : World) (C s n t l : Int) (ps : List (Int × Int × Int)) (ins : List (List Int)) (e : Ending) (w' : World) : Prop :=
  ∃ P' I', e = .returned (argsV C P' s I' n t l) ∧ (∀ Y, (∀ k o, w.heap.size ≤ k → w'.heap[k]? = some o → Y.heap[k]? = some o) → PtSl Y P' ps ∧ LiSl Y I' ins) ∧ (∀ m c, P' = .slice none m c → c = 0) ∧ Below w.heap.size w w'
/-- Between two rounds of own's loop. -/
def OwR (w2 : World) (ins : List (List Int)) (i v : Value) (wr : World) : Prop :=
  ∃ k : Nat, i = .int .i64 (k : Int) ∧ k ≤ ins.length ∧ k ≤ 18 ∧ Hid (InRow w2.heap.size wr v (cutI (ins.take k))) ∧ Hid (Below w2.heap.size w2 wr)
theorem own_final {w w2 wr X : World} {C s n t l : Int} {Ap : Option Addr} {kp cp k : Nat} {v : Value} {ps : List (Int × Int × Int)} {ins : List (List Int)} (_hk : k ≤ ins.length) (hk2 : k ≤ 18) (hke : k = ins.length ∨ k = 18)
    (hP : w2.ownsRow (w.heap.size + 2) 41 3 (.slice Ap kp cp) kp (cellsP (ps.take kp))) (hpe : ps.take kp = ps.take 18) (hkl : (ps.take kp).length = kp) (hnil : Ap = none → cp = 0) (hI : InRow w2.heap.size wr v (cutI (ins.take k))) (_hB2 : Below w.heap.size w w2) (hz : w.heap.size + 2 ≤ w2.heap.size) (hB : Below w2.heap.size w2 wr)
    (hX : ∀ j o, w.heap.size + 2 ≤ j → wr.heap[j]? = some o → X.heap[j]? = some o) (hXb : Below w.heap.size w X) :
    OwnPost w C s n t l (ps.take 18) (cutI ins) (.returned (argsV C (.slice Ap kp cp) s v n t l)) X := by
  have hce : cutI (ins.take k) = cutI ins := by
    unfold cutI
    rw [List.take_take]
    rcases hke with h | h
    · rw [List.take_of_length_le (l := ins) (i := 18) (by omega), Nat.min_eq_right hk2, h, List.take_of_length_le (Nat.le_refl _)]
    · rw [h, Nat.min_self]
  refine ⟨_, _, rfl, fun Y hY => ⟨?_, ?_⟩, fun m c h => (by injection h with h1 h2 h3; rw [← h3]; exact hnil h1), hXb⟩
  · rw [← hpe]
    have h1 : Y.ownsRow (w.heap.size + 2) 41 3 (.slice Ap kp cp) kp (cellsP (ps.take kp)) := own_row_kept hP (fun g cur hg hc => hY _ _ (by have := (hP.lt g hg).1; omega) (hX _ _ (hP.lt g hg).1 ((hB.block g (hP.lt g hg).2).trans hc)))
    refine own_ptSl (base := w.heap.size + 2) ?_
    rw [hkl]
    exact h1
  · rw [← hce]
    exact (hI.kept (Y := Y) fun j o hj ho => hY _ _ (by omega) (hX _ _ (by omega) ho)).liSl
theorem own_end {w w2 wr X1 : World} {C s n t l : Int} {Ap : Option Addr} {kp cp k i : Nat} {v : Value} {ps : List (Int × Int × Int)} {ins : List (List Int)} {fn : Func} {a : Act} {y0 y1 y2 y3 y4 y5 y6 : Value} (hfn : fn.results = #[.cell i 27]) (hp : a.tmps[i]?.getD undef = .pointer (some ⟨w.heap.size + 1, 0, none⟩)) (hd : a.defers = []) (hk : k ≤ ins.length) (hk2 : k ≤ 18) (hke : k = ins.length ∨ k = 18)
    (hP : w2.ownsRow (w.heap.size + 2) 41 3 (.slice Ap kp cp) kp (cellsP (ps.take kp))) (hpe : ps.take kp = ps.take 18) (hkl : (ps.take kp).length = kp) (hnil : Ap = none → cp = 0) (hI : InRow w2.heap.size wr v (cutI (ins.take k))) (hB2 : Below w.heap.size w w2) (hz : w.heap.size + 2 ≤ w2.heap.size) (hB : Below w2.heap.size w2 wr)
    (hR : wr.heap[w.heap.size + 1]? = some (.cells #[y0, y1, y2, y3, y4, y5, y6] 27 (0, 0))) (hb1 : But w.heap.size wr X1) :
    bodyPost Try.prog fn (OwnPost w C s n t l (ps.take 18) (cutI ins)) .ret a (((((((X1.setCell ⟨w.heap.size + 1, 0, none⟩ (.int .i64 C)).setCell ⟨w.heap.size + 1, 1, none⟩ (.slice Ap kp cp)).setCell ⟨w.heap.size + 1, 2, none⟩ (.int .i64 s)).setCell ⟨w.heap.size + 1, 3, none⟩ v).setCell ⟨w.heap.size + 1, 4, none⟩ (.int .i64 n)).setCell ⟨w.heap.size + 1, 5, none⟩ (.int .i64 t)).setCell ⟨w.heap.size + 1, 6, none⟩ (.int .i64 l)) := by
  have hb2 : But (w.heap.size + 1) X1 (((((((X1.setCell ⟨w.heap.size + 1, 0, none⟩ (.int .i64 C)).setCell ⟨w.heap.size + 1, 1, none⟩ (.slice Ap kp cp)).setCell ⟨w.heap.size + 1, 2, none⟩ (.int .i64 s)).setCell ⟨w.heap.size + 1, 3, none⟩ v).setCell ⟨w.heap.size + 1, 4, none⟩ (.int .i64 n)).setCell ⟨w.heap.size + 1, 5, none⟩ (.int .i64 t)).setCell ⟨w.heap.size + 1, 6, none⟩ (.int .i64 l)) :=
    ((((((But.store _ _).trans (But.store _ _)).trans (But.store _ _)).trans (But.store _ _)).trans (But.store _ _)).trans (But.store _ _)).trans (But.store _ _)
  exact ret7 hfn hp hd (row_store7 (hb1.same _ _ (by omega) hR) _ _ _ _ _ _ _) (own_final hk hk2 hke hP hpe hkl hnil hI hB2 hz hB (fun j o hj ho => hb2.same _ _ (by omega) (hb1.same _ _ (by omega) ho)) (hb2.below (hb1.below (below_join hB2 hB hB2.size) (Nat.le_refl _)) (by omega)))
theorem cutN_in {n : Int} (h : 100 < n) (h2 : n < 1000) : cutN n = 100 := by unfold cutN; rw [if_pos ⟨h, h2⟩]
theorem cutN_out {n : Int} (h : n ≤ 100 ∨ 1000 ≤ n) : cutN n = n := by unfold cutN; rw [if_neg (by omega)]
theorem own_sl {w : World} {base : Nat} {e : TypeId} {size n : Nat} {v : Value} {xs : List Value} (h : w.ownsRow base e size v n xs) : ∃ A c, v = .slice A n c := by
  obtain ⟨k1, ⟨rfl, k2⟩ | ⟨g, cap, cur, rfl, k⟩⟩ := h
  · exact ⟨none, 0, by rw [k2]⟩
  · exact ⟨_, _, rfl⟩
theorem cutL_take (l : List Int) : ∃ kc : Nat, kc ≤ l.length ∧ (cutL l).length = kc ∧ cutL l = l.take kc ∧ kc ≤ 1001 ∧ (if 1000 < l.length then (if (1001 : Int) < ((l.length : Nat) : Int) then (1001 : Int) else ((l.length : Nat) : Int)) = (kc : Int) else (if (60 : Int) < ((l.length : Nat) : Int) then (60 : Int) else ((l.length : Nat) : Int)) = (kc : Int)) := by
  refine ⟨min (if 1000 < l.length then 1001 else 60) l.length, Nat.min_le_right _ _, by unfold cutL; rw [List.length_take], ?_, by split <;> omega, by split <;> (split <;> omega)⟩
  unfold cutL
  rcases Nat.le_total (if 1000 < l.length then 1001 else 60) l.length with h | h
  · rw [Nat.min_eq_left h]
  · rw [Nat.min_eq_right h, List.take_of_length_le h, List.take_of_length_le (Nat.le_refl _)]
set_option maxHeartbeats 16000000 in
theorem c_own (C s n t l : Int) (P I : Value) (ps : List (Int × Int × Int)) (ins : List (List Int)) (w : World) (hP : PtSl w P ps) (hPn : ∀ m c, P = .slice none m c → c = 0) (hI : LiSl w I ins) :
    Calls Try.prog 10 #[argsV C P s I n t l] w (OwnPost w C s (cutN n) t l (ps.take 18) (cutI ins)) := by
  obtain ⟨W, hW⟩ : ∃ W, W = (w.alloc (.cells #[.int .i64 C, P, .int .i64 s, I, .int .i64 n, .int .i64 t, .int .i64 l] 27)).alloc (.cells #[.int .i64 0, .slice none 0 0, .int .i64 0, .slice none 0 0, .int .i64 0, .int .i64 0, .int .i64 0] 27) := ⟨_, rfl⟩
  have hz : W.heap.size = w.heap.size + 2 := by subst hW; simp
  have HB0 := Lib.hid (show Below w.heap.size w W by subst hW; exact ((Below.refl _ _).alloc (Nat.le_refl _) _).alloc (by simp) _)
  have HX0 := Lib.hid (show W.heap[w.heap.size]? = some (.cells #[.int .i64 C, P, .int .i64 s, I, .int .i64 n, .int .i64 t, .int .i64 l] 27 (0, 0)) by subst hW; exact old_heap _ (heap_alloc_new _ _))
  have HR0 := Lib.hid (show W.heap[w.heap.size + 1]? = some (.cells #[.int .i64 0, .slice none 0 0, .int .i64 0, .slice none 0 0, .int .i64 0, .int .i64 0, .int .i64 0] 27 (0, 0)) by subst hW; exact row_new _ _ _ (by simp))
  have HP := Lib.hid hP
  have HI := Lib.hid hI
  obtain ⟨A, c, rfl, hpl, hpc⟩ := hP.shape
  obtain ⟨A2, c2, rfl, hil, hic⟩ := hI.shape
  obtain ⟨kp, hkp, hkk⟩ : ∃ k : Nat, (if (18 : Int) < ((ps.length : Nat) : Int) then (18 : Int) else ((ps.length : Nat) : Int)) = ((k : Nat) : Int) ∧ k = min ps.length 18 := ⟨min ps.length 18, by split <;> omega, rfl⟩
  have hkp1 : kp ≤ ps.length := by omega
  have hkp2 : kp ≤ 18 := by omega
  have hkp3 : kp ≤ c := by omega
  have HN := Lib.hid (show A = none → kp = 0 ∧ c = 0 from fun h => by have := hPn ps.length c (by rw [h]); omega)
  have HKL := Lib.hid (show (ps.take kp).length = kp by rw [List.length_take]; omega)
  have HKE := Lib.hid (show ps.take kp = ps.take 18 by
    rw [hkk]
    rcases Nat.lt_or_ge ps.length 18 with h | h
    · rw [Nat.min_eq_left (by omega), List.take_of_length_le (Nat.le_refl _), List.take_of_length_le (by omega)]
    · rw [Nat.min_eq_right h])
  have HKC := Lib.hid (show (cellsP (ps.take kp)).length = kp * 3 by rw [cellsP_len, HKL.out])
  have HPC := Lib.hid (fun (ad : Addr) (hA : A = some ad) (j : Nat) (u : Value) (hj : (cellsP (ps.take kp))[j]? = some u) => pt_cells hP HB0.out ad hA j u hj)
  have HP1 := Lib.hid (show ∀ u ∈ cellsP (ps.take kp), u.oneCell' = true from fun u hu => by
    unfold cellsP at hu
    obtain ⟨p, -, hp⟩ := List.mem_flatMap.1 hu
    simp at hp
    rcases hp with rfl | rfl | rfl <;> rfl)
  obtain ⟨i0, hi0, hz0, hz1, hz2⟩ := info_parts pt_info
  obtain ⟨i1, hj0, hy0, hy1, hy2⟩ := info_parts sl_info
  obtain ⟨x0, x1, x2, x3, x4, x5, x6⟩ := args_cells HX0.out
  obtain ⟨q0, q1, q2, q3, q4, q5, q6⟩ := frz7 HX0.out
  have HWE := Lib.hid hW
  have HZ := Lib.hid hz
  rw [hW] at x0 x1 x2 x3 x4 x5 x6 q0 q1 q2 q3 q4 q5 q6
  unfold argsV
  clear hP hPn hI hkk hW hz
  go_enter Try.func10, Try.ntmps10
  go_wp2_with (at_builtin; refine wpList_copy rfl _ _ 22 rfl 41 i0 _ 3 24 Try.underlying22 hi0 hz0 hz1 hz2 rfl (by decide) rfl A kp c (by simp [Act.eval]) HN.out (cellsP (ps.take kp)) HKC.out (by rw [← HWE.out]; exact HPC.out) HP1.out (by unfold maxLen; omega) (by omega) ?_; intro Ap cp w1 hown1 hnil1 hb1; rw [← HWE.out] at hown1 hb1; clear x0 x1 x2 x3 x4 x5 x6 q0 q1 q2 q3 q4 q5 q6; have hzW := HZ.out; have HX1 := Lib.hid ((hb1.block w.heap.size (by omega)).trans HX0.out); have HR1 := Lib.hid ((hb1.block (w.heap.size + 1) (by omega)).trans HR0.out); have HO1 := Lib.hid hown1; have HN1 := Lib.hid hnil1; have HB1 := Lib.hid hb1; clear hown1 hnil1 hb1 hzW; obtain ⟨q0, q1, q2, q3, q4, q5, q6⟩ := frz7 HX1.out; obtain ⟨x0, x1, x2, x3, x4, x5, x6⟩ := args_cells HX1.out)
  clear q0 q1 q2 q3 q4 q5 q6 x0 x1 x2 x3 x4 x5 x6
  obtain ⟨w2, hw2⟩ : ∃ w2, w2 = w1.setCell ⟨w.heap.size, 1, none⟩ (.slice Ap kp cp) := ⟨_, rfl⟩
  have HZW := HZ.out
  have hbt : But w.heap.size w1 w2 := by subst hw2; exact But.store _ _
  have HX2 := Lib.hid (show w2.heap[w.heap.size]? = some (.cells #[.int .i64 C, .slice Ap kp cp, .int .i64 s, .slice A2 ins.length c2, .int .i64 n, .int .i64 t, .int .i64 l] 27 (0, 0)) by subst hw2; exact set_field HX1.out _)
  have HR2 := Lib.hid (hbt.same _ _ (by omega) HR1.out)
  have HO2 := Lib.hid (show w2.ownsRow (w.heap.size + 2) 41 3 (.slice Ap kp cp) kp (cellsP (ps.take kp)) from by rw [← HZ.out]; exact own_row_kept HO1.out (fun g cur hg hc => hbt.same g _ (by have := (HO1.out.lt g hg).1; omega) hc))
  have HB2 := Lib.hid (hbt.below (below_join HB0.out HB1.out (by omega)) (Nat.le_refl _))
  have hz2' : w.heap.size + 2 ≤ w2.heap.size := by have := HB1.out.size; have := hbt.size; omega
  rw [← hw2]
  clear hw2 hbt HX1 HR1 HO1 HB1 HP1 HPC HKC HX0 HR0 HZ HZW HWE
  go_loopw [5, 4] (fun i v wr => OwR w2 ins i v wr) (fun i _ _ => ins.length - (intOf i).toNat)
  case atStart => exact ⟨0, rfl, Nat.zero_le _, Nat.zero_le _, Lib.hid (InRow.nil _ _), Lib.hid (Below.refl _ _)⟩
  case round =>
    obtain ⟨k, rfl, hk, hk18, hI, hX⟩ := hrel
    have hki : ((k : Nat) : Int).toNat = k := by omega
    have HXr := Lib.hid ((hX.out.block _ (at_lt HX2.out)).trans HX2.out)
    have HRr := Lib.hid ((hX.out.block _ (at_lt HR2.out)).trans HR2.out)
    have HBr := Lib.hid (below_join HB2.out hX.out HB2.out.size)
    have hXs := hX.out.size
    obtain ⟨Av, cv, hv⟩ := hI.out.len
    rw [cutI_len hk18 hk] at hv
    subst hv
    have HKK := Lib.hid (cutI_len hk18 hk)
    obtain ⟨us, hus, hO, hE⟩ := hI.out
    have HUS := Lib.hid hus
    have HO := Lib.hid hO
    have HE := Lib.hid hE
    have HOK := Lib.hid (show wr.ownsRow w2.heap.size 32 1 (.slice Av k cv) k us by rw [HKK.out] at hO; exact hO)
    have HII := Lib.hid hI.out
    have HX := Lib.hid hX.out
    obtain ⟨x0, x1, x2, x3, x4, x5, x6⟩ := args_cells HXr.out
    have hzr : w.heap.size + 2 ≤ wr.heap.size := by omega
    clear hus hO hE hI hX
    by_cases hlt : k < ins.length ∧ k < 18
    · obtain ⟨h1, h2⟩ := hlt
      have HLT := Lib.hid (⟨h1, h2⟩ : k < ins.length ∧ k < 18)
      have h2' : (k : Int) < 18 := by omega
      obtain ⟨l, hl⟩ : ∃ l, ins[k]? = some l := ⟨_, List.getElem?_eq_getElem h1⟩
      obtain ⟨b, o, c', u, e, hb, -, -, hu, hL⟩ := HI.out.at_ hl
      injection e with e1 _ e2
      subst e1 e2
      obtain ⟨A3, c3, rfl, hl1, hl2⟩ := hL.shape
      obtain ⟨kc, k1, k2, k3, k4, k5⟩ := cutL_take l
      have HCC := Lib.hid (fun (X : World) (hX : Below wr.heap.size wr X) => (show Calls Try.prog 29 #[.slice A3 kc c3] X (fun e w' => ∃ v', e = .returned v' ∧ w'.ownsRow X.heap.size 3 1 v' kc (ints (cutL l)) ∧ Below X.heap.size X w') from by
        have hb' := below_join HBr.out hX HBr.out.size
        have h := c_Clone (cutL l) (by omega) (.slice A3 kc c3) X (by rw [k3]; exact (ints_sl hL k1).2.on hb' (Nat.le_refl _))
        rw [k2] at h
        exact h))
      have HS := Lib.hid (fun (X : World) (hX : Below wr.heap.size wr X) => (show X.cell? ⟨w.heap.size, 3, none⟩ = some (.slice (some ⟨b, o, none⟩) ins.length c2) ∧ X.cell? ⟨b, o + k, none⟩ = some (.slice A3 l.length c3) from
        ⟨(args_cells ((hX.block _ (at_lt HXr.out)).trans HXr.out)).2.2.2.1, ((below_join HBr.out hX HBr.out.size).cell (p := ⟨b, o + k, none⟩) hb).trans hu⟩))
      have HK2 := Lib.hid k2
      have HNX := Lib.hid (cutI_snoc hl h2)
      have hkc : kc ≤ c3 := by omega
      have yu0 := (HS.out wr (Below.refl _ _)).2
      rcases Classical.em (1000 < l.length) with g1 | g1
      · rw [if_pos g1] at k5
        have g3 : (1000 : Int) < ((l.length : Nat) : Int) := by omega
        clear k2 k3 hl hu hL HI
        go_wp2_with (fail)
        clear x0 x1 x2 x3 x4 x5 x6
        obtain ⟨y3, yu⟩ := HS.out wr (Below.refl _ _)
        obtain ⟨d3, du⟩ := HS.out wr.drew (Below.refl _ _).drew
        go_region_law (first
            | (go_simp; go_at_call 29; (with_reducible refine (HCC.out wr.drew (Below.refl _ _).drew).mono ?_); rintro e w7 ⟨v7, rfl, hv7, b7⟩; obtain ⟨A7, c7, rfl⟩ := own_sl hv7; have HV7 := Lib.hid hv7; have HB7 := Lib.hid (below_join (Below.refl wr.heap.size wr).drew b7 (Nat.le_refl _)); obtain ⟨e3, eu⟩ := HS.out w7 HB7.out; clear b7 hv7)
            | (refine step_append_lies _ rfl (.tmp 38) (.tmp 54) 25 rfl w2.heap.size 32 i1 (.slice none 0 0) 1 24 Try.underlying25 hj0 hy0 hy1 hy2 rfl (by decide) (.slice Av k cv) k us (by simp [Act.eval]) ((own_row_kept HOK.out fun j cur hj hc => (HB7.out.block j (HOK.out.lt j hj).2).trans hc).alloc _) ⟨w7.heap.size, 0, none⟩ 1 1 [.slice A7 kc c7] (by simp [Act.eval]) rfl (World.news_of_block (row_new _ _ _ rfl)) (by intro u hu; simp at hu; subst hu; rfl) (by omega) (by simp only [maxLen]; omega) (by omega) (by (try simp) <;> (have := HB7.out.size; omega)) _ rfl ?_; intro g2 cap2 w8 hown8 hgrow8 hat8 hlt8; have HX8 := Lib.hid (in_below HX.out HOK.out (Nat.le_refl _) HB7.out hgrow8); have HI8 := Lib.hid (InRow.step (l := cutL l) hXs HUS.out HO.out HE.out HB7.out (by rw [HK2.out]; exact HV7.out) (by rw [HKK.out]; exact hown8) hgrow8); clear hown8 hgrow8 hat8 hlt8)
            | fail)
        all_goals (
          clear y3 yu d3 du e3 eu
          go_wp2_with (fail)
          go_roundw
          case rel => exact ⟨k + 1, by go_num, by (have := HLT.out; omega), by (have := HLT.out; omega), Lib.hid (by rw [HNX.out]; exact HI8.out), HX8⟩
          case measure => (have := HLT.out; simp only [intOf]; omega))
      · rw [if_neg g1] at k5
        have g3 : ¬ (1000 : Int) < ((l.length : Nat) : Int) := by omega
        clear k2 k3 hl hu hL HI
        go_wp2_with (fail)
        clear x0 x1 x2 x3 x4 x5 x6
        obtain ⟨y3, yu⟩ := HS.out wr (Below.refl _ _)
        obtain ⟨d3, du⟩ := HS.out wr.drew (Below.refl _ _).drew
        go_region_law (first
            | (go_simp; go_at_call 29; (with_reducible refine (HCC.out wr.drew (Below.refl _ _).drew).mono ?_); rintro e w7 ⟨v7, rfl, hv7, b7⟩; obtain ⟨A7, c7, rfl⟩ := own_sl hv7; have HV7 := Lib.hid hv7; have HB7 := Lib.hid (below_join (Below.refl wr.heap.size wr).drew b7 (Nat.le_refl _)); obtain ⟨e3, eu⟩ := HS.out w7 HB7.out; clear b7 hv7)
            | (refine step_append_lies _ rfl (.tmp 38) (.tmp 54) 25 rfl w2.heap.size 32 i1 (.slice none 0 0) 1 24 Try.underlying25 hj0 hy0 hy1 hy2 rfl (by decide) (.slice Av k cv) k us (by simp [Act.eval]) ((own_row_kept HOK.out fun j cur hj hc => (HB7.out.block j (HOK.out.lt j hj).2).trans hc).alloc _) ⟨w7.heap.size, 0, none⟩ 1 1 [.slice A7 kc c7] (by simp [Act.eval]) rfl (World.news_of_block (row_new _ _ _ rfl)) (by intro u hu; simp at hu; subst hu; rfl) (by omega) (by simp only [maxLen]; omega) (by omega) (by (try simp) <;> (have := HB7.out.size; omega)) _ rfl ?_; intro g2 cap2 w8 hown8 hgrow8 hat8 hlt8; have HX8 := Lib.hid (in_below HX.out HOK.out (Nat.le_refl _) HB7.out hgrow8); have HI8 := Lib.hid (InRow.step (l := cutL l) hXs HUS.out HO.out HE.out HB7.out (by rw [HK2.out]; exact HV7.out) (by rw [HKK.out]; exact hown8) hgrow8); clear hown8 hgrow8 hat8 hlt8)
            | fail)
        all_goals (
          clear y3 yu d3 du e3 eu
          go_wp2_with (fail)
          go_roundw
          case rel => exact ⟨k + 1, by go_num, by (have := HLT.out; omega), by (have := HLT.out; omega), Lib.hid (by rw [HNX.out]; exact HI8.out), HX8⟩
          case measure => (have := HLT.out; simp only [intOf]; omega))
    · obtain ⟨q0, q1, q2, q3, q4, q5, q6⟩ := frz7 HXr.out
      obtain ⟨p0, p1, p2, p3, p4, p5, p6⟩ := frz7 HRr.out
      have HKD := Lib.hid (show k = ins.length ∨ k = 18 by omega)
      clear hlt
      have hc : ins.length ≤ k ∨ (k < ins.length ∧ (18 : Int) ≤ (k : Int)) := by have := HKD.out; omega
      obtain ⟨z0, z1, z2, z3, z4, z5, z6⟩ := args_cells HRr.out
      by_cases hn : 100 < n ∧ n < 1000
      · obtain ⟨n1, n2⟩ := hn
        rcases hc with hc | ⟨hc, hc2⟩
        all_goals (
          go_wp2_with (fail)
          rw [cutN_in n1 n2]
          exact own_end rfl rfl rfl hk hk18 HKD.out HO2.out HKE.out HKL.out HN1.out HII.out HB2.out hz2' HX.out HRr.out ((But.store _ _).trans (But.store _ _)))
      · rcases (show n ≤ 100 ∨ (100 < n ∧ 1000 ≤ n) by omega) with hn1 | ⟨hn1, hn2⟩
        all_goals (
          clear hn
          rcases hc with hc | ⟨hc, hc2⟩
          all_goals (
            go_wp2_with (fail)
            rw [cutN_out (by omega)]
            exact own_end rfl rfl rfl hk hk18 HKD.out HO2.out HKE.out HKL.out HN1.out HII.out HB2.out hz2' HX.out HRr.out (But.store _ _)))
end Go.Proofs.Ythghinkicaafmaa
