/-
  DERIVED. The reference's Course (stage 6).
-/
import Derived.Test.YthghinkicaafmaaBK
import Derived.Laws.AppendOwn
namespace Go.Proofs.Ythghinkicaafmaa
open Go.RowKit
set_option maxRecDepth 100000

/-- Between two rounds of the reference's loop. -/
def CrR (w1 : World) (C s : Int) (am : List Int) (i v : Value) (wr : World) : Prop :=
  ∃ k : Nat, i = .int .i64 (k : Int) ∧ k ≤ am.length ∧ Hid (wr.ownsRow w1.heap.size 3 1 v (k + 1) (ints (s :: lvs C s (am.take k)))) ∧ Hid (Below w1.heap.size w1 wr)
theorem lvs_snoc (C : Int) : ∀ (l : List Int) (s a : Int), lvs C s (l ++ [a]) = lvs C s l ++ [lv1 C (lvE C s l) a] := by
  intro l
  induction l with
  | nil => intro s a; rfl
  | cons x l ih => intro s a; show _ :: lvs C _ (l ++ [a]) = _; rw [ih]; rfl
theorem crs_next {C s : Int} {am : List Int} {k : Nat} {a : Int} (h : am[k]? = some a) : ints (s :: lvs C s (am.take (k + 1))) = ints (s :: lvs C s (am.take k)) ++ [.int .i64 (lv1 C (lvE C s (am.take k)) a)] := by
  rw [← ints_snoc, List.take_add_one, h]
  show ints (s :: lvs C s (am.take k ++ [a])) = _
  rw [lvs_snoc]; rfl
theorem lvs_last (C s : Int) (am : List Int) {k : Nat} (h : k ≤ am.length) : (ints (s :: lvs C s (am.take k)))[k]? = some (.int .i64 (lvE C s (am.take k))) := by
  unfold ints
  rw [List.getElem?_map, lvs_get C _ s k (by rw [List.length_take]; omega), List.take_of_length_le (by rw [List.length_take]; omega)]; rfl
theorem crR_step {w1 wr w7 w8 : World} {g n cap : Nat} {xs : List Value} {o : Obj} (hX : Below w1.heap.size w1 wr) (hO : wr.ownsRow w1.heap.size 3 1 (.slice (some ⟨g, 0, none⟩) n cap) n xs) (hB : Below wr.heap.size wr w7)
    (hg : (w7.alloc o).grownBy w8 (Value.slice (some ⟨g, 0, none⟩) n cap).ownBlock) : Below w1.heap.size w1 w8 := by
  have h1 := hX.size
  have h2 := hB.size
  refine ((below_join hX hB hX.size).alloc (by omega) _).grown hg (by rw [World.size_alloc]; omega) (fun k hk => (hO.lt k hk).1)
set_option maxHeartbeats 8000000 in
theorem d_Course (C : Int) (ps : List (Int × Int × Int)) (s : Int) (ins : List (List Int)) (n : Int) (P I : Value) (w : World) (hP : PtSl w P ps) (hI : LiSl w I ins) (r : Int) (hr : fltL C ps s ins n = r) (cs : List Int) (hcs : cs = if r = 0 then crsP C ps s ins n else []) :
    Calls Try.prog 14 #[lnV C P, .int .i64 s, I, .int .i64 n] w fun e w' => ∃ y, e = .returned (.tuple #[y, .int .i64 r]) ∧ IntSl w' y cs ∧ Below w.heap.size w w' := by
  obtain ⟨W, hW⟩ : ∃ W, W = w.alloc (.cells #[.int .i64 C, P] 24) := ⟨_, rfl⟩
  have B0 : Below w.heap.size w W := by subst hW; exact (Below.refl _ _).alloc (Nat.le_refl _) _
  have HB := Lib.hid B0
  have HL := Lib.hid (show W.heap[w.heap.size]? = some (.cells #[.int .i64 C, P] 24 (0, 0)) by subst hW; exact heap_alloc_new _ _)
  have hz : w.heap.size < W.heap.size := by subst hW; simp
  have HA := Lib.hid (fun (r1 : Int) (h1 : fltL C ps s ins n = r1) => d_asked C ps s ins n P I W (hP.on B0 (Nat.le_refl _)) (hI.on B0 (Nat.le_refl _)) r1 h1)
  have HP := Lib.hid hP
  have HI := Lib.hid hI
  have HR := Lib.hid hr
  obtain ⟨A, c, rfl, -, -⟩ := hP.shape
  obtain ⟨A2, c2, rfl, -, -⟩ := hI.shape
  obtain ⟨x0, x1⟩ := lin_cells HL.out
  unfold lnV at HA
  unfold lnV
  clear B0 hP hI
  by_cases h1 : r = 0
  · subst h1
    obtain ⟨g1, g2, g3, g4⟩ := flt_cases hr
    obtain ⟨g5, g6, g7⟩ := lnOk_iff.1 g1
    obtain ⟨m, rfl⟩ : ∃ m : Nat, n = (m : Int) := ⟨n.toNat, by omega⟩
    have hm1 : m ≤ 1000 := by omega
    obtain ⟨am, ham⟩ : ∃ am, am = amts ps ins m := ⟨_, rfl⟩
    have HAL := Lib.hid (show am.length = m by rw [ham]; exact amts_len _ _ _)
    have HCE := Lib.hid (show cs = s :: lvs C s am by rw [hcs, if_pos rfl]; unfold crsP; rw [Int.toNat_natCast, ← ham])
    have hbd : ∀ a ∈ am, 0 ≤ a ∧ a ≤ 1600000000000 := fun a ha => by
      rw [ham] at ha
      unfold amts at ha
      obtain ⟨t, -, rfl⟩ := List.mem_map.1 ha
      have := arr_bounds g2 g7 (t : Int)
      omega
    have HBD := Lib.hid (fun (k : Nat) => show 0 ≤ lvE C s (am.take k) ∧ lvE C s (am.take k) ≤ 2000000000000000 by
      refine ⟨lvE_nonneg g4.1 _, ?_⟩
      have h1 := lvE_bound (M := 1600000000000) g5.1 (am.take k) s g4.1 (fun a ha => hbd a (List.mem_of_mem_take ha))
      have h2 : (am.take k).length ≤ 1000 := by rw [List.length_take, HAL.out]; omega
      omega)
    have HAB := Lib.hid hbd
    have HAR := Lib.hid (fun (k : Nat) (a : Int) (ha : am[k]? = some a) (X : World) (hX : Below w.heap.size w X) => show Calls Try.prog 33 #[lnV C (.slice A ps.length c), .slice A2 ins.length c2, .int .i64 (k : Int)] X fun e w' => e = .returned (.int .i64 a) ∧ Below X.heap.size X w' from by
      have hk : k < m := by rw [← HAL.out]; exact (List.getElem?_eq_some_iff.1 ha).1
      have h2 : a = arr ps ins (k : Int) := by rw [ham, amts_get ps ins hk] at ha; exact (Option.some.inj ha).symm
      rw [h2]
      exact d_arrives C ps ins (k : Int) g7 (by omega) g2 (by omega) _ _ X (HP.out.on hX (Nat.le_refl _)) (HI.out.on hX (Nat.le_refl _)))
    obtain ⟨i0, hi0, hzz0, hzz1, hzz2⟩ := info_parts int_info
    unfold lnV at HAR
    clear hr hcs ham hbd g1 g2 g3 g6 g7
    go_enter Try.func14, Try.ntmps14
    go_wp2_with (fail)
    rw [← hW]
    clear hW
    go_at_call 32
    refine (HA.out _ HR.out).mono ?_
    rintro e w1 ⟨rfl, b1⟩
    have HB1 := Lib.hid (below_join HB.out b1 HB.out.size)
    have HL1 := Lib.hid ((b1.block _ hz).trans HL.out)
    have hz1 := Nat.lt_of_lt_of_le hz b1.size
    clear b1 x0 x1
    go_wp2_with (fail)
    go_loopw [12, 11] (fun i v wr => CrR w1 C s am i v wr) (fun i v wr => am.length - (intOf i).toNat)
    case atStart => exact ⟨0, rfl, Nat.zero_le _, Lib.hid (World.ownsRow_lit w1 #[.int .i64 s] 1 (Nat.le_refl _) (by unfold maxLen; omega) rfl), Lib.hid ((Below.refl _ _).alloc (Nat.le_refl _) _)⟩
    case round =>
      obtain ⟨k, rfl, hk, hO, hX⟩ := hrel
      by_cases hlt : k < am.length
      · obtain ⟨a, ha⟩ : ∃ a, am[k]? = some a := ⟨_, List.getElem?_eq_getElem hlt⟩
        obtain ⟨g, cap, rfl⟩ := own_shape hO.out (by omega)
        have hg := hO.out.lt g rfl
        have hab := HAB.out a (List.mem_of_getElem? ha)
        have hzb := HBD.out k
        obtain ⟨z, hz'⟩ : ∃ z, z = lvE C s (am.take k) := ⟨_, rfl⟩
        rw [← hz'] at hzb
        have hkm : (k : Int) < (m : Int) := by have := HAL.out; omega
        have hk1000 : k ≤ 1000 := by have := HAL.out; omega
        have hki : ((k : Nat) : Int).toNat = k := by omega
        have hkk : (k : Int) < (k : Int) + 1 := by omega
        have HS := Lib.hid (fun (X : World) (hX2 : Below wr.heap.size wr X) => (⟨lin_cells ((hX2.block _ (Nat.lt_of_lt_of_le hz1 hX.out.size)).trans ((hX.out.block _ hz1).trans HL1.out)), by
          have h1 := (hO.out.cellAt k (by omega)).trans (lvs_last C s am hk)
          rw [← hz'] at h1
          exact (hX2.cell (p := ⟨g, k, none⟩) hg.2).trans h1⟩ : (X.cell? ⟨w.heap.size, 0, none⟩ = some (.int .i64 C) ∧ X.cell? ⟨w.heap.size, 1, none⟩ = some (.slice A ps.length c)) ∧ X.cell? ⟨g, k, none⟩ = some (.int .i64 z)))
        have HAC := Lib.hid (fun (X : World) (hX2 : Below wr.heap.size wr X) => HAR.out k a ha X (below_join (below_join HB1.out hX.out HB1.out.size) hX2 (Nat.le_trans HB1.out.size hX.out.size)))
        have hnx := crs_next (C := C) (s := s) ha
        rw [← hz'] at hnx
        have HNX := Lib.hid hnx
        have HO := Lib.hid hO.out
        have HX := Lib.hid hX.out
        clear hnx ha hO hX hz'
        have w1' : IntKind.i64.wrap (z + a) = z + a := by rw [IntKind.wrap_i64]; omega
        have w2' : IntKind.i64.wrap (z + a - C) = z + a - C := by rw [IntKind.wrap_i64]; omega
        have HLT := Lib.hid hlt
        obtain ⟨mx, hmx⟩ : ∃ mx, mx = lv1 C z a := ⟨_, rfl⟩
        have hif : (if C < z + a then z + a - C else 0) = mx := by rw [hmx]; unfold lv1; split <;> omega
        have HMX := Lib.hid hmx
        clear hmx
        obtain ⟨⟨x0, x1⟩, yz⟩ := HS.out wr (Below.refl _ _)
        obtain ⟨⟨d0, d1⟩, yzd⟩ := HS.out wr.drew (Below.refl _ _).drew
        go_wp2_with (fail)
        go_region_law (first
            | (go_simp; go_at_call 33; (with_reducible refine (HAC.out wr.drew (Below.refl _ _).drew).mono ?_); rintro e w7 ⟨rfl, b7⟩; have HB7 := Lib.hid (below_join (Below.refl wr.heap.size wr).drew b7 (Nat.le_refl _)); obtain ⟨⟨e0, e1⟩, yz7⟩ := HS.out w7 HB7.out; clear b7)
            | (refine step_append_lies _ rfl (.tmp 28) (.tmp 42) 32 rfl w1.heap.size 3 i0 (.int .i64 0) 1 8 Try.underlying32 hi0 hzz0 hzz1 hzz2 rfl (by decide) (.slice (some ⟨g, 0, none⟩) (k + 1) cap) (k + 1) _ (by simp [Act.eval]) ((own_row_kept HO.out fun j cur hj hc => (HB7.out.block j (HO.out.lt j hj).2).trans hc).alloc _) ⟨w7.heap.size, 0, none⟩ 1 1 [.int .i64 mx] (by simp [Act.eval]) rfl (World.news_of_block (row_new _ _ _ rfl)) (by intro u hu; simp at hu; subst hu; rfl) (by omega) (by simp only [maxLen]; omega) (by omega) (by (try simp) <;> (have := HX.out.size; have := HB7.out.size; omega)) _ rfl ?_; intro g2 cap2 w8 hown8 hgrow8 hat8 hlt8; have HX8 := Lib.hid (crR_step HX.out HO.out HB7.out hgrow8); have HL8 := Lib.hid ((HX8.out.block _ hz1).trans HL1.out); have HO8 := Lib.hid hown8; clear hown8 hgrow8 hat8 hlt8)
            | fail)
        all_goals (
          clear x0 x1 yz d0 d1 yzd e0 e1 yz7 hif
          go_wp2_with (fail)
          go_roundw
          case rel => exact ⟨k + 1, by go_num, by (have := HLT.out; omega), Lib.hid (by rw [HNX.out, ← HMX.out]; exact HO8.out), HX8⟩
          case measure => (have := HLT.out; simp only [intOf]; omega))
      · obtain rfl : k = am.length := by omega
        have HO := Lib.hid hO.out
        have HBE := Lib.hid (below_join HB1.out hX.out HB1.out.size)
        have hkm : ¬ ((am.length : Nat) : Int) < (m : Int) := by have := HAL.out; omega
        clear hO hX hlt
        go_wp2_with (fail)
        refine retTT rfl rfl rfl rfl ⟨_, rfl, own_intSl (base := w1.heap.size) ?_, HBE.out⟩
        have := HO.out
        rw [List.take_length, ← HCE.out] at this
        rw [show cs.length = am.length + 1 by rw [HCE.out, List.length_cons, lvs_len]]
        exact this
  · have hne : (r != 0) = true := by rw [bne_iff_ne]; exact h1
    have hce : cs = [] := by rw [hcs, if_neg h1]
    have HE := Lib.hid hce
    clear hr h1 hce hcs
    go_enter Try.func14, Try.ntmps14
    go_wp2_with (fail)
    rw [← hW]
    clear hW
    go_at_call 32
    refine (HA.out _ HR.out).mono ?_
    rintro e w1 ⟨rfl, b1⟩
    have HB1 := Lib.hid (below_join HB.out b1 HB.out.size)
    clear b1 x0 x1
    go_wp2_with (fail)
    exact retTT rfl rfl rfl rfl ⟨_, rfl, by rw [HE.out]; exact IntSl.nil _, HB1.out⟩
end Go.Proofs.Ythghinkicaafmaa
