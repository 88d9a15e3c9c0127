/-
  DERIVED. The reference's Course.
-/
import Derived.Test.YtomfaknemjbjcaaBO
import Derived.Test.YtomfaknemjbjcaaBI
import Derived.Laws.AppendOwn
namespace Go.Proofs.Ytomfaknemjbjcaa
open Go.RowKit
set_option maxRecDepth 100000

/-- Between two rounds of the reference's loop. -/
def CoRel (w w1 : World) (f L S F : Int) (x0 : Int × Bool) (l : List Int) (v i : Value) (wr : World) : Prop :=
  ∃ (k : Nat) (h : Int) (t : Bool), i = .int .i64 (k : Int) ∧ k ≤ l.length ∧ Hid ((h, t) = (l.take k).foldl (nx L S F) x0) ∧ Vs S (h, t) ∧ Hid (∀ x ∈ l.take k, wOk x = true) ∧ Bk wr w.heap.size f L S F ∧ St wr (w.heap.size + 1) h t ∧
    wr.ownsRow w1.heap.size 25 2 v (k + 1) (cellsS (x0 :: crs L S F x0 (l.take k))) ∧ Hid (Below w.heap.size w wr) ∧ w1.heap.size ≤ wr.heap.size
theorem refC_flt (L S F h : Int) (t : Bool) (l : List Int) : (if (bOk L S F && sOk S h t) = true then (if lsOk l = true then (0 : Int) else 2) else 1) = fltS L S F h t l := by
  unfold fltS
  rcases hb : bOk L S F with _ | _
  · rfl
  · rw [tOk_sOk (by have := bOk_iff.1 hb; omega)]
theorem own_stSl' {w : World} {base n : Nat} {v : Value} {l : List (Int × Bool)} (h : w.ownsRow base 25 2 v n (cellsS l)) (hn : l.length = n) (h0 : 0 < n) : StSl w v l := by
  obtain ⟨g, cap, rfl, -, -⟩ := h.form h0
  exact own_stSl h hn
theorem crs_take {L S F : Int} {x0 : Int × Bool} {l : List Int} {k : Nat} {p : Int} (hp : l[k]? = some p) : crs L S F x0 (l.take (k + 1)) = crs L S F x0 (l.take k) ++ [nx L S F ((l.take k).foldl (nx L S F) x0) p] ∧ (l.take (k + 1)).foldl (nx L S F) x0 = nx L S F ((l.take k).foldl (nx L S F) x0) p := by
  rw [List.take_add_one, hp]
  constructor
  · rw [crs_append]; rfl
  · rw [List.foldl_append]; rfl
set_option maxHeartbeats 8000000 in
theorem r_Course (f L S F q : Int) (t : Bool) (l : List Int) (v : Value) (w : World) (hv : IntSl w v l) (r : Int) (hr : fltS L S F q t l = r) (cs : List (Int × Bool)) (hcs : cs = if r = 0 then (q, t) :: crs L S F (q, t) l else []) :
    Calls Try.prog 14 #[bkV f L S F, stV (q, t), v] w fun e w' => ∃ y, e = .returned (.tuple #[y, .int .i64 r]) ∧ StSl w' y cs ∧ Below w.heap.size w w' := by
  obtain ⟨W, hW⟩ : ∃ W, W = (w.alloc (.cells #[.int .i64 f, .int .i64 L, .int .i64 S, .int .i64 F] 23)).alloc (.cells #[.int .i64 q, .bool t] 25) := ⟨_, rfl⟩
  have B0 : Below w.heap.size w W := by subst hW; exact below_a2 _ _ _
  have HB := Lib.hid B0
  have HK := Lib.hid (show Bk W w.heap.size f L S F by subst hW; exact old_heap _ (bk_new _ _ _ _ _))
  have HS := Lib.hid (show St W (w.heap.size + 1) q t by subst hW; exact row_new4 _ _ _ (by simp))
  have hz : w.heap.size + 1 < W.heap.size := block_lt HS.out
  have HV := Lib.hid hv
  obtain ⟨A, c, rfl, hc1, hc2⟩ := hv.shape
  unfold maxLen at hc2
  have HVa := Lib.hid (fun (r1 : Bool) (h1 : bOk L S F = r1) => r_Valid f L S F r1 h1 W)
  have HSt := Lib.hid (fun (X : World) (r1 : Bool) (h1 : sOk S q t = r1) => r_ValidState f L S F q t r1 h1 X)
  have HCS := Lib.hid hcs
  obtain ⟨x0, x1, x2, x3⟩ := HK.out.cells
  obtain ⟨y0, y1⟩ := HS.out.cells
  unfold bkV at HVa
  unfold bkV stV at HSt
  unfold bkV stV
  rw [← refC_flt] at hr
  clear B0 hv hcs
  rcases h1 : bOk L S F with _ | _
  · rw [h1, Bool.false_and, if_neg (by decide)] at hr
    subst hr
    have H1 := Lib.hid h1
    have HE := Lib.hid (show cs = [] by rw [HCS.out]; rfl)
    clear h1
    go_enter Try.func14, Try.ntmps14
    go_wp2_with (fail)
    rw [← hW]
    clear hW
    go_at_call 17
    refine (HVa.out _ H1.out).mono ?_
    rintro e w1 ⟨rfl, b1⟩
    have HB1 := Lib.hid (below_join HB.out b1 HB.out.size)
    clear b1 x0 x1 x2 x3 y0 y1
    go_wp2_with (fail)
    exact retTT rfl rfl rfl rfl ⟨_, rfl, by rw [HE.out]; exact StSl.nil _, HB1.out⟩
  · rw [h1, Bool.true_and] at hr
    have g4 := bOk_iff.1 h1
    have H1 := Lib.hid h1
    clear h1
    rcases h2 : sOk S q t with _ | _
    · rw [h2, if_neg (by decide)] at hr
      subst hr
      have H2 := Lib.hid h2
      have HE := Lib.hid (show cs = [] by rw [HCS.out]; rfl)
      clear h2
      go_enter Try.func14, Try.ntmps14
      go_wp2_with (fail)
      rw [← hW]
      clear hW
      go_at_call 17
      refine (HVa.out _ H1.out).mono ?_
      rintro e w1 ⟨rfl, b1⟩
      have HB1 := Lib.hid (below_join HB.out b1 HB.out.size)
      have HK1 := Lib.hid (HK.out.on b1 (by omega))
      have HS1 := Lib.hid (HS.out.on b1 (by omega))
      clear b1 x0 x1 x2 x3 y0 y1
      obtain ⟨x0, x1, x2, x3⟩ := HK1.out.cells
      obtain ⟨y0, y1⟩ := HS1.out.cells
      go_wp2_with (fail)
      go_at_call 40
      refine (HSt.out _ _ H2.out).mono ?_
      rintro e w2 ⟨rfl, b2⟩
      have HB2 := Lib.hid (below_join HB1.out b2 HB1.out.size)
      clear b2 x0 x1 x2 x3 y0 y1
      go_wp2_with (fail)
      exact retTT rfl rfl rfl rfl ⟨_, rfl, by rw [HE.out]; exact StSl.nil _, HB2.out⟩
    · rw [h2, if_pos rfl] at hr
      have H2 := Lib.hid h2
      have g5 := sOk_iff.1 h2
      clear h2
      by_cases hl : l.length ≤ 1000
      · have HLS := Lib.hid (show lsOk l = l.all wOk by unfold lsOk; rw [decide_eq_true hl, Bool.true_and])
        have HR := Lib.hid hr
        clear hr
        go_enter Try.func14, Try.ntmps14
        go_wp2_with (fail)
        rw [← hW]
        clear hW
        go_at_call 17
        refine (HVa.out _ H1.out).mono ?_
        rintro e w1 ⟨rfl, b1⟩
        have HB1 := Lib.hid (below_join HB.out b1 HB.out.size)
        have HK1 := Lib.hid (HK.out.on b1 (by omega))
        have HS1 := Lib.hid (HS.out.on b1 (by omega))
        have hz1 := Nat.lt_of_lt_of_le hz b1.size
        clear b1 x0 x1 x2 x3 y0 y1
        obtain ⟨x0, x1, x2, x3⟩ := HK1.out.cells
        obtain ⟨y0, y1⟩ := HS1.out.cells
        go_wp2_with (fail)
        go_at_call 40
        refine (HSt.out _ _ H2.out).mono ?_
        rintro e w2 ⟨rfl, b2⟩
        have HB2 := Lib.hid (below_join HB1.out b2 HB1.out.size)
        have HK2 := Lib.hid (HK1.out.on b2 (by omega))
        have HS2 := Lib.hid (HS1.out.on b2 (by omega))
        have hz2 := Nat.lt_of_lt_of_le hz1 b2.size
        clear b2 x0 x1 x2 x3 y0 y1
        obtain ⟨x0, x1, x2, x3⟩ := HK2.out.cells
        obtain ⟨y0, y1⟩ := HS2.out.cells
        obtain ⟨i0, hi0, hzz0, hzz1, hzz2⟩ := info_parts st_info
        go_wp2_with (fail)
        go_loopw [8, 27] (fun v i wr => CoRel w w2 f L S F (q, t) l v i wr) (fun v i wr => l.length - (intOf i).toNat)
        case atStart =>
          refine ⟨0, q, t, rfl, Nat.zero_le _, Lib.hid rfl, g5, Lib.hid (fun x hx => by simp at hx), old_heap _ HK2.out, old_heap _ HS2.out, ?_, Lib.hid (HB2.out.alloc HB2.out.size _), by simp⟩
          exact World.ownsRow_lit w2 #[.int .i64 q, .bool t] 1 (Nat.le_refl _) (by unfold maxLen; omega) rfl
        case round =>
          obtain ⟨k, h, u, rfl, hk, hf, hvs, hok, hK, hS, hown, hBW, hwz⟩ := hrel
          obtain ⟨g, cap, rfl, -, -⟩ := hown.form (by omega)
          have HKr := Lib.hid hK
          have HSr := Lib.hid hS
          have HOr := Lib.hid hown
          have hzr : w.heap.size + 1 < wr.heap.size := block_lt hS
          by_cases hlt : k < l.length
          · obtain ⟨p, hp⟩ : ∃ p, l[k]? = some p := ⟨_, List.getElem?_eq_getElem hlt⟩
            obtain ⟨b, o, c', e, hbl, -, -, hcell0⟩ := HV.out.at_ hp
            injection e with e1 _ e2
            subst e1 e2
            have hcell := (hBW.out.cell (p := ⟨b, o + k, none⟩) hbl).trans hcell0
            have HP := Lib.hid hp
            have hki : ((k : Nat) : Int).toNat = k := by omega
            clear hcell0 hp hown
            by_cases hw : wOk p = true
            · have hw2 := wOk_iff.1 hw
              obtain ⟨z, hzz⟩ : ∃ z, z = nx L S F (h, u) p := ⟨_, rfl⟩
              have HN := Lib.hid (fun (X : World) => r_after f L S F h p u ⟨g4.1, g4.2.1, hvs.1, hvs.2.1, hw2.1, hw2.2⟩ z hzz.symm X)
              have HZ := Lib.hid hzz
              have HVZ := Lib.hid (show Vs S z by rw [hzz]; exact vs_nx hvs g4.2.2.2.1)
              obtain ⟨z1, z2⟩ := z
              unfold bkV stV at HN
              have d1 : decide (p < 0) = false := decide_eq_false (by omega)
              have d2 : decide (100000000 < p) = false := decide_eq_false (by omega)
              obtain ⟨q0, q1, q2, q3⟩ := hK.cells
              obtain ⟨s0, s1⟩ := hS.cells
              clear hw hzz hK hS x0 x1 x2 x3 y0 y1
              go_wp2_with (fail)
              go_at_call 41
              refine (HN.out _).mono ?_
              rintro e w3 ⟨rfl, b3⟩
              have HB3 := Lib.hid (below_join hBW.out b3 hBW.out.size)
              have HK3 := Lib.hid (HKr.out.on b3 (by omega))
              have HS3 := Lib.hid (HSr.out.on b3 (by omega))
              have HO3 := Lib.hid (ownsRow_setCell_below (ownsRow_setCell_below (ownsRow_same HOr.out fun o ho => (b3.block _ (block_lt ho)).trans ho) (a := ⟨w.heap.size + 1, 0, none⟩) (by show w.heap.size + 1 < w2.heap.size; omega) (.int .i64 z1)) (a := ⟨w.heap.size + 1, 1, none⟩) (by show w.heap.size + 1 < w2.heap.size; omega) (.bool z2))
              have hz3 := Nat.lt_of_lt_of_le hzr b3.size
              have hwz3 := Nat.le_trans hwz b3.size
              obtain ⟨f0, f1⟩ := HS3.out.frozen
              clear b3 q0 q1 q2 q3 s0 s1 hcell
              obtain ⟨s0, s1⟩ := HS3.out.cells
              have hz30 : ((w3.setCell ⟨w.heap.size + 1, 0, none⟩ (.int .i64 z1)).setCell ⟨w.heap.size + 1, 1, none⟩ (.bool z2)).heap.size = w3.heap.size := size_store2 _ _ _ _
              go_wp2_with (at_builtin; refine wpList_append_own _ rfl _ _ 31 rfl w2.heap.size 25 i0 (.agg #[.int .i64 0, .bool false]) 2 16 Try.underlying31 hi0 hzz0 hzz1 hzz2 rfl (by omega) _ _ _ rfl (HO3.out.alloc _) ⟨w3.heap.size, 0, none⟩ 1 1 [.int .i64 z1, .bool z2] rfl rfl (two_cell (row_new4 _ _ _ hz30.symm)) (by simp [Value.oneCell']) (by unfold maxLen; omega) (by omega) (by rw [World.size_alloc, hz30]; omega) ?_)
              intro v2 w4 hown2 hgrow _
              obtain ⟨hc1, hc2⟩ := crs_take (L := L) (S := S) (F := F) (x0 := (q, t)) HP.out
              have hBst := below_store2 HB3.out (b := w.heap.size + 1) (by omega) (.int .i64 z1) (.bool z2)
              have hg2 : w2.heap.size ≤ g := by obtain ⟨g', cap', e, h5, -⟩ := HOr.out.form (by omega); injection e with e1; injection e1 with e1; injection e1 with e1; omega
              have hblk : ∀ j, j < w2.heap.size → w4.heap[j]? = ((w3.setCell ⟨w.heap.size + 1, 0, none⟩ (.int .i64 z1)).setCell ⟨w.heap.size + 1, 1, none⟩ (.bool z2)).heap[j]? := fun j hj => by
                rw [hgrow.block j (by rw [World.size_alloc, hz30]; omega) (by simp [Value.ownBlock]; omega), Below.heap_alloc _ _ _ (by rw [hz30]; omega)]
              have R : CoRel w w2 f L S F (q, t) l v2 (.int .i64 ((k : Int) + 1)) w4 := by
                refine ⟨k + 1, z1, z2, by go_num, by omega, Lib.hid (by rw [hc2, ← hf.out]; exact HZ.out), HVZ.out, Lib.hid (fun x hx => ?_), ?_, ?_, ?_, Lib.hid ?_, ?_⟩
                · rw [List.take_add_one, HP.out] at hx
                  rcases List.mem_append.1 hx with h | h
                  · exact hok.out x h
                  · simp at h; rw [h]; exact wOk_iff.2 hw2
                · unfold Bk
                  rw [hblk _ (by omega)]
                  exact st_kept HK3.out (by omega) _ _
                · unfold St
                  rw [hblk _ (by omega)]
                  exact row_store2 HS3.out _ _
                · rw [hc1, ← hf.out, ← HZ.out, ← List.cons_append, cellsS_snoc]
                  exact hown2
                · exact (hBst.alloc (by rw [hz30]; have := HB3.out.size; exact this) _).grown hgrow (by rw [World.size_alloc, hz30]; have := HB3.out.size; omega) (fun j hj => by
                    have : g = j := by simpa [Value.ownBlock] using hj
                    have := HB2.out.size
                    omega)
                · have := hgrow.size
                  rw [World.size_alloc, hz30] at this
                  omega
              have HRel := Lib.hid R
              clear R hown2 hgrow hblk hBst hc1 hc2
              go_wp2
              go_roundw
              case rel => exact HRel.out
              case measure => simp only [intOf]; omega
            · have hrr : r = 2 := by
                rw [← HR.out, HLS.out, all_false HP.out (by simpa using hw)]; rfl
              have h3' : (decide (p < 0) = true) ∨ (decide (p < 0) = false ∧ decide (100000000 < p) = true) := by
                rw [wOk_iff] at hw
                by_cases h : p < 0
                · exact .inl (decide_eq_true h)
                · exact .inr ⟨decide_eq_false h, decide_eq_true (by omega)⟩
              have HE := Lib.hid (show cs = [] by rw [HCS.out, hrr]; rfl)
              subst hrr
              clear hw hK hS x0 x1 x2 x3 y0 y1
              rcases h3' with d1 | ⟨d1, d2⟩
              all_goals
                go_wp2_with (fail)
                exact retTT rfl rfl rfl rfl ⟨_, rfl, by rw [HE.out]; exact StSl.nil _, hBW.out⟩
          · obtain rfl : k = l.length := by omega
            have hrr : r = 0 := by
              rw [← HR.out, HLS.out, if_pos]
              rw [List.all_eq_true]
              intro x hx
              have := hok.out x
              rw [List.take_of_length_le (Nat.le_refl _)] at this
              exact this hx
            have hst := own_stSl' hown (by rw [List.length_cons, crs_len, List.length_take]; omega) (by omega)
            rw [List.take_of_length_le (Nat.le_refl _)] at hst
            have HST := Lib.hid (show StSl wr _ cs by rw [HCS.out, if_pos hrr]; exact hst)
            subst hrr
            clear hst hown hK hS x0 x1 x2 x3 y0 y1
            go_wp2_with (fail)
            exact retTT rfl rfl rfl rfl ⟨_, rfl, HST.out, hBW.out⟩
      · have hrr : r = 2 := by rw [← hr]; unfold lsOk; rw [decide_eq_false hl]; rfl
        have hl' : (1000 : Int) < (l.length : Nat) := by omega
        subst hrr
        have HE := Lib.hid (show cs = [] by rw [HCS.out]; rfl)
        clear hr
        go_enter Try.func14, Try.ntmps14
        go_wp2_with (fail)
        rw [← hW]
        clear hW
        go_at_call 17
        refine (HVa.out _ H1.out).mono ?_
        rintro e w1 ⟨rfl, b1⟩
        have HB1 := Lib.hid (below_join HB.out b1 HB.out.size)
        have HK1 := Lib.hid (HK.out.on b1 (by omega))
        have HS1 := Lib.hid (HS.out.on b1 (by omega))
        clear b1 x0 x1 x2 x3 y0 y1
        obtain ⟨x0, x1, x2, x3⟩ := HK1.out.cells
        obtain ⟨y0, y1⟩ := HS1.out.cells
        go_wp2_with (fail)
        go_at_call 40
        refine (HSt.out _ _ H2.out).mono ?_
        rintro e w2 ⟨rfl, b2⟩
        have HB2 := Lib.hid (below_join HB1.out b2 HB1.out.size)
        clear b2 x0 x1 x2 x3 y0 y1
        go_wp2_with (fail)
        exact retTT rfl rfl rfl rfl ⟨_, rfl, by rw [HE.out]; exact StSl.nil _, HB2.out⟩
end Go.Proofs.Ytomfaknemjbjcaa
