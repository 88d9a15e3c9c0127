/-
  DERIVED. Across of the landed package (stage 5).
-/
import Derived.Test.YtglpaihadongkaaBR
namespace Go.Proofs.Ytglpaihadongkaa
open Go.RowKit Go.Shelf
set_option maxRecDepth 100000
set_option linter.unusedSimpArgs false
set_option linter.unusedVariables false

/-- A set of nodes: ascending. -/
def okAt (N : Int) (S : List Int) (i : Nat) : Bool := ndOk N (S.getD i 0) && (decide (i = 0) || decide (S.getD (i - 1) 0 < S.getD i 0))
def setOk (N : Int) (S : List Int) : Bool := (List.range S.length).all (okAt N S)
def capOf (S : List Int) (a : Int × Int × Int) : Int := if S.contains a.1 && !S.contains a.2.1 then a.2.2 else 0
def capL (S : List Int) (l : List (Int × Int × Int)) : Int := (l.map (capOf S)).sum
def acrV (N : Int) (l : List (Int × Int × Int)) (S : List Int) : Int × Int := if ntOk N l = true then (if setOk N S = true then (capL S l, 0) else (0, 2)) else (0, 1)
theorem range_all {f : Nat → Bool} (k : Nat) (h : (List.range k).all f = true) (h2 : f k = true) : (List.range (k + 1)).all f = true := by
  rw [List.range_succ, List.all_append, h]; simp [h2]
theorem range_not {f : Nat → Bool} {k n : Nat} (hk : k < n) (h2 : f k = false) : (List.range n).all f = false := by
  rw [List.all_eq_false]; exact ⟨k, List.mem_range.2 hk, by rw [h2]; simp⟩
theorem capL_snoc {S : List Int} {l : List (Int × Int × Int)} {k : Nat} {a : Int × Int × Int} (h : l[k]? = some a) : capL S (l.take (k + 1)) = capL S (l.take k) + capOf S a := by
  unfold capL
  rw [take_snoc h, List.map_append, List.sum_append]; simp
theorem capL_bound {N : Int} {S : List Int} {l : List (Int × Int × Int)} (h : ∀ a ∈ l, arOk N a = true) : 0 ≤ capL S l ∧ capL S l ≤ 100000000 * (l.length : Int) := by
  induction l with
  | nil => simp [capL]
  | cons a l ih =>
    obtain ⟨h1, h2⟩ := ih (fun b hb => h b (List.mem_cons_of_mem _ hb))
    obtain ⟨-, -, -, h3, h4⟩ := arOk_iff.1 (h a (by simp))
    have e : capL S (a :: l) = capOf S a + capL S l := by simp [capL]
    rw [e, List.length_cons]
    unfold capOf
    split <;> omega
/-- Bools in cells that may be written. -/
def BRow (X : World) (b N : Nat) (f : Nat → Bool) : Prop := ∀ n, n < N → X.cell? ⟨b, n, none⟩ = some (.bool (f n)) ∧ X.frozen? ⟨b, n, none⟩ = false
theorem BRow.kept {X Y : World} {b N : Nat} {f : Nat → Bool} (h : BRow X b N f) (hk : ∀ cs t fr, X.heap[b]? = some (.cells cs t fr) → Y.heap[b]? = some (.cells cs t fr)) : BRow Y b N f := fun n hn => by
  obtain ⟨h1, h2⟩ := h n hn
  obtain ⟨cs, t, fr, hb⟩ := cell_block h1
  have e : Y.heap[b]? = X.heap[b]? := (hk _ _ _ hb).trans hb.symm
  exact ⟨(World.cell?_of_block (a := ⟨b, n, none⟩) e).trans h1, (frozen_of_block e).trans h2⟩
theorem BRow.set {X : World} {b N j : Nat} {f g : Nat → Bool} (h : BRow X b N f) (hj : j < N) (hg : ∀ n, n < N → g n = if n = j then true else f n) : BRow (X.setCell ⟨b, j, none⟩ (.bool true)) b N g := fun n hn => by
  obtain ⟨h3, h4⟩ := h j hj
  rw [World.frozen?_setCell, hg n hn]
  by_cases e : n = j
  · subst e
    rw [if_pos rfl]
    exact ⟨World.cell?_setCell_same _ _ _ h3, h4⟩
  · rw [if_neg e, World.cell?_setCell_other _ _ _ _ (fun e' => e (congrArg (fun a : Addr => a.off) e').symm)]
    · exact h n hn
theorem bool_info : (Try.prog.info? 4).map (fun i => (i.zero, i.size, i.bytes)) = some (some (.bool false), 1, 1) := by kernel_rfl
set_option maxHeartbeats 16000000 in
theorem c_Across (N : Int) (L Sv : Value) (l : List (Int × Int × Int)) (S : List Int) (w : World) (hL : PtSl w L l) (hS : IntSl w Sv S) (y r : Int) (hr : acrV N l S = (y, r)) :
    Calls Try.prog 14 #[ntV N L, Sv] w fun e w' => e = .returned (.tuple #[.int .i64 y, .int .i64 r]) ∧ Below w.heap.size w w' := by
  obtain ⟨A, c, rfl, hc1, hc2⟩ := hL.shape
  obtain ⟨A2, c2, rfl, hd1, hd2⟩ := hS.shape
  unfold maxLen at hc2 hd2
  obtain ⟨W, hW⟩ : ∃ W, W = w.alloc (.cells #[.int .i64 N, .slice A l.length c] 24) := ⟨_, rfl⟩
  have B0 : Below w.heap.size w W := by subst hW; exact (Below.refl _ _).alloc (Nat.le_refl _) _
  have hzw : w.heap.size < W.heap.size := by subst hW; simp
  have HB0 := Lib.hid B0
  have HX := Lib.hid (show W.heap[w.heap.size]? = some (.cells #[.int .i64 N, .slice A l.length c] 24 (0, 0)) by subst hW; exact heap_alloc_new _ _)
  have x0 : W.cell? ⟨w.heap.size, 0, none⟩ = some (.int .i64 N) := cell_of HX.out rfl
  have x1 : W.cell? ⟨w.heap.size, 1, none⟩ = some (.slice A l.length c) := cell_of HX.out rfl
  have hLW := hL.on B0 (Nat.le_refl _)
  have HSW := Lib.hid (hS.on B0 (Nat.le_refl _))
  obtain ⟨r0, h0⟩ : ∃ b, ntOk N l = b := ⟨_, rfl⟩
  have HF := Lib.hid (c_Valid N (.slice A l.length c) l W hLW r0 h0)
  have HLW := Lib.hid hLW
  have HIN := Lib.hid (fun (x : Int) (r1 : Bool) (h : ndOk N x = r1) (X : World) => c_isNode N x A l.length c r1 h X)
  have H0 := Lib.hid h0
  unfold acrV at hr
  rw [h0] at hr
  unfold ntV at HF HIN ⊢
  clear B0 hL hS hLW h0
  rw [hW] at x0 x1
  go_enter Try.func14, Try.ntmps14
  go_wp2_with (fail)
  rw [← hW]
  clear hW x0 x1
  go_at_call 16
  refine HF.out.mono ?_
  rintro e w1 ⟨rfl, hb⟩
  have HX1 := Lib.hid ((hb.block _ (at_lt HX.out)).trans HX.out)
  have x0 : w1.cell? ⟨w.heap.size, 0, none⟩ = some (.int .i64 N) := cell_of HX1.out rfl
  have x1 : w1.cell? ⟨w.heap.size, 1, none⟩ = some (.slice A l.length c) := cell_of HX1.out rfl
  have HB1 := Lib.hid (below_join HB0.out hb HB0.out.size)
  have HL1 := Lib.hid (HLW.out.on hb (Nat.le_refl _))
  have HS1 := Lib.hid (HSW.out.on hb (Nat.le_refl _))
  have hz1 : W.heap.size ≤ w1.heap.size := hb.size
  clear hb
  cases r0
  · obtain ⟨rfl, rfl⟩ : (0 : Int) = y ∧ (1 : Int) = r := by simpa using hr
    go_wp2_with (fail)
    exact retTT rfl rfl rfl rfl ⟨rfl, HB1.out⟩
  · obtain ⟨hN2, hN64, hl128, hall⟩ := ntOk_iff.1 H0.out
    obtain ⟨n, rfl⟩ : ∃ n : Nat, N = (n : Int) := ⟨N.toNat, by omega⟩
    have HALL := Lib.hid hall
    have HRR := Lib.hid (show (if setOk (n : Int) S = true then (capL S l, (0 : Int)) else (0, 2)) = (y, r) from hr)
    clear hall hr
    obtain ⟨i0, hi0, hzz0, hzz1, hzz2⟩ := info_parts bool_info
    go_wp2_with (at_make; refine wpList_make_full (P := Try.prog) _ rfl _ _ 60 rfl w1.heap.size 4 i0 (.bool false) 1 Try.underlying60 hi0 hzz0 hzz1 .i64 .i64 _ _ n rfl rfl rfl rfl (by rw [hzz2]; omega) (by unfold maxLen; omega) (Nat.le_refl _) ?_; intro w2 ho2 hg2; have HO2 := Lib.hid ho2; have HBE2 := Lib.hid ((Below.refl w1.heap.size w1).grown hg2 (Nat.le_refl _) (fun k hk => by cases hk)); clear ho2 hg2)
    obtain ⟨gb, hgb⟩ : ∃ g, g = w1.heap.size := ⟨_, rfl⟩
    rw [← hgb] at HO2 ⊢
    have HBR := Lib.hid (show BRow w2 gb n (fun k => (S.take 0).contains (k : Int)) from fun k hk => by
      refine ⟨?_, HO2.out.frozenAt k⟩
      rw [HO2.out.cellAt k (by omega)]
      have e : (Value.bool false).cells = #[.bool false] := rfl
      rw [e, Nat.mul_one, toList_madeCells_one, List.getElem?_replicate, if_pos hk]; simp)
    have hg2 : gb < w2.heap.size := (ownsRow_lt HO2.out (g := gb) rfl).2
    have hgb1 : w1.heap.size ≤ gb ∧ gb ≤ w1.heap.size := by omega
    have HGB := Lib.hid hgb
    have hz2 := HBE2.out.size
    have HX2 := Lib.hid ((HBE2.out.block _ (by omega)).trans HX1.out)
    have HL2 := Lib.hid (HL1.out.on HBE2.out (Nat.le_refl _))
    have HS2 := Lib.hid (HS1.out.on HBE2.out (Nat.le_refl _))
    clear hgb x0 x1
    go_loopw [20] (fun i wr => ∃ k : Nat, k ≤ S.length ∧ i = .int .i64 (k : Int) ∧ Hid (Out (fun b => b = gb) w2 wr) ∧ Hid (BRow wr gb n (fun j => (S.take k).contains (j : Int))) ∧ Hid ((List.range k).all (okAt (n : Int) S) = true)) (fun i _ => S.length - (intOf i).toNat)
    case atStart => exact ⟨0, Nat.zero_le _, rfl, Lib.hid (Out.refl _), HBR, Lib.hid rfl⟩
    case round =>
      obtain ⟨k, hk, rfl, hB, hrow, hok⟩ := hrel
      have hki : ((k : Nat) : Int).toNat = k := by omega
      have hBW : Below w1.heap.size w1 wr := (hB.out).below HBE2.out (fun i hi e => by omega)
      have HBW := Lib.hid hBW
      have hXr := (hBW.block _ (by omega)).trans HX1.out
      have x0 : wr.cell? ⟨w.heap.size, 0, none⟩ = some (.int .i64 (n : Int)) := cell_of hXr rfl
      have x1 : wr.cell? ⟨w.heap.size, 1, none⟩ = some (.slice A l.length c) := cell_of hXr rfl
      by_cases hlt : k < S.length
      · obtain ⟨x, hx⟩ : ∃ x, S[k]? = some x := ⟨_, List.getElem?_eq_getElem hlt⟩
        obtain ⟨b, o, c', e, hbb, -, -, y0⟩ := (HS1.out.on hBW (Nat.le_refl _)).at_ hx
        injection e with e1 hle e2
        clear hle
        subst e1 e2
        have hgx : S.getD k 0 = x := by simp [hx]
        have hzr := hB.out.size
        obtain ⟨r1, h1⟩ : ∃ b, ndOk (n : Int) x = b := ⟨_, rfl⟩
        have H1 := Lib.hid h1
        have HXK := Lib.hid hx
        have HGX := Lib.hid hgx
        have HBB := Lib.hid hbb
        clear hBW hXr hx hgx hbb h1
        go_wp2_with (fail)
        go_at_call 34
        refine (HIN.out _ _ H1.out _).mono ?_
        rintro e w3 ⟨rfl, hb3⟩
        have HB3 := Lib.hid (show Out (fun b => b = gb) w2 w3 from hB.out.trans (Out.of_below hb3 (Nat.le_refl _)))
        have HR3 := Lib.hid (hrow.out.kept (Y := w3) fun cs t fr h => (hb3.block _ (at_lt h)).trans h)
        have HB3' := Lib.hid (below_join HBW.out hb3 HBW.out.size)
        clear hb3 x0 x1 y0
        cases r1
        · have hno := range_not (f := okAt (n : Int) S) hlt (by unfold okAt; rw [HGX.out, H1.out]; rfl)
          obtain ⟨rfl, rfl⟩ : (0 : Int) = y ∧ (2 : Int) = r := by have h := HRR.out; unfold setOk at h; rw [hno] at h; simpa using h
          go_wp2_with (fail)
          exact retTT rfl rfl rfl rfl ⟨rfl, below_join HB1.out HB3'.out HB1.out.size⟩
        obtain ⟨xn, rfl⟩ : ∃ m : Nat, x = (m : Int) := ⟨x.toNat, by have := (ndOk_iff.1 H1.out).1; omega⟩
        have hxn : xn < n := by have := (ndOk_iff.1 H1.out).2; omega
        obtain ⟨fc, ff'⟩ := HR3.out xn hxn
        have hxn' : (xn : Int) < (n : Int) := by omega
        cases k with
        | zero =>
          have HOK := Lib.hid (range_all 0 hok.out (show okAt (n : Int) S 0 = true by unfold okAt; rw [HGX.out, H1.out]; rfl))
          have HBS := Lib.hid (show BRow (w3.setCell ⟨gb, xn, none⟩ (.bool true)) gb n (fun j => (S.take (0 + 1)).contains (j : Int)) from HR3.out.set hxn (fun j hj => by
            rw [take_snoc HXK.out]
            simp only [List.take_zero, List.nil_append, List.contains_cons, List.contains_nil, Bool.or_false]
            by_cases e : j = xn
            · subst e; simp
            · rw [if_neg e, beq_eq_false_iff_ne.2 (fun h => e (by omega))]))
          have HOS := Lib.hid (show Out (fun b => b = gb) w2 (w3.setCell ⟨gb, xn, none⟩ (.bool true)) from HB3.out.trans (Out.store (S := fun b => b = gb) rfl _))
          go_wp2_with (fail)
          go_roundw
          case rel => exact ⟨0 + 1, by omega, by go_num, HOS, HBS, HOK⟩
          case measure => simp only [intOf]; omega
        | succ j =>
          obtain ⟨z, hz⟩ : ∃ z, S[j]? = some z := ⟨_, List.getElem?_eq_getElem (by omega)⟩
          obtain ⟨b', o', c'', e, -, -, -, y1⟩ := (HS1.out.on HB3'.out (Nat.le_refl _)).at_ hz
          injection e with e1 hle e2
          injection e1 with e1
          injection e1 with e1 e3
          clear hle
          subst e1 e2 e3
          have hgz : S.getD j 0 = z := by simp [hz]
          have hjj : ((j + 1 : Nat) : Int) - 1 = (j : Int) := by omega
          have hgt : decide (0 < ((j + 1 : Nat) : Int)) = true := decide_eq_true (by omega)
          have HGZ := Lib.hid hgz
          clear hz hgz
          rcases hcmp : decide ((xn : Int) ≤ z) with _ | _
          · have HOK := Lib.hid (range_all (j + 1) hok.out (show okAt (n : Int) S (j + 1) = true by unfold okAt; rw [HGX.out, H1.out, Nat.add_sub_cancel, HGZ.out, show decide (z < (xn : Int)) = true by have := of_decide_eq_false hcmp; simp; omega]; simp))
            have HBS := Lib.hid (show BRow (w3.setCell ⟨gb, xn, none⟩ (.bool true)) gb n (fun i => (S.take (j + 1 + 1)).contains (i : Int)) from HR3.out.set hxn (fun i hi => by
              rw [take_snoc HXK.out, List.contains_append]
              by_cases e : i = xn
              · subst e; simp
              · rw [if_neg e]
                have : [(xn : Int)].contains (i : Int) = false := by simp; omega
                rw [this, Bool.or_false]))
            have HOS := Lib.hid (show Out (fun b => b = gb) w2 (w3.setCell ⟨gb, xn, none⟩ (.bool true)) from HB3.out.trans (Out.store (S := fun b => b = gb) rfl _))
            go_wp2_with (fail)
            go_roundw
            case rel => exact ⟨j + 1 + 1, by omega, by go_num, HOS, HBS, HOK⟩
            case measure => simp only [intOf]; omega
          · have hno := range_not (f := okAt (n : Int) S) hlt (by unfold okAt; rw [HGX.out, H1.out, Nat.add_sub_cancel, HGZ.out, show decide (z < (xn : Int)) = false by have := of_decide_eq_true hcmp; simp; omega]; simp)
            obtain ⟨rfl, rfl⟩ : (0 : Int) = y ∧ (2 : Int) = r := by have h := HRR.out; unfold setOk at h; rw [hno] at h; simpa using h
            go_wp2_with (fail)
            exact retTT rfl rfl rfl rfl ⟨rfl, below_join HB1.out HB3'.out HB1.out.size⟩
      · obtain rfl : k = S.length := by omega
        have hyr := HRR.out
        have hsok : setOk (n : Int) S = true := hok.out
        rw [hsok, if_pos rfl] at hyr
        obtain ⟨hcl, rfl⟩ : capL S l = y ∧ (0 : Int) = r := by simpa using hyr
        have HCL := Lib.hid hcl
        clear hcl
        have hrow' := hrow.out
        rw [List.take_length] at hrow'
        have HROW := Lib.hid hrow'
        have HLr := Lib.hid (HL1.out.on HBW.out (Nat.le_refl _))
        have hzr := hB.out.size
        clear hyr hsok hrow hrow' hBW hXr x0
        obtain ⟨wA, hwA⟩ : ∃ z, z = wr := ⟨_, rfl⟩
        subst hwA
        go_wp2_with (fail)
        go_loopw [9, 49] (fun v i wr => ∃ k : Nat, k ≤ l.length ∧ i = .int .i64 (k : Int) ∧ v = .int .i64 (capL S (l.take k)) ∧ Hid (Below wA.heap.size wA wr)) (fun _ i _ => l.length - (intOf i).toNat)
        case atStart => exact ⟨0, Nat.zero_le _, rfl, rfl, Lib.hid (Below.refl _ _)⟩
        case round =>
          obtain ⟨k, hk, rfl, rfl, hBx⟩ := hrel
          have hki : ((k : Nat) : Int).toNat = k := by omega
          by_cases hlt : k < l.length
          · obtain ⟨⟨u, v, cp⟩, hx⟩ : ∃ p, l[k]? = some p := ⟨_, List.getElem?_eq_getElem hlt⟩
            obtain ⟨b, o, c', e, hbb, -, -, y0, y1, y2⟩ := (HLr.out.on hBx.out (Nat.le_refl _)).at_ hx
            injection e with e1 hle e2
            clear hle
            subst e1 e2
            obtain ⟨hu, hv, huv, hc0, hc1'⟩ := arOk_iff.1 (HALL.out _ (List.mem_of_getElem? hx))
            obtain ⟨un, rfl⟩ : ∃ m : Nat, u = (m : Int) := ⟨u.toNat, by have := hu.1; simp at this; omega⟩
            obtain ⟨vn, rfl⟩ : ∃ m : Nat, v = (m : Int) := ⟨v.toNat, by have := hv.1; simp at this; omega⟩
            have hun : un < n := by have := hu.2; simp at this; exact this
            have hvn : vn < n := by have := hv.2; simp at this; exact this
            have hun' : (un : Int) < (n : Int) := by omega
            have hvn' : (vn : Int) < (n : Int) := by omega
            obtain ⟨V, hV⟩ : ∃ V, V = wr.alloc (.cells #[.int .i64 (un : Int), .int .i64 (vn : Int), .int .i64 cp] 39) := ⟨_, rfl⟩
            have HBV := Lib.hid (show Below wA.heap.size wA V by subst hV; exact hBx.out.alloc hBx.out.size _)
            have HVA := Lib.hid (show V.heap[wr.heap.size]? = some (.cells #[.int .i64 (un : Int), .int .i64 (vn : Int), .int .i64 cp] 39 (0, 0)) by subst hV; exact heap_alloc_new _ _)
            have hrV := HROW.out.kept (Y := V) fun cs t fr h => (HBV.out.block _ (at_lt h)).trans h
            have a0 : V.cell? ⟨gb, un, none⟩ = some (.bool (S.contains (un : Int))) := (hrV un hun).1
            have a1 : V.cell? ⟨gb, vn, none⟩ = some (.bool (S.contains (vn : Int))) := (hrV vn hvn).1
            have a2 := (three_cells HVA.out).2.2
            obtain ⟨bu, hbu⟩ : ∃ q, S.contains (un : Int) = q := ⟨_, rfl⟩
            obtain ⟨bv, hbv⟩ : ∃ q, S.contains (vn : Int) = q := ⟨_, rfl⟩
            rw [hbu] at a0
            rw [hbv] at a1
            have hsn := capL_snoc (S := S) hx
            have hce : capOf S ((un : Int), (vn : Int), cp) = if bu && !bv then cp else 0 := by unfold capOf; rw [hbu, hbv]
            rw [hce] at hsn
            have hbd := capL_bound (S := S) (N := (n : Int)) (l := l.take k) (fun a ha => HALL.out a (List.mem_of_mem_take ha))
            have hlk : (l.take k).length = k := by rw [List.length_take]; omega
            rw [hlk] at hbd
            obtain ⟨acc, hacc⟩ : ∃ z, z = capL S (l.take k) := ⟨_, rfl⟩
            rw [← hacc] at hsn hbd ⊢
            have HSN := Lib.hid hsn
            have hcp8 : 0 ≤ cp ∧ cp ≤ 100000000 := ⟨hc0, hc1'⟩
            have hk128 : k ≤ 128 := by omega
            rw [hV] at a0 a1 a2
            clear hx hbb hu hv huv hc0 hc1' hrV hbu hbv hsn hce hlk hacc
            cases bu
            · have HS2 := Lib.hid (show capL S (l.take (k + 1)) = acc by rw [HSN.out]; simp)
              go_wp2_with (fail)
              rw [← hV]
              go_roundw
              case rel => exact ⟨k + 1, by omega, by go_num, by rw [HS2.out], HBV⟩
              case measure => simp only [intOf]; omega
            cases bv
            · have HS2 := Lib.hid (show capL S (l.take (k + 1)) = acc + cp by rw [HSN.out]; simp)
              go_wp2_with (fail)
              rw [← hV]
              go_roundw
              case rel => exact ⟨k + 1, by omega, by go_num, by rw [HS2.out], HBV⟩
              case measure => simp only [intOf]; omega
            · have HS2 := Lib.hid (show capL S (l.take (k + 1)) = acc by rw [HSN.out]; simp)
              go_wp2_with (fail)
              rw [← hV]
              go_roundw
              case rel => exact ⟨k + 1, by omega, by go_num, by rw [HS2.out], HBV⟩
              case measure => simp only [intOf]; omega
          · obtain rfl : k = l.length := by omega
            rw [List.take_length, HCL.out]
            go_wp2_with (fail)
            exact retTT rfl rfl rfl rfl ⟨rfl, below_join HB1.out (below_join HBW.out hBx.out HBW.out.size) HB1.out.size⟩
end Go.Proofs.Ytglpaihadongkaa
