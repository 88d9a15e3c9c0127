/-
  DERIVED. Max of the landed package (stage 5).
-/
import Derived.Test.YtglpaihadongkaaBP
import Derived.Deep.Onto
namespace Go.Proofs.Ytglpaihadongkaa
open Go.RowKit Go.Shelf
set_option maxRecDepth 100000
set_option linter.unusedSimpArgs false
set_option linter.unusedVariables false

theorem retTTT {fn : Func} {a : Act} {W : World} {R : Ending → World → Prop} {i j k : Nat} {x y z : Value} (hfn : fn.results = #[.tmp i, .tmp j, .tmp k]) (hi : a.tmps[i]?.getD undef = x) (hj : a.tmps[j]?.getD undef = y) (hk : a.tmps[k]?.getD undef = z) (hd : a.defers = [])
    (hR : R (.returned (.tuple #[x, y, z])) W) : bodyPost Try.prog fn R .ret a W :=
  bodyPost_ret (v := .tuple #[x, y, z]) (by simp [results, hfn, hi, hj, hk, go_sem]) hd hR
theorem own_mono {w : World} {base base' : Nat} {e : TypeId} {size : Nat} {v : Value} {n : Nat} {xs : List Value} (h : w.ownsRow base e size v n xs) (hb : base' ≤ base) : w.ownsRow base' e size v n xs :=
  ⟨h.1, h.2.imp id fun ⟨g, cap, cur, h1, h2, h3⟩ => ⟨g, cap, cur, h1, Nat.le_trans hb h2, h3⟩⟩
set_option maxHeartbeats 4000000 in
theorem c_MaxE (N : Int) (L : Value) (l : List (Int × Int × Int)) (s t : Int) (w : World) (hL : PtSl w L l) (r : Int) (hr : nfault N l s t = r) (h0 : r ≠ 0) :
    Calls Try.prog 19 #[ntV N L, .int .i64 s, .int .i64 t] w fun e w' => e = .returned (.tuple #[.int .i64 0, .slice none 0 0, .int .i64 r]) ∧ Below w.heap.size w w' := by
  obtain ⟨A, c, rfl, hc1, hc2⟩ := hL.shape
  obtain ⟨W, hW⟩ : ∃ W, W = w.alloc (.cells #[.int .i64 N, .slice A l.length c] 24) := ⟨_, rfl⟩
  have B0 : Below w.heap.size w W := by subst hW; exact (Below.refl _ _).alloc (Nat.le_refl _) _
  have HB0 := Lib.hid B0
  have HX := Lib.hid (show W.heap[w.heap.size]? = some (.cells #[.int .i64 N, .slice A l.length c] 24 (0, 0)) by subst hW; exact heap_alloc_new _ _)
  have x0 : W.cell? ⟨w.heap.size, 0, none⟩ = some (.int .i64 N) := cell_of HX.out rfl
  have x1 : W.cell? ⟨w.heap.size, 1, none⟩ = some (.slice A l.length c) := cell_of HX.out rfl
  have HF := Lib.hid (c_fault N (.slice A l.length c) l s t W (hL.on B0 (Nat.le_refl _)) r hr)
  have hrz : (r != 0) = true := by rw [bne_iff_ne]; exact h0
  unfold ntV at HF ⊢
  clear B0 hL hr h0
  rw [hW] at x0 x1
  go_enter Try.func19, Try.ntmps19
  go_wp2_with (fail)
  rw [← hW]
  clear hW x0 x1
  go_at_call 31
  refine HF.out.mono ?_
  rintro e w1 ⟨rfl, hb⟩
  have HB := Lib.hid (below_join HB0.out hb HB0.out.size)
  clear hb
  go_wp2_with (fail)
  exact retTTT rfl rfl rfl rfl rfl ⟨rfl, HB.out⟩
/-- What Max returns for a net and two nodes. -/
def MxPost (N s t : Nat) (l : List (Int × Int × Int)) (w : World) (e : Ending) (w' : World) : Prop :=
  ∃ (lf : List Ar) (val : Int) (v : Value), e = .returned (.tuple #[.int .i64 val, v, .int .i64 0]) ∧ Best N s t l lf val ∧ w'.ownsRow w.heap.size 3 1 v lf.length (ints (lf.map Ar.x)) ∧ Below w.heap.size w w'
set_option maxHeartbeats 8000000 in
theorem c_Max0 (N s t : Nat) (L : Value) (l : List (Int × Int × Int)) (hs : s < N) (ht : t < N) (hst : s ≠ t) (w : World) (hL : PtSl w L l) (hok : ntOk (N : Int) l = true) :
    Calls Try.prog 19 #[ntV (N : Int) L, .int .i64 (s : Int), .int .i64 (t : Int)] w (MxPost N s t l w) := by
  obtain ⟨A, c, rfl, hc1, hc2⟩ := hL.shape
  have hl128 := (ntOk_iff.1 hok).2.2.1
  have hf0 : nfault (N : Int) l (s : Int) (t : Int) = 0 := by
    unfold nfault
    rw [if_pos hok, show ndOk (N : Int) (s : Int) = true from ndOk_iff.2 (by omega), show ndOk (N : Int) (t : Int) = true from ndOk_iff.2 (by omega)]
    have : ((s : Int) == (t : Int)) = false := by rw [beq_eq_false_iff_ne]; omega
    rw [this]; rfl
  obtain ⟨W, hW⟩ : ∃ W, W = w.alloc (.cells #[.int .i64 (N : Int), .slice A l.length c] 24) := ⟨_, rfl⟩
  have B0 : Below w.heap.size w W := by subst hW; exact (Below.refl _ _).alloc (Nat.le_refl _) _
  have hzw : w.heap.size < W.heap.size := by subst hW; simp
  have HB0 := Lib.hid B0
  have HX := Lib.hid (show W.heap[w.heap.size]? = some (.cells #[.int .i64 (N : Int), .slice A l.length c] 24 (0, 0)) by subst hW; exact heap_alloc_new _ _)
  have x0 : W.cell? ⟨w.heap.size, 0, none⟩ = some (.int .i64 (N : Int)) := cell_of HX.out rfl
  have x1 : W.cell? ⟨w.heap.size, 1, none⟩ = some (.slice A l.length c) := cell_of HX.out rfl
  have hLW := hL.on B0 (Nat.le_refl _)
  have HF := Lib.hid (c_fault (N : Int) (.slice A l.length c) l s t W hLW 0 hf0)
  have HG := Lib.hid (fun (X : World) (hX : PtSl X (.slice A l.length c) l) => c_greatest N s t (.slice A l.length c) l hs ht hst X hX hok)
  have HLW := Lib.hid hLW
  unfold ntV at HF HG ⊢
  clear B0 hL hok hf0 hLW
  rw [hW] at x0 x1
  go_enter Try.func19, Try.ntmps19
  go_wp2_with (fail)
  rw [← hW]
  clear hW x0 x1
  go_at_call 31
  refine HF.out.mono ?_
  rintro e w1 ⟨rfl, hb⟩
  have HX1 := Lib.hid ((hb.block _ (at_lt HX.out)).trans HX.out)
  have x0 : w1.cell? ⟨w.heap.size, 0, none⟩ = some (.int .i64 (N : Int)) := cell_of HX1.out rfl
  have x1 : w1.cell? ⟨w.heap.size, 1, none⟩ = some (.slice A l.length c) := cell_of HX1.out rfl
  have HB1 := Lib.hid (below_join HB0.out hb HB0.out.size)
  have HL1 := Lib.hid (HLW.out.on hb (Nat.le_refl _))
  have hz1 : W.heap.size ≤ w1.heap.size := hb.size
  clear hb
  go_wp2_with (fail)
  go_at_call 35
  refine (HG.out _ HL1.out).mono ?_
  rintro e w2 ⟨r, lf, val, rfl, hbest, hsh, hrr, hbR, -, -, hb2⟩
  obtain ⟨A1, n1, c1, hE⟩ := hsh.es
  obtain ⟨A2, n2, c2, hR⟩ := hsh.rs
  unfold Rs.val Rs.M
  rw [hE, hR]
  have HE := Lib.hid hE
  have HR := Lib.hid hR
  obtain ⟨b9, hb9⟩ : ∃ b, b = w2.heap.size := ⟨_, rfl⟩
  obtain ⟨V, hV⟩ : ∃ V, V = w2.alloc (.cells #[.slice A1 n1 c1, .slice A2 n2 c2, .slice (some ⟨r.bM, r.oM, none⟩) N r.cM] 64) := ⟨_, rfl⟩
  have hzV : V.heap.size = b9 + 1 := by subst hV; simp [hb9]
  have hzb : w1.heap.size ≤ b9 := by rw [hb9]; exact hb2.size
  have HBV := Lib.hid (show Below w.heap.size w V by subst hV; exact (below_join HB1.out hb2 HB1.out.size).alloc (by omega) _)
  have H9 := Lib.hid (show V.heap[b9]? = some (.cells #[.slice A1 n1 c1, .slice A2 n2 c2, .slice (some ⟨r.bM, r.oM, none⟩) N r.cM] 64 (0, 0)) by subst hV; exact row_new _ _ _ hb9)
  have HRR := Lib.hid (show Row V r.bR r.oR (rooms lf) by subst hV; exact hrr.kept fun cs t fr h => old_heap _ h)
  have HXV := Lib.hid (show V.heap[w.heap.size]? = some (.cells #[.int .i64 (N : Int), .slice A l.length c] 24 (0, 0)) by subst hV; exact old_heap _ ((hb2.block _ (by omega)).trans HX1.out))
  have v1 : V.cell? ⟨w.heap.size, 1, none⟩ = some (.slice A l.length c) := cell_of HXV.out rfl
  have hll : lf.length = l.length := by rw [ends_len hbest.ends_, arsOf_len]
  have HSH := Lib.hid hsh
  have HBEST := Lib.hid hbest
  have HLL := Lib.hid hll
  obtain ⟨i1, hi1, hz1', hz2, hz3⟩ := info_parts int_info
  rw [hV] at v1
  clear hb2 hrr hsh hbest hE hR x0 x1 hll
  go_wp2_with (fail)
  rw [← hV]
  rw [← hb9]
  clear hV v1 hb9
  go_loopw [7, 28] (fun v i wr => ∃ k : Nat, k ≤ l.length ∧ i = .int .i64 (k : Int) ∧ Hid (Below V.heap.size V wr) ∧ Hid (wr.ownsRow V.heap.size 3 1 v k (ints ((lf.map Ar.x).take k)))) (fun _ i _ => l.length - (intOf i).toNat)
  case atStart => exact ⟨0, Nat.zero_le _, rfl, Lib.hid (Below.refl _ _), Lib.hid (World.ownsRow_nil _ _ _ _)⟩
  case round =>
    obtain ⟨k, hk, rfl, hB, ho⟩ := hrel
    have hki : ((k : Nat) : Int).toNat = k := by omega
    have h9 := (hB.out.block _ (at_lt H9.out)).trans H9.out
    obtain ⟨y0, y1, y2⟩ := three_cells h9
    by_cases hlt : k < l.length
    · obtain ⟨a, ha⟩ : ∃ a, lf[k]? = some a := ⟨_, List.getElem?_eq_getElem (by rw [HLL.out]; exact hlt)⟩
      have HC := Lib.hid (c_carried r N k lf a ha (by rw [HLL.out]; exact hl128) HSH.out wr (HRR.out.kept fun cs t fr h => (hB.out.block _ (at_lt h)).trans h))
      unfold Rs.val Rs.M at HC
      rw [HE.out, HR.out] at HC
      have HAK := Lib.hid ha
      obtain ⟨As, ns, cs, rfl⟩ := own_shape ho.out
      clear h9 ha
      go_wp2_with (fail)
      go_at_call 36
      refine HC.out.mono ?_
      rintro e w3 ⟨rfl, hb3⟩
      have HB3 := Lib.hid (below_join hB.out hb3 hB.out.size)
      have HO3 := Lib.hid (own_row_kept ho.out fun g cur _ hc => (hb3.block _ (at_lt hc)).trans hc)
      have hz3' := HB3.out.size
      obtain ⟨x, hx⟩ : ∃ x, x = a.x := ⟨_, rfl⟩
      rw [← hx]
      have HXA := Lib.hid hx
      clear hb3 y0 y1 y2 hx
      go_wp2_with (at_builtin; refine wpList_append_lies _ rfl _ _ 25 rfl V.heap.size 3 i1 (.int .i64 0) 1 8 Try.underlying25 hi1 hz1' hz2 hz3 rfl (by decide) (.slice As ns cs) k _ rfl (HO3.out.alloc _) ⟨w3.heap.size, 0, none⟩ 1 1 [.int .i64 x] rfl rfl (World.news_of_block (heap_alloc_new _ _)) (by simp [Value.oneCell']) (by decide) (by unfold maxLen; omega) (by omega) (by simp; omega) (w3.heap.size + 1) (by simp) ?_; intro g4 cap4 Z hown hgrow _ _; have HBZ := Lib.hid ((HB3.out.alloc HB3.out.size _).grown hgrow (by simp; omega) (fun k hk => (ownsRow_lt HO3.out hk).1)); have HOZ := Lib.hid hown; clear hown hgrow)
      have HOZ' := Lib.hid (show Z.ownsRow V.heap.size 3 1 (.slice (some ⟨g4, 0, none⟩) (k + 1) cap4) (k + 1) (ints ((lf.map Ar.x).take (k + 1))) by
        have e : (lf.map Ar.x)[k]? = some x := by rw [List.getElem?_map, HAK.out, HXA.out]; rfl
        rw [take_snoc e, ints_snoc]
        exact HOZ.out)
      go_roundw
      case rel => exact ⟨k + 1, by omega, by go_num, HBZ, HOZ'⟩
      case measure => simp only [intOf]; omega
    · obtain rfl : k = l.length := by omega
      have hfin := ho.out
      rw [List.take_of_length_le (by rw [List.length_map, HLL.out]; exact Nat.le_refl _)] at hfin
      have HP := Lib.hid (fun (hd : True) => show MxPost N s t l w (.returned (.tuple #[.int .i64 val, u7, .int .i64 0])) wr from ⟨lf, val, u7, rfl, HBEST.out, own_mono (by rw [HLL.out]; exact hfin) HBV.out.size, below_join HBV.out hB.out HBV.out.size⟩)
      clear h9 hfin
      go_wp2_with (fail)
      exact retTTT rfl rfl rfl rfl rfl (HP.out trivial)
end Go.Proofs.Ytglpaihadongkaa
