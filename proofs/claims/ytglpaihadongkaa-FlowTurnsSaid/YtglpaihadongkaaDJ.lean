/-
  DERIVED. The law FlowTurns (stage 5; written by gen/flow_DJ.py).
-/
import Derived.Test.YtglpaihadongkaaDI
import Derived.Test.YtglpaihadongkaaCC
import Derived.Test.YtglpaihadongkaaCE
namespace Go.Proofs.Ytglpaihadongkaa
open Go.RowKit Go.Shelf
set_option maxRecDepth 100000
set_option linter.unusedSimpArgs false
set_option linter.unusedVariables false

theorem turnL_snoc {l : List (Int × Int × Int)} {k : Nat} {x : Int × Int × Int} (h : l[k]? = some x) : turnL (l.take (k + 1)) = turnL (l.take k) ++ [(x.2.1, x.1, x.2.2)] := by
  unfold turnL
  rw [take_snoc h, List.map_append]
  rfl
theorem cellsA_snoc (l : List (Int × Int × Int)) (u v c : Int) : cellsA (l ++ [(u, v, c)]) = cellsA l ++ [.int .i64 u, .int .i64 v, .int .i64 c] := by
  rw [cellsA_append]
  rfl
theorem cellsA_raise (l : List (Int × Int × Int)) : ∀ {i : Nat} {x : Int × Int × Int} {k : Int}, l[i]? = some x → cellsA (raiseL l i k) = (cellsA l).set (i * 3 + 2) (.int .i64 (x.2.2 + k)) := by
  induction l with
  | nil => intro i x k h; simp at h
  | cons q l ih =>
    intro i x k h
    cases i with
    | zero =>
      simp at h
      subst h
      rfl
    | succ i =>
      have e := ih (i := i) (x := x) (k := k) (by simpa using h)
      show cellsA (q :: raiseL l i k) = _
      have e1 : ∀ m : List (Int × Int × Int), cellsA (q :: m) = .int .i64 q.1 :: .int .i64 q.2.1 :: .int .i64 q.2.2 :: cellsA m := fun m => rfl
      rw [e1, e1, e, show (i + 1) * 3 + 2 = (i * 3 + 2) + 1 + 1 + 1 by omega]
      rfl
theorem out_cell {S : Nat → Prop} {X Y : World} (h : Out S X Y) {b o : Nat} {ob : Obj} (hb : X.heap[b]? = some ob) (hs : ¬ S b) : Y.cell? ⟨b, o, none⟩ = X.cell? ⟨b, o, none⟩ := by
  have e := h.same b ob hs hb
  unfold World.cell?
  simp only [e, hb]
theorem own_out {S : Nat → Prop} {X Y : World} {base : Nat} {e : TypeId} {size n : Nat} {v : Value} {xs : List Value} (h : X.ownsRow base e size v n xs) (hO : Out S X Y) (hs : ∀ g, v.ownBlock = some g → ¬ S g) : Y.ownsRow base e size v n xs :=
  own_row_kept h fun g cur hg hc => hO.same g _ (hs g hg) hc
theorem ptSl_out {S : Nat → Prop} {X Y : World} {A : Option Addr} {n c : Nat} {l : List (Int × Int × Int)} (h : PtSl X (.slice A n c) l) (hO : Out S X Y) (hs : ∀ b o, A = some ⟨b, o, none⟩ → ¬ S b) : PtSl Y (.slice A n c) l := by
  obtain ⟨A', c', e, h2, h3, h4⟩ := h
  injection e with e1 e2 e3
  subst e1 e2 e3
  refine ⟨A, c, rfl, h2, h3, fun h0 => ?_⟩
  obtain ⟨b, o, e, hlt, hc⟩ := h4 h0
  obtain ⟨ob, hob⟩ : ∃ ob, X.heap[b]? = some ob := ⟨_, Array.getElem?_eq_getElem hlt⟩
  refine ⟨b, o, e, Nat.lt_of_lt_of_le hlt hO.size, fun j p hp => ?_⟩
  obtain ⟨c0, c1, c2⟩ := hc j p hp
  exact ⟨(out_cell hO hob (hs b o e)).trans c0, (out_cell hO hob (hs b o e)).trans c1, (out_cell hO hob (hs b o e)).trans c2⟩
set_option maxHeartbeats 32000000 in
theorem row_FlowTurns (w : World) (n : Nat) (hn : n ≤ 255) (L : Value) (l : List (Nat × Nat × Nat)) (hL : EdSl w L l) (a : Nat) (ha : a ≤ 255) (b : Nat) (hb : b ≤ 255) (at_ : Nat) (hat : at_ ≤ 255) (kk : Nat) (hkk : kk ≤ 255) :
    Calls Try.prog 8 #[.int .u8 (n : Int), L, .int .u8 (a : Int), .int .u8 (b : Int), .int .u8 (at_ : Int), .int .u8 (kk : Int)] w fun e w' => e = .returned (.bool true) ∧ Below w.heap.size w w' := by
  have hNb : 2 ≤ nodesS n ∧ nodesS n ≤ 10 := by unfold nodesS; omega
  have hl40 : (l.take 40).length ≤ 40 := by rw [List.length_take]; omega
  have hok : ntOk (nodesS n : Int) (arcsS (nodesS n) (l.take 40)) = true := arcsS_ok ⟨hNb.1, by omega⟩ hl40 (fun p hp => hL.small p (List.mem_of_mem_take hp))
  have hcap : ∀ q ∈ arcsS (nodesS n) (l.take 40), q.2.2 ≤ 255 := arcsS_cap (fun p hp => hL.small p (List.mem_of_mem_take hp))
  obtain ⟨hs, ht, hst⟩ := endS_ok (a := a) (b := b) hNb.1
  have HSM := Lib.hid (c_small n hn L l a b ha hb w hL)
  unfold SmPost at HSM
  obtain ⟨N, hN⟩ : ∃ N, N = nodesS n := ⟨_, rfl⟩
  rw [← hN] at hNb hok hs ht hst HSM hcap
  obtain ⟨s, hS⟩ : ∃ s, s = a % N := ⟨_, rfl⟩
  obtain ⟨t, hT⟩ : ∃ t, t = endS N a b := ⟨_, rfl⟩
  obtain ⟨ar, hAr⟩ : ∃ r, r = arcsS N (l.take 40) := ⟨_, rfl⟩
  rw [← hS] at hs hst HSM
  rw [← hT] at ht hst HSM
  rw [← hAr] at hok HSM hcap
  have hlen : ar.length ≤ 40 := by rw [hAr]; have := arcsS_len N (l.take 40); omega
  have HOK := Lib.hid hok
  have HCAP := Lib.hid hcap
  obtain ⟨A0, c0, rfl, -, -⟩ := hL.shape
  have HM := Lib.hid (fun (L : List (Int × Int × Int)) (hL : ntOk (N : Int) L = true) (v : Value) (X : World) (hX : PtSl X v L) => c_Max0 N s t v L hs ht hst X hX hL)
  have HMT := Lib.hid (fun (L : List (Int × Int × Int)) (hL : ntOk (N : Int) L = true) (v : Value) (X : World) (hX : PtSl X v L) => c_Max0 N t s v L ht hs (fun e => hst e.symm) X hX hL)
  have HC := Lib.hid (fun (v : Value) (X : World) (hX : PtSl X v ar) => c_Critical0 N s t v ar hs ht hst X hX hok)
  have HWK := Lib.hid (fun (X : World) => c_works X)
  unfold ntV at HM HMT HC HSM
  have HS_ := Lib.hid (And.intro hs (And.intro ht hst))
  clear hN hS hT hAr hok hL hl40 hcap hst
  go_enter Try.func8, Try.ntmps8
  go_wp2_with (fail)
  go_at_call 27
  refine HSM.out.mono ?_
  rintro e w1 ⟨P, rfl, hown1, b1⟩
  have HOW1 := Lib.hid hown1
  have HP1 := Lib.hid (own_ptSl hown1)
  have HB1 := Lib.hid b1
  clear hown1 b1
  obtain ⟨A, c, rfl, -, -⟩ := HP1.out.shape
  obtain ⟨V, hV⟩ : ∃ V, V = w1.alloc (.cells #[.int .i64 (N : Int), .slice A ar.length c] 24) := ⟨_, rfl⟩
  have BV : Below w1.heap.size w1 V := by subst hV; exact (Below.refl _ _).alloc (Nat.le_refl _) _
  have HBV := Lib.hid (below_join HB1.out BV HB1.out.size)
  have HLV := Lib.hid (show V.heap[w1.heap.size]? = some (.cells #[.int .i64 (N : Int), .slice A ar.length c] 24 (0, 0)) by subst hV; exact heap_alloc_new _ _)
  have HOWV := Lib.hid (own_row_kept HOW1.out fun g cur hg hc => (BV.block _ (at_lt hc)).trans hc)
  have hzV := at_lt HLV.out
  have HX := Lib.hid (fun (X : World) (hX : Below V.heap.size V X) => (⟨⟨cell_of ((hX.block _ hzV).trans HLV.out) rfl, cell_of ((hX.block _ hzV).trans HLV.out) rfl⟩, (own_ptSl HOWV.out).on hX (Nat.le_refl _)⟩ : (X.cell? ⟨w1.heap.size, 0, none⟩ = some (.int .i64 (N : Int)) ∧ X.cell? ⟨w1.heap.size, 1, none⟩ = some (.slice A ar.length c)) ∧ PtSl X (.slice A ar.length c) ar))
  clear BV
  obtain ⟨⟨x0, x1⟩, p0⟩ := HX.out V (Below.refl _ _)
  rw [hV] at x0 x1
  go_wp2_with (fail)
  rw [← hV]
  clear hV x0 x1
  go_at_call 19
  refine (HM.out ar HOK.out (.slice A ar.length c) V p0).mono ?_
  rintro e w2 ⟨lf, val, v2, rfl, hbest, -, b2⟩
  have HB2 := Lib.hid b2
  have HBEST := Lib.hid hbest
  clear hbest p0 b2
  obtain ⟨⟨x0, x1⟩, p0⟩ := HX.out w2 HB2.out
  obtain ⟨M, hM⟩ : ∃ M, M = w2.alloc (.cells #[.int .i64 (N : Int), .slice none 0 0] 24) := ⟨_, rfl⟩
  have bM : Below w2.heap.size w2 M := by subst hM; exact (Below.refl _ _).alloc (Nat.le_refl _) _
  obtain ⟨bm, hbm⟩ : ∃ b, b = w2.heap.size := ⟨_, rfl⟩
  have HLM := Lib.hid (show M.heap[bm]? = some (.cells #[.int .i64 (N : Int), .slice none 0 0] 24 (0, 0)) by subst hM hbm; exact heap_alloc_new _ _)
  have HBM := Lib.hid (show Below bm w2 M by rw [hbm]; exact bM)
  have hVb : V.heap.size ≤ bm := by rw [hbm]; exact HB2.out.size
  have hzM := at_lt HLM.out
  obtain ⟨⟨y0, y1⟩, -⟩ := HX.out M (below_join HB2.out HBM.out (by omega))
  obtain ⟨i0, hi0, hzz1, hzz2, hzz3⟩ := info_parts arc_info
  have HBMN := Lib.hid hbm
  rw [hM] at y0 y1
  clear bM p0
  go_wp2_with (fail)
  rw [← hM, ← hbm]
  clear hM hbm x0 x1 y0 y1
  go_loopw [54] (fun i wr => ∃ (k : Nat) (v : Value), k ≤ ar.length ∧ i = .int .i64 (k : Int) ∧ Hid (Below bm w2 wr) ∧ Hid (wr.heap[bm]? = some (.cells #[.int .i64 (N : Int), v] 24 (0, 0))) ∧ Hid (wr.ownsRow (bm + 1) 39 3 v (turnL (ar.take k)).length (cellsA (turnL (ar.take k))))) (fun i _ => ar.length - (intOf i).toNat)
  case atStart => exact ⟨0, _, Nat.zero_le _, rfl, HBM, HLM, Lib.hid (World.ownsRow_nil _ _ _ _)⟩
  case round =>
    obtain ⟨k, v, hk, rfl, hB, hbx, ho⟩ := hrel
    have hki : ((k : Nat) : Int).toNat = k := by omega
    obtain ⟨wa, hwa⟩ : ∃ z, z = wr := ⟨_, rfl⟩
    subst hwa
    have HBA := Lib.hid (show Below V.heap.size V wa from below_join HB2.out hB.out (by omega))
    by_cases hlt : k < ar.length
    · obtain ⟨⟨xu, xv, xc⟩, hx⟩ : ∃ x, ar[k]? = some x := ⟨_, List.getElem?_eq_getElem hlt⟩
      obtain ⟨⟨x0, x1⟩, p0⟩ := HX.out wa HBA.out
      obtain ⟨rb, ro, rc, e, hrb, -, -, z0, z1, z2⟩ := p0.at_ hx
      injection e with e1 hle e2
      clear hle
      subst e1 e2
      have hlen2 : (turnL (ar.take k)).length ≤ 40 := by rw [turnL_len, List.length_take]; omega
      obtain ⟨nn, hnn⟩ : ∃ m, m = (turnL (ar.take k)).length := ⟨_, rfl⟩
      rw [← hnn] at ho hlen2
      have HNN := Lib.hid hnn
      have HXX := Lib.hid hx
      obtain ⟨As, ms, cs, rfl⟩ := own_shape ho.out
      have hzr := hB.out.size
      have hbl := at_lt hbx.out
      have b0 : (wa.alloc (.cells #[.int .i64 xu, .int .i64 xv, .int .i64 xc] 39)).cell? ⟨bm, 0, none⟩ = some (.int .i64 (N : Int)) := cell_of (old_heap _ hbx.out) rfl
      have b1 : (wa.alloc (.cells #[.int .i64 xu, .int .i64 xv, .int .i64 xc] 39)).cell? ⟨bm, 1, none⟩ = some (.slice As ms cs) := cell_of (old_heap _ hbx.out) rfl
      clear hx hnn p0
      go_wp2_with (at_builtin; refine wpList_append_lies _ rfl _ _ 22 rfl (bm + 1) 39 i0 (.agg #[.int .i64 0, .int .i64 0, .int .i64 0]) 3 24 Try.underlying22 hi0 hzz1 hzz2 hzz3 rfl (by decide) (.slice As ms cs) nn _ rfl ((ho.out.alloc _).alloc _) ⟨wa.heap.size + 1, 0, none⟩ 1 1 [.int .i64 xv, .int .i64 xu, .int .i64 xc] (by simp [Act.eval, Act.put]) rfl (by have h := World.news_of_block (heap_alloc_new (wa.alloc (.cells #[.int .i64 xu, .int .i64 xv, .int .i64 xc] 39)) (.cells #[.int .i64 xv, .int .i64 xu, .int .i64 xc] 39)); simpa using h) (by simp [Value.oneCell']) (by decide) (by unfold maxLen; omega) (by omega) (by simp; omega) (wa.heap.size + 1 + 1) (by simp) ?_; intro g4 cap4 Z hown hgrow _ _; have HZ := Lib.hid ((((Below.refl (bm + 1) wa).alloc (by omega) _).alloc (by simp; omega) _).grown hgrow (by simp; omega) (fun k hk => (ownsRow_lt ho.out hk).1)); have HBZ := Lib.hid ((HZ.out.block bm (by omega)).trans hbx.out); have c1 : Z.cell? ⟨bm, 1, none⟩ = some (.slice As ms cs) := cell_of HBZ.out rfl; have fz : Z.frozen? ⟨bm, 1, none⟩ = false := (by simp [World.frozen?, HBZ.out]); have HOZ := Lib.hid hown; clear hown hgrow)
      have HB3 := Lib.hid ((below_join hB.out HZ.out (Nat.le_succ bm)).setCell (p := ⟨bm, 1, none⟩) (Nat.le_refl _) (.slice (some ⟨g4, 0, none⟩) (nn + 1) cap4))
      have HX3 := Lib.hid (row_set3 (i := 1) HBZ.out (.slice (some ⟨g4, 0, none⟩) (nn + 1) cap4))
      have HO3 := Lib.hid (show (Z.setCell ⟨bm, 1, none⟩ (.slice (some ⟨g4, 0, none⟩) (nn + 1) cap4)).ownsRow (bm + 1) 39 3 (.slice (some ⟨g4, 0, none⟩) (nn + 1) cap4) (turnL (ar.take (k + 1))).length (cellsA (turnL (ar.take (k + 1)))) by
        rw [turnL_snoc HXX.out, List.length_append, List.length_singleton, ← HNN.out, cellsA_snoc]
        exact own_row_kept HOZ.out fun g cur hg hc => by
          have hge := (ownsRow_lt HOZ.out hg).1
          rw [Below.heap_setCell _ ⟨bm, 1, none⟩ _ g (show g ≠ bm by omega)]
          exact hc)
      go_roundw
      case rel => exact ⟨k + 1, _, by omega, by go_num, HB3, HX3, HO3⟩
      case measure => simp only [intOf]; omega
    · obtain rfl : k = ar.length := by omega

      rw [List.take_length] at ho
      obtain ⟨hs2, ht2, hst2⟩ := HS_.out
      have HPT := Lib.hid (own_ptSl ho.out)
      have m0 : wa.cell? ⟨bm, 0, none⟩ = some (.int .i64 (N : Int)) := cell_of hbx.out rfl
      have m1 : wa.cell? ⟨bm, 1, none⟩ = some v := cell_of hbx.out rfl
      clear hlt hk hki
      go_wp2_with (fail)
      go_at_call 19
      refine (HMT.out (turnL ar) (turnL_ok HOK.out) v wa HPT.out).mono ?_
      rintro e w3 ⟨lf3, val3, v3, rfl, hb3, -, b3⟩
      obtain rfl : val3 = val := HBEST.out.turned hb3 hs2 ht2 hst2
      have HB3 := Lib.hid (below_join HBA.out b3 HBA.out.size)
      have hnv : (val3 != val3) = false := by simp
      clear hb3 b3 m0 m1
      obtain ⟨⟨x0, x1⟩, p3⟩ := HX.out w3 HB3.out
      by_cases hn0 : ar.length = 0
      · have e0 : ((ar.length : Int) == 0) = true := by rw [hn0]; rfl
        obtain rfl : val3 = 0 := by
          have h := HBEST.out
          rw [List.eq_nil_of_length_eq_zero hn0] at h
          exact h.none_
        clear hn0 p3
        go_wp2_with (fail)
        go_at_call 18
        refine (HWK.out w3).mono ?_
        rintro e w8 ⟨rfl, b8⟩
        have HB8 := Lib.hid (below_join HBV.out (below_join HB3.out b8 HB3.out.size) HBV.out.size)
        clear b8
        go_wp2_with (fail)
        go_ret
        exact ⟨rfl, HB8.out⟩
      have e0 : ((ar.length : Int) == 0) = false := by rw [beq_eq_false_iff_ne]; omega
      obtain ⟨g, rfl, hgw⟩ : ∃ g, A = some ⟨g, 0, none⟩ ∧ w.heap.size ≤ g := by
        obtain ⟨k1, ⟨e, h0⟩ | ⟨g', cap', cur, e, k3, -⟩⟩ := HOWV.out
        · exact absurd h0 hn0
        · injection e with e1 _ _
          exact ⟨g', e1, k3⟩
      obtain ⟨i, hi⟩ : ∃ i, i = at_ % ar.length := ⟨_, rfl⟩
      have hil : i < ar.length := by rw [hi]; exact Nat.mod_lt _ (by omega)
      have hmo : (at_ : Int) % (ar.length : Int) = (i : Int) := by rw [hi]; rfl
      have hmo2 : Int.tmod (at_ : Int) (ar.length : Int) = (i : Int) := by rw [hi]; rfl
      have HIL := Lib.hid hil
      have hlp : ((ar.length : Int) == 0) = false := e0
      clear hi
      go_wp2_with (fail)
      go_at_call 25
      refine (HC.out (.slice (some ⟨g, 0, none⟩) ar.length c) w3 p3).mono ?_
      rintro e w6 ⟨lf6, val6, v6, xs6, rfl, hb6, hxs6, ho6, b6⟩
      obtain rfl : val3 = val6 := HBEST.out.uniq hb6 hs2
      have HO6 := Lib.hid ho6
      have HX6 := Lib.hid hxs6
      have HB6 := Lib.hid (below_join HB3.out b6 HB3.out.size)
      have HOW6 := Lib.hid (own_row_kept HOWV.out fun g cur hg hc => (HB6.out.block _ (at_lt hc)).trans hc)
      clear hb6 hxs6 ho6 b6 x0 x1 p3
      obtain ⟨⟨x0, x1⟩, p6⟩ := HX.out w6 HB6.out
      obtain ⟨⟨xu, xv, xc⟩, hx⟩ : ∃ x, ar[i]? = some x := ⟨_, List.getElem?_eq_getElem hil⟩
      have z2 : w6.cell? ⟨g, i * 3 + 2, none⟩ = some (.int .i64 xc) := by
        rw [HOW6.out.cellAt (i * 3 + 2) (by omega)]
        exact (cellsA_get ar i _ hx).2.2
      have f2 := HOW6.out.frozenAt (i * 3 + 2)
      have hxc : 0 ≤ xc ∧ xc ≤ 255 := ⟨(arOk_iff.1 ((ntOk_iff.1 HOK.out).2.2.2 _ (List.mem_of_getElem? hx))).2.2.2.1, HCAP.out _ (List.mem_of_getElem? hx)⟩
      obtain ⟨yc, hyc⟩ : ∃ y, y = xc + (kk : Int) := ⟨_, rfl⟩
      have hwr : IntKind.i64.wrap (xc + (kk : Int)) = yc := by rw [hyc]; exact IntWalk.i64_in _ (by omega)
      have hgl : g < w1.heap.size := (ownsRow_lt HOW1.out (g := g) rfl).2
      obtain ⟨W7, hW7⟩ : ∃ W, W = w6.setCell ⟨g, i * 3 + 2, none⟩ (.int .i64 yc) := ⟨_, rfl⟩
      have HO7 := Lib.hid (show Out (fun b => b = g) w6 W7 by rw [hW7]; exact Out.store (S := fun b => b = g) rfl _)
      have HR7 := Lib.hid (show W7.ownsRow w.heap.size 39 3 (.slice (some ⟨g, 0, none⟩) ar.length c) ar.length (cellsA (raiseL ar i (kk : Int))) by
        rw [hW7, cellsA_raise ar hx, show (xu, xv, xc).2.2 + (kk : Int) = yc from hyc.symm]
        exact own_set HOW6.out)
      have HBX7 := Lib.hid (HO7.out.same w1.heap.size _ (show ¬ w1.heap.size = g by omega) ((HB6.out.block _ hzV).trans HLV.out))
      have X0 : W7.cell? ⟨w1.heap.size, 0, none⟩ = some (.int .i64 (N : Int)) := cell_of HBX7.out rfl
      have X1 : W7.cell? ⟨w1.heap.size, 1, none⟩ = some (.slice (some ⟨g, 0, none⟩) ar.length c) := cell_of HBX7.out rfl
      have HYC := Lib.hid hyc
      rw [hW7] at X0 X1
      clear hx hyc p6
      go_wp2_with (fail)
      rw [← hW7]
      clear hW7 X0 X1 z2 f2 x0 x1
      have HR7L := Lib.hid (show W7.ownsRow w.heap.size 39 3 (.slice (some ⟨g, 0, none⟩) (raiseL ar i (kk : Int)).length c) (raiseL ar i (kk : Int)).length (cellsA (raiseL ar i (kk : Int))) by rw [raiseL_len]; exact HR7.out)
      have PT7 := Lib.hid (show PtSl W7 (.slice (some ⟨g, 0, none⟩) ar.length c) (raiseL ar i (kk : Int)) by have h := own_ptSl HR7L.out; rwa [raiseL_len] at h)
      go_at_call 19
      refine (HM.out (raiseL ar i (kk : Int)) (raiseL_ok HOK.out ⟨by omega, by omega⟩ HCAP.out) (.slice (some ⟨g, 0, none⟩) ar.length c) W7 PT7.out).mono ?_
      rintro e w8 ⟨lf8, val8, v8, rfl, hb8, -, b8⟩
      have hmore := HBEST.out.more hb8 hs2 HIL.out (by omega)
      have hlit := HBEST.out.little HCAP.out hlen
      obtain ⟨sm, hsm⟩ : ∃ z, z = val3 + (kk : Int) := ⟨_, rfl⟩
      have hws : IntKind.i64.wrap (val3 + (kk : Int)) = sm := by rw [hsm]; exact IntWalk.i64_in _ (by omega)
      have g1 : decide (val8 < val3) = false := decide_eq_false (by omega)
      have g2 : decide (sm < val8) = false := decide_eq_false (by omega)
      have HB8 := Lib.hid b8
      have HBX8 := Lib.hid ((b8.block _ (at_lt HBX7.out)).trans HBX7.out)
      have HR8 := Lib.hid (own_row_kept HR7L.out fun g cur hg hc => (b8.block _ (at_lt hc)).trans hc)
      have x0 : w8.cell? ⟨w1.heap.size, 0, none⟩ = some (.int .i64 (N : Int)) := cell_of HBX8.out rfl
      have x1 : w8.cell? ⟨w1.heap.size, 1, none⟩ = some (.slice (some ⟨g, 0, none⟩) ar.length c) := cell_of HBX8.out rfl
      obtain ⟨j, hj⟩ : ∃ j, j = i + 1 := ⟨_, rfl⟩
      have hwj : IntKind.i64.wrap ((i : Int) + 1) = (j : Int) := by rw [hj]; exact IntWalk.i64_in _ (by omega)
      have HDL := Lib.hid (show Calls Try.prog 29 #[.slice (some ⟨g, 0, none⟩) ar.length c, .int .i64 (i : Int), .int .i64 (j : Int)] w8 (fun e w' => e = .returned (.slice (some ⟨g, 0, none⟩) (ar.length - 1) c) ∧ PtSl w' (.slice (some ⟨g, 0, none⟩) (ar.length - 1) c) (ar.eraseIdx i) ∧ Out (fun b => b = g) w8 w') by
        have h := c_DeleteArcs (raiseL ar i (kk : Int)) i j hj (by rw [raiseL_len]; exact HIL.out) w.heap.size g c w8 HR8.out
        rw [raiseL_len, raiseL_erase] at h
        exact h)
      clear hb8 b8 hmore hlit hsm hj
      go_wp2_with (fail)
      go_at_call 29
      refine HDL.out.mono ?_
      rintro e w9 ⟨rfl, hp9, hO9⟩
      have HP9 := Lib.hid hp9
      have HO9 := Lib.hid hO9
      have HBX9 := Lib.hid (hO9.same w1.heap.size _ (show ¬ w1.heap.size = g by omega) HBX8.out)
      clear hp9 hO9 x0 x1
      have y1 : w9.cell? ⟨w1.heap.size, 1, none⟩ = some (.slice (some ⟨g, 0, none⟩) ar.length c) := cell_of HBX9.out rfl
      have fz : w9.frozen? ⟨w1.heap.size, 1, none⟩ = false := by simp [World.frozen?, HBX9.out]
      obtain ⟨W9, hW9⟩ : ∃ W, W = w9.setCell ⟨w1.heap.size, 1, none⟩ (.slice (some ⟨g, 0, none⟩) (ar.length - 1) c) := ⟨_, rfl⟩
      have HBX10 := Lib.hid (show W9.heap[w1.heap.size]? = some (.cells #[.int .i64 (N : Int), .slice (some ⟨g, 0, none⟩) (ar.length - 1) c] 24 (0, 0)) by rw [hW9]; exact row_set3 (i := 1) HBX9.out _)
      have X0 : W9.cell? ⟨w1.heap.size, 0, none⟩ = some (.int .i64 (N : Int)) := cell_of HBX10.out rfl
      have X1 : W9.cell? ⟨w1.heap.size, 1, none⟩ = some (.slice (some ⟨g, 0, none⟩) (ar.length - 1) c) := cell_of HBX10.out rfl
      have HO10 := Lib.hid (show Out (fun b => b = w1.heap.size) w9 W9 by rw [hW9]; exact Out.store (S := fun b => b = w1.heap.size) rfl _)
      have HP10 := Lib.hid (ptSl_out HP9.out HO10.out (fun b o h => by
        injection h with h
        injection h with h1 h2
        subst h1
        show ¬ g = w1.heap.size
        omega))
      rw [hW9] at X0 X1
      go_wp2_with (fail)
      rw [← hW9]
      clear hW9 X0 X1 y1 fz
      go_at_call 19
      refine (HM.out (ar.eraseIdx i) (eraseL_ok HOK.out i) (.slice (some ⟨g, 0, none⟩) (ar.length - 1) c) W9 HP10.out).mono ?_
      rintro e w10 ⟨lf10, val10, v10, rfl, hb10, -, b10⟩
      have hcr := crAt_erase hb10 HOK.out hs2 HIL.out (val := val3)
      have hOall : Out (fun b => b = g ∨ b = w1.heap.size) w6 w10 := (((HO7.out.out fun k h => Or.inl h).trans (Out.of_below HB8.out (Nat.le_refl _))).trans ((HO9.out.out fun k h => Or.inl h).trans (HO10.out.out fun k h => Or.inr h))).trans (Out.of_below b10 (Nat.le_refl _))
      have hw3 : V.heap.size ≤ w3.heap.size := HB3.out.size
      have HOW10 := Lib.hid (own_out HO6.out hOall (fun q hq => by
        have h := (ownsRow_lt HO6.out hq).1
        omega))
      have HI10 := Lib.hid (own_intSl (l := nats xs6) (by rw [nats_len]; exact HOW10.out))
      obtain ⟨q, hq⟩ : ∃ q, decide (val10 < val3) = q := ⟨_, rfl⟩
      have HCT := Lib.hid (c_Contains v6 (i : Int) (nats xs6) w10 HI10.out q (by rw [nats_contains, HX6.out, filter_contains _ HIL.out, hcr, hq]))
      have HBE := Lib.hid (show Below w.heap.size w w10 from hOall.below (below_join HBV.out HB6.out HBV.out.size) (fun q hq h => by omega))
      have hqq : (q == q) = true := by simp
      clear hb10 b10 hcr hOall
      go_wp2_with (fail)
      go_at_call 28
      refine HCT.out.mono ?_
      rintro e w11 ⟨rfl, hw11⟩
      obtain rfl : w11 = w10 := hw11
      clear HCT
      go_wp2_with (fail)
      go_at_call 18
      refine (HWK.out w11).mono ?_
      rintro e w12 ⟨rfl, b12⟩
      have HB12 := Lib.hid (below_join HBE.out b12 HBE.out.size)
      clear b12
      go_wp2_with (fail)
      go_ret
      exact ⟨rfl, HB12.out⟩
end Go.Proofs.Ytglpaihadongkaa
