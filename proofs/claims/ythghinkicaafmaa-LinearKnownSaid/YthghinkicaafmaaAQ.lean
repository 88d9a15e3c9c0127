/-
  DERIVED. arrivals and slices.Values: iterators over what arrives (stage 6).
-/
import Derived.Test.YthghinkicaafmaaAO
namespace Go.Proofs.Ythghinkicaafmaa
open Go.RowKit Go.Shelf
attribute [local go_sem] Oper.semAt_some
set_option maxRecDepth 100000

/-- One number is yielded. -/
def okI (v : Array Value) (x : Int) : Prop := v = #[.int .i64 x]
theorem below_a3 (w : World) (o1 o2 o3 : Obj) : Below w.heap.size w (((w.alloc o1).alloc o2).alloc o3) :=
  (((Below.refl _ _).alloc (Nat.le_refl _) o1).alloc (by simp) o2).alloc (by simp; omega) o3
theorem c_arrivals (C : Int) (P I : Value) (n : Int) (w : World) (hI : ∃ A m c, I = .slice A m c) :
    Calls Try.prog 35 #[lnV C P, I, .int .i64 n] w fun e w' => e = .returned (.func (.func 49) #[] #[.pointer (some ⟨w.heap.size + 1 + 1, 0, none⟩), .pointer (some ⟨w.heap.size, 0, none⟩), .pointer (some ⟨w.heap.size + 1, 0, none⟩)]) ∧
      w' = ((w.alloc (.cells #[.int .i64 C, P] 24)).alloc (.cells #[I] 25)).alloc (.cells #[.int .i64 n] 3) := by
  obtain ⟨A, m, c, rfl⟩ := hI
  unfold lnV
  go_enter Try.func35, Try.ntmps35
  go_wp2_with (fail)
  exact bodyPost_ret (by simp [results, go_sem]) rfl ⟨rfl, rfl⟩
/-- Between two rounds of arrivals. -/
def ArI (Gd : Nat → Prop) (w : World) (S n : Nat) (ts : List Int) (J : List Int → World → Prop) (i : Value) (wr : World) : Prop :=
  ∃ (k : Nat) (pre : List Int), i = .int .i64 (k : Int) ∧ k ≤ n ∧ Hid (pre = ts.take k) ∧ Hid (KpG Gd w wr) ∧ S ≤ wr.heap.size ∧ J pre wr
theorem take_snoc {α : Type} {l : List α} {k : Nat} {x : α} (h : l[k]? = some x) : l.take (k + 1) = l.take k ++ [x] := by
  obtain ⟨hk, e⟩ := List.getElem?_eq_some_iff.1 h
  rw [List.take_succ_eq_append_getElem hk, e]
set_option maxHeartbeats 4000000 in
theorem c_arrivals1 (d : Nat) (hd : 1 ≤ d) (Gd : Nat → Prop) (bl bi bn : Nat) (C : Int) (ps : List (Int × Int × Int)) (ins : List (List Int)) (n : Nat) (hn : n ≤ 1000) (hp : ps.all ptOk = true) (hl : ps.length ≤ 16) (hi : inOk ins = true) (P I : Value)
    (w0 : World) (hP : PtSl w0 P ps) (hI : LiSl w0 I ins) (w : World) (hw : Below w0.heap.size w0 w) (hg : ∀ k, k < w0.heap.size → Gd k) (gl : Gd bl) (gi : Gd bi) (gn : Gd bn)
    (h1 : w.heap[bl]? = some (.cells #[.int .i64 C, P] 24 (0, 0))) (h2 : Boxed w bi 25 I) (h3 : Boxed w bn 3 (.int .i64 (n : Int))) :
    SeqIt d Try.prog 49 #[.pointer (some ⟨bn, 0, none⟩), .pointer (some ⟨bl, 0, none⟩), .pointer (some ⟨bi, 0, none⟩)] 0 Gd okI (amts ps ins n) w := by
  intro lp J Jx W hKW hlp hJE _ hY h0
  obtain ⟨ts, hts⟩ : ∃ ts, ts = amts ps ins n := ⟨_, rfl⟩
  have hlen : ts.length = n := by rw [hts]; exact amts_len _ _ _
  have HTS := Lib.hid (fun (k : Nat) (hk : k < n) => show ts[k]? = some (arr ps ins (k : Int)) by rw [hts]; exact amts_get _ _ hk)
  have hinit : ArI Gd w W.heap.size n ts J (.int .i64 0) W := ⟨0, [], rfl, Nat.zero_le _, Lib.hid rfl, Lib.hid hKW, Nat.le_refl _, h0⟩
  rw [← hts] at hY ⊢
  have x3 : W.cell? ⟨bn, 0, none⟩ = some (.int .i64 (n : Int)) := (show Boxed W bn 3 (.int .i64 (n : Int)) from hKW.same _ _ _ _ gn h3).cell
  have HY := Lib.hid hY
  have HJ := Lib.hid hJE
  have HI := Lib.hid hinit
  have HX := Lib.hid (fun (X : World) (hX : KpG Gd w X) => (⟨cell_of (hX.same _ _ _ _ gl h1) rfl, cell_of (hX.same _ _ _ _ gl h1) rfl, (show Boxed X bi 25 I from hX.same _ _ _ _ gi h2).cell, hP.kept hw hX hg, hI.kept hw hX hg⟩ :
    X.cell? ⟨bl, 0, none⟩ = some (.int .i64 C) ∧ X.cell? ⟨bl, 1, none⟩ = some P ∧ X.cell? ⟨bi, 0, none⟩ = some I ∧ PtSl X P ps ∧ LiSl X I ins))
  have HC := Lib.hid (fun (X : World) (t : Nat) (ht : t < n) (a : PtSl X P ps) (b : LiSl X I ins) => c_arriving C ps ins (t : Int) hp hl hi (by omega) P I X a b)
  obtain ⟨A, cA, rfl, -, -⟩ := hP.shape
  obtain ⟨A2, c2, rfl, -, -⟩ := hI.shape
  unfold lnV at HC
  clear hinit hY hJE h0 hts hp hi hP hI h1 h2 h3 hKW hw
  refine callsIn_of_wp Try.func49 rfl trivial ?_ rfl
  simp only [Try.ntmps49, List.size_toArray, List.length_cons, List.length_nil, Nat.reduceAdd, Nat.reduceSub, Array.replicate_succ, Array.replicate_zero, List.push_toArray, List.append_toArray, List.nil_append, List.cons_append]
  gi_wp2_with (fail)
  gi_loopw [7] (fun i wr => ArI Gd w W.heap.size n ts J i wr) (fun i wr => n - (intOf i).toNat)
  case atStart => exact HI.out
  case round =>
    obtain ⟨k, pre, rfl, hk, hpre, hK, hsz, hj⟩ := hrel
    have HJr := Lib.hid hj
    have hki : ((k : Nat) : Int).toNat = k := by omega
    by_cases hlt : k < n
    · obtain ⟨y0, y1, y2, hPt, hLi⟩ := HX.out wr hK.out
      have hkl : (k : Int) < (n : Int) := by omega
      have HCk := Lib.hid (HC.out wr k hlt hPt hLi)
      have HTk := Lib.hid (HTS.out k hlt)
      obtain ⟨z, hz⟩ : ∃ z, z = arr ps ins (k : Int) := ⟨_, rfl⟩
      rw [← hz] at HCk HTk
      clear hPt hLi hj hz x3
      gi_wp2_with (fail)
      refine ⟨trivial, ?_⟩
      gi_at_call 31
      refine (calls_wide HCk.out).mono ?_
      rintro e w1 ⟨rfl, b1⟩
      have HK1 := Lib.hid (hK.out.trans (KpG.of_below b1 (Nat.le_refl _)))
      have hz1 := Nat.le_trans hsz b1.size
      have HJ1 := Lib.hid (HJ.out _ _ _ HJr.out (OwnIt.of_below b1 (Nat.le_refl _)))
      have HPR := Lib.hid (show pre ++ [z] = ts.take (k + 1) by rw [hpre.out, take_snoc HTk.out])
      clear b1 y0 y1 y2
      obtain ⟨fn, tmps, assign, body, hy, hR⟩ := HY.out pre #[.int .i64 z] z w1 HJ1.out hz1 rfl (by rw [HPR.out]; exact List.take_prefix _ _)
      gi_wp2_with (fail)
      refine hR.mono ?_
      rintro e W3 (⟨rfl, hJ3, hk3⟩ | ⟨rfl, hJx3, -⟩)
      · have HJ3 := Lib.hid hJ3
        have HK3 := Lib.hid (HK1.out.trans hk3.good)
        have hz3 := Nat.le_trans hz1 hk3.size
        clear hJ3 hy hk3
        gi_wp2_with (fail)
        refine ⟨⟨k + 1, pre ++ [z], by go_num, by omega, HPR, HK3, hz3, HJ3.out⟩, ?_⟩
        simp only [intOf]; omega
      · have Hx := Lib.hid hJx3
        clear hJx3 hy
        gi_wp2_with (fail)
        refine bodyPost_ret (results_none rfl _ _ _) rfl ?_
        exact ⟨⟨_, rfl⟩, .inr ⟨_, (by rw [HPR.out]; exact List.take_prefix _ _), Hx.out⟩⟩
    · obtain rfl : k = n := by omega
      have HTE := Lib.hid (show ts = pre by rw [hpre.out, List.take_of_length_le (by omega)])
      clear hj
      gi_wp2_with (fail)
      refine bodyPost_end (results_none rfl _ _ _) rfl ?_
      exact ⟨⟨_, rfl⟩, .inl (by rw [HTE.out]; exact HJr.out)⟩
theorem c_Values (A : Option Addr) (m c : Nat) (w : World) :
    Calls Try.prog 40 #[.slice A m c] w fun e w' => e = .returned (.func (.func 51) #[] #[.pointer (some ⟨w.heap.size, 0, none⟩)]) ∧ w' = w.alloc (.cells #[.slice A m c] 32) := by
  go_enter Try.func40, Try.ntmps40
  go_wp2_with (fail)
  exact bodyPost_ret (by simp [results, go_sem]) rfl ⟨rfl, rfl⟩
set_option maxHeartbeats 4000000 in
theorem c_Values1 (d : Nat) (hd : 1 ≤ d) (Gd : Nat → Prop) (bs : Nat) (v : Value) (ts : List Int) (hn : ts.length ≤ 100000) (w0 : World) (hv : IntSl w0 v ts) (w : World) (hw : Below w0.heap.size w0 w) (hg : ∀ k, k < w0.heap.size → Gd k) (gs : Gd bs) (h1 : Boxed w bs 32 v) :
    SeqIt d Try.prog 51 #[.pointer (some ⟨bs, 0, none⟩)] 0 Gd okI ts w := by
  intro lp J Jx W hKW hlp hJE _ hY h0
  have hinit : ArI Gd w W.heap.size ts.length ts J (.int .i64 0) W := ⟨0, [], rfl, Nat.zero_le _, Lib.hid rfl, Lib.hid hKW, Nat.le_refl _, h0⟩
  have x1 : W.cell? ⟨bs, 0, none⟩ = some v := (show Boxed W bs 32 v from hKW.same _ _ _ _ gs h1).cell
  have HY := Lib.hid hY
  have HJ := Lib.hid hJE
  have HI := Lib.hid hinit
  have HX := Lib.hid (fun (X : World) (hX : KpG Gd w X) => (hv.kept hw hX hg : IntSl X v ts))
  obtain ⟨A, c, rfl, hc1, hc2⟩ := hv.shape
  unfold maxLen at hc2
  clear hinit hY hJE h0 hv h1 hKW hw
  refine callsIn_of_wp Try.func51 rfl trivial ?_ rfl
  simp only [Try.ntmps51, List.size_toArray, List.length_cons, List.length_nil, Nat.reduceAdd, Nat.reduceSub, Array.replicate_succ, Array.replicate_zero, List.push_toArray, List.append_toArray, List.nil_append, List.cons_append]
  gi_wp2_with (fail)
  gi_loopw [7] (fun i wr => ArI Gd w W.heap.size ts.length ts J i wr) (fun i wr => ts.length - (intOf i).toNat)
  case atStart => exact HI.out
  case round =>
    obtain ⟨k, pre, rfl, hk, hpre, hK, hsz, hj⟩ := hrel
    have HJr := Lib.hid hj
    have hki : ((k : Nat) : Int).toNat = k := by omega
    by_cases hlt : k < ts.length
    · obtain ⟨z, hz⟩ : ∃ z, ts[k]? = some z := ⟨_, List.getElem?_eq_getElem hlt⟩
      obtain ⟨b, o, c', e, hb, -, -, hcell⟩ := (HX.out wr hK.out).at_ hz
      injection e with e1 _ e2
      subst e1 e2
      have hkl : (k : Int) < (ts.length : Int) := by omega
      have HPR := Lib.hid (show pre ++ [z] = ts.take (k + 1) by rw [hpre.out, take_snoc hz])
      obtain ⟨fn, tmps, assign, body, hy, hR⟩ := HY.out pre #[.int .i64 z] z wr HJr.out hsz rfl (by rw [HPR.out]; exact List.take_prefix _ _)
      clear hj hz x1
      gi_wp2_with (fail)
      refine hR.mono ?_
      rintro e W3 (⟨rfl, hJ3, hk3⟩ | ⟨rfl, hJx3, -⟩)
      · have HJ3 := Lib.hid hJ3
        have HK3 := Lib.hid (hK.out.trans hk3.good)
        have hz3 := Nat.le_trans hsz hk3.size
        clear hJ3 hy hk3 hcell
        gi_wp2_with (fail)
        refine ⟨⟨k + 1, pre ++ [z], by go_num, by omega, HPR, HK3, hz3, HJ3.out⟩, ?_⟩
        simp only [intOf]; omega
      · have Hx := Lib.hid hJx3
        clear hJx3 hy hcell
        gi_wp2_with (fail)
        refine bodyPost_ret (results_none rfl _ _ _) rfl ?_
        exact ⟨⟨_, rfl⟩, .inr ⟨_, (by rw [HPR.out]; exact List.take_prefix _ _), Hx.out⟩⟩
    · obtain rfl : k = ts.length := by omega
      have HTE := Lib.hid (show ts = pre by rw [hpre.out, List.take_of_length_le (by omega)])
      clear hj
      gi_wp2_with (fail)
      refine bodyPost_end (results_none rfl _ _ _) rfl ?_
      exact ⟨⟨_, rfl⟩, .inl (by rw [HTE.out]; exact HJr.out)⟩
end Go.Proofs.Ythghinkicaafmaa
