/-
  DERIVED. onward: more is sent along shortest ways (stage 5). (Written by gen/genBE.py.)
-/
import Derived.Test.YtglpaihadongkaaBD
import Derived.WalkMore
namespace Go.Proofs.Ytglpaihadongkaa
open Go.RowKit Go.Shelf
attribute [local go_sem] Oper.semAt_some
set_option maxRecDepth 100000
set_option linter.unusedSimpArgs false
set_option linter.unusedVariables false

/-- What onward leaves. -/
def OnPost (r : Rs) (s : Sd) (t : Nat) (l : List Ar) (F : List Int) (p : Nat) (most : Int) (W : World) (e : Ending) (w' : World) : Prop :=
  ∃ d l' F', e = .returned (.int .i64 d) ∧ Onw t l F p most l' F' d ∧ Row w' r.bR r.oR (rooms l') ∧ Row w' s.bF s.oF F' ∧ Out (fun k => k = r.bR ∨ k = s.bF) W w'
/-- Between two rounds of onward: bL: the box of what is left; V: the world as the loop began. -/
structure OnI (r : Rs) (s : Sd) (t : Nat) (l : List Ar) (F : List Int) (p : Nat) (most : Int) (bL : Nat) (W V : World) (pre : List Nat) (l1 : List Ar) (F1 : List Int) (left : Int) (X : World) : Prop where
  mid : Mid t l F p most pre l1 F1 left
  rr : Row X r.bR r.oR (rooms l1)
  rf : Row X s.bF s.oF F1
  lf : Boxed X bL 3 (.int .i64 left)
  kp : KpG (fun k => k ≠ r.bR ∧ k ≠ s.bF ∧ k ≠ bL) V X
  out : Out (fun k => k = r.bR ∨ k = s.bF) W X
section
variable {r : Rs} {s : Sd} {t : Nat} {l : List Ar} {F : List Int} {p : Nat} {most : Int} {bL : Nat} {W V : World} {pre : List Nat} {l1 : List Ar} {F1 : List Int} {left : Int} {X Y : World}
theorem OnI.moved (h : OnI r s t l F p most bL W V pre l1 F1 left X) (hk : ∀ (k : Nat) (cs : Array Value) (T : TypeId) (fr : Nat × Nat), X.heap[k]? = some (.cells cs T fr) → Y.heap[k]? = some (.cells cs T fr)) (hs : X.heap.size ≤ Y.heap.size) (ho : Out (fun k => k = r.bR ∨ k = s.bF) W Y) : OnI r s t l F p most bL W V pre l1 F1 left Y :=
  ⟨h.mid, h.rr.kept (fun cs t fr hb => hk _ cs t fr hb), h.rf.kept (fun cs t fr hb => hk _ cs t fr hb), hk _ _ _ _ h.lf, h.kp.trans ⟨hs, fun k cs t fr _ hb => hk k cs t fr hb⟩, ho⟩
theorem OnI.own {T : Nat} (h : OnI r s t l F p most bL W V pre l1 F1 left X) (hE : OwnIt T 0 X Y) (hT : W.heap.size ≤ T) : OnI r s t l F p most bL W V pre l1 F1 left Y :=
  h.moved (fun k cs t fr hb => hE.same k _ hb (by rcases Nat.lt_or_ge k T with g | g; exact .inl g; exact .inr ⟨rfl, by omega⟩)) hE.size (h.out.own hE hT)
theorem mvTo_mem {l : List Ar} {m q : Nat} (h : mvTo l m = some q) : ∃ a ∈ l, q = a.u ∨ q = a.v := by
  unfold mvTo at h
  obtain ⟨a, ha, e⟩ := Option.map_eq_some_iff.1 h
  refine ⟨a, List.mem_of_getElem? ha, ?_⟩
  split at e
  · exact .inr e.symm
  · exact .inl e.symm
theorem Mid.far_le {N : Nat} (h : Mid t l F p most pre l1 F1 left) (hl : ∀ n, ff F n ≤ (N : Int)) (n : Nat) : ff F1 n ≤ (N : Int) := by
  by_cases e : ff F1 n = ff F n
  · rw [e]; exact hl n
  · have := (h.lev n e).1; omega
theorem caps_ends {N : Nat} {l l' : List Ar} (h : Go.Proofs.Ytglpaihadongkaa.ends l' = Go.Proofs.Ytglpaihadongkaa.ends l) (hc : ∀ a ∈ l, a.u < N ∧ a.v < N ∧ a.cap ≤ 100000000) : ∀ a ∈ l', a.u < N ∧ a.v < N ∧ a.cap ≤ 100000000 := fun a ha => by
  obtain ⟨i, hi⟩ := List.getElem?_of_mem ha
  obtain ⟨b, hb, e1, e2, e3⟩ := ends_get h hi
  have := hc b (List.mem_of_getElem? hb)
  rw [e1, e2, e3] at this
  exact this
theorem room_bounds {N : Nat} {l : List Ar} (hf : Fits l) (hc : ∀ a ∈ l, a.u < N ∧ a.v < N ∧ a.cap ≤ 100000000) (k : Nat) : 0 ≤ mvRoom l k ∧ mvRoom l k ≤ 100000000 := by
  unfold mvRoom
  rcases h : l[k / 2]? with _ | a
  · simp
  · have h1 := hf a (List.mem_of_getElem? h)
    have h2 := hc a (List.mem_of_getElem? h)
    show 0 ≤ (if k % 2 = 0 then a.cap - a.x else a.x) ∧ (if k % 2 = 0 then a.cap - a.x else a.x) ≤ 100000000
    split <;> omega
theorem Out.keeps {T : Nat → Prop} {B : Nat} (h : Out T X Y) (hT : ∀ k, T k → k < B) : KeepsFrom B X Y := ⟨h.size, fun k o hk ho _ => h.same k o (fun hh => by have := hT k hh; omega) ho⟩
theorem Out.kpIt {T Gd : Nat → Prop} {B : Nat} (h : Out T X Y) (hT : ∀ k, T k → k < B) (hG : ∀ k, Gd k → ¬ T k) : KpIt B 0 Gd X Y :=
  ⟨h.size, fun k cs t fr hk hc => h.same k _ (by rcases hk with g | g; exact hG k g; omega) hc, fun k o hk ho _ => h.same k o (fun hh => by have := hT k hh; omega) ho⟩
theorem OnI.asked {m : Nat} (h : OnI r s t l F p most bL W V pre l1 F1 left X) (hm : mvFrom l m = some p) : opR r.bR r.oR X m ∨ clR r.bR r.oR X m := by
  have hlt := mvFrom_lt hm
  rw [← ends_len h.mid.ends] at hlt
  have hc := (h.rr m _ (rooms_get hlt)).1
  rcases Int.lt_or_le 0 (mvRoom l1 m) with g | g
  · exact .inl ⟨_, g, hc⟩
  · exact .inr ⟨_, g, hc⟩
theorem OnI.skip {m : Nat} (h : OnI r s t l F p most bL W V pre l1 F1 left X) (hm : mvFrom l m = some p) (hc : clR r.bR r.oR X m) : OnI r s t l F p most bL W V (pre ++ [m]) l1 F1 left X := by
  have hlt := mvFrom_lt hm
  rw [← ends_len h.mid.ends] at hlt
  obtain ⟨x, hx, hcx⟩ := hc
  have h1 := (h.rr m _ (rooms_get hlt)).1
  rw [hcx] at h1
  injection h1 with h1
  injection h1 with _ h1
  exact ⟨h.mid.skip (by omega), h.rr, h.rf, h.lf, h.kp, h.out⟩
theorem OnI.put {b : Nat} {o o' : Obj} (h : OnI r s t l F p most bL W V pre l1 F1 left X) (hl : W.heap.size ≤ b) (hb : X.heap[b]? = some o) (hc : o.isCells = false) : OnI r s t l F p most bL W V pre l1 F1 left (X.putObj b o') :=
  h.moved (fun k cs t fr hk => put_cells hk hb hc) (by simp) (h.out.put hl)
end
set_option maxHeartbeats 8000000 in
theorem c_onward (r : Rs) (s : Sd) (N t : Nat) (hN : N ≤ 64) (ht : t < N) (hne : r.bR ≠ s.bF) (hbb : s.bt ≠ r.bR ∧ s.bt ≠ s.bF ∧ s.br ≠ r.bR ∧ s.br ≠ s.bF ∧ s.bf ≠ r.bR ∧ s.bf ≠ s.bF ∧ s.bo ≠ r.bR ∧ s.bo ≠ s.bF) (hcF : N ≤ s.cF ∧ s.cF ≤ maxLen) :
    ∀ (k : Nat) (l : List Ar) (F : List Int) (p : Nat) (most : Int) (W : World), l.length ≤ 128 → (∀ a ∈ l, a.u < N ∧ a.v < N ∧ a.cap ≤ 100000000) → Fits l → RShape r N l → F.length = N → (∀ n, ff F n ≤ (N : Int)) → p < N → 0 ≤ ff F p → (N : Int) < ff F p + k →
    0 < most → most ≤ 12800000000 → r.bR < W.heap.size → s.bF < W.heap.size → SFxA W s r N t l → Row W r.bR r.oR (rooms l) → Row W s.bF s.oF F →
    Calls Try.prog 47 #[.int .i64 (p : Int), .int .i64 most, .pointer (some ⟨s.bt, 0, none⟩), .pointer (some ⟨s.br, 0, none⟩), .pointer (some ⟨s.bf, 0, none⟩), .pointer (some ⟨s.bo, 0, none⟩)] W (OnPost r s t l F p most W) := by
  intro k
  induction k with
  | zero =>
    intro l F p most W _ _ _ _ _ hlev _ _ hk
    have := hlev p
    omega
  | succ k ih =>
    intro l F p most W hl hnodes hfits hsh hF hlev hp h0 hk hm hm2 hbR hbF hfx hrr hrf
    have hfW := hfx W (KpG.refl W)
    by_cases hpt : p = t
    · subst hpt
      have hx := hfW.bt.cell
      have HR := Lib.hid (show OnPost r s p l F p most W (.returned (.int .i64 most)) (W.alloc (.cells #[.int .i64 (p : Int)] 3)) from
        ⟨most, l, F, rfl, Onw.end_ hfits hm, hrr.kept (fun cs t fr hb => old_heap _ hb), hrf.kept (fun cs t fr hb => old_heap _ hb), Out.of_below ((Below.refl W.heap.size W).alloc (Nat.le_refl _) _) (Nat.le_refl _)⟩)
      have hx1 := alloc_cell hx
      clear ih hfx hrr hrf hfW hlev hfits hnodes hsh hx
      go_enter Try.func47, Try.ntmps47
      go_wp2_with (fail)
      go_step3
      go_wp2_with (fail)
      go_ret
      exact HR.out
    · have hx := hfW.bt.cell
      have hxr := hfW.br
      have hlt := hfW.bt.lt
      have hlr := at_lt hxr
      have x0 : W.cell? ⟨s.br, 0, none⟩ = some r.E := cell_of hxr rfl
      have x1 : W.cell? ⟨s.br, 1, none⟩ = some r.R := cell_of hxr rfl
      have x2 : W.cell? ⟨s.br, 2, none⟩ = some (r.M N) := cell_of hxr rfl
      have hpt' : ((p : Int) == (t : Int)) = false := by rw [beq_eq_false_iff_ne]; omega
      obtain ⟨A1, n1, c1, hE⟩ := hsh.es
      obtain ⟨A2, n2, c2, hR⟩ := hsh.rs
      rw [hE] at x0
      rw [hR] at x1
      unfold Rs.M at x2
      have HE := Lib.hid hE
      have HR := Lib.hid hR
      have HFX := Lib.hid hfx
      have HRR := Lib.hid hrr
      have HRF := Lib.hid hrf
      have HIH := Lib.hid ih
      have HLV := Lib.hid hlev
      have HND := Lib.hid hnodes
      have HFT := Lib.hid hfits
      have HSH := Lib.hid hsh
      have HFL := Lib.hid hF
      clear hE hR hfx hrr hrf ih hlev hnodes hfits hsh hF hfW hxr
      have x0' := alloc_cell2 x0
      have x1' := alloc_cell2 x1
      have x2' := alloc_cell2 x2
      have hx' := alloc_cell hx
      clear x0 x1 x2 hx
      refine (callsIn_wide (n := 8)).1 ?_
      refine callsIn_of_wp_marks Try.func47 rfl trivial ?_ rfl
      simp only [Try.ntmps47, List.size_toArray, List.length_cons, List.length_nil, Nat.reduceAdd, Nat.reduceSub, Array.replicate_succ, Array.replicate_zero, List.push_toArray, List.append_toArray, List.nil_append, List.cons_append]
      rw [wpIn_wide]
      go_wp2_with (fail)
      go_step3
      go_wp2_with (fail)
      go_step3
      go_wp2_with (fail)
      go_at_call 45
      refine (c_leaving _ _ _ _ _).mono ?_
      rintro e w2 ⟨rfl, hw2⟩
      simp only [World.size_alloc] at hw2 ⊢
      have HB := Lib.hid (show Below W.heap.size W w2 by subst hw2; exact (((((Below.refl _ _).alloc (Nat.le_refl _) _).alloc (by simp) _).alloc (by simp; omega) _).alloc (by simp; omega) _))
      have HN2 := Lib.hid (show Boxed w2 W.heap.size 3 (.int .i64 (p : Int)) by subst hw2; exact old_heap _ (old_heap _ (old_heap _ (heap_alloc_new _ _))))
      have HL2 := Lib.hid (show Boxed w2 (W.heap.size + 1) 3 (.int .i64 most) by subst hw2; exact old_heap _ (old_heap _ (row_new _ _ _ (by simp))))
      have HR2 := Lib.hid (show w2.heap[W.heap.size + 1 + 1]? = some (.cells #[.slice A1 n1 c1, .slice A2 n2 c2, .slice (some ⟨r.bM, r.oM, none⟩) N r.cM] 64 (0, 0)) by subst hw2; exact old_heap _ (row_new _ _ _ (by simp)))
      have HM2 := Lib.hid (show Boxed w2 (W.heap.size + 1 + 1 + 1) 3 (.int .i64 (p : Int)) by subst hw2; exact row_new _ _ _ (by simp))
      have hz2 : w2.heap.size = W.heap.size + 4 := by subst hw2; simp
      try rw [← hw2]
      clear hw2 x0' x1' x2' hx'
      have HKW := Lib.hid (KpG.of_below (Gd := GS r s) HB.out (Nat.le_refl _))
      have HFX2 := Lib.hid (HFX.out.on HKW.out)
      have HI0 := Lib.hid (show OnI r s t l F p most (W.heap.size + 1) W w2 [] l F most w2 from
        ⟨Mid.start HFT.out (by omega), HRR.out.kept (fun cs t fr hb => (HB.out.block _ (at_lt hb)).trans hb), HRF.out.kept (fun cs t fr hb => (HB.out.block _ (at_lt hb)).trans hb), HL2.out, KpG.refl _, Out.of_below HB.out (Nat.le_refl _)⟩)
      obtain ⟨Am, cm, hhd, -, -⟩ := (HFX2.out w2 (KpG.refl _)).fix.moves p hp
      have HMV := Lib.hid (fun (X : World) (hX : KpG (fun k => k ≠ r.bR ∧ k ≠ s.bF ∧ k ≠ W.heap.size + 1) w2 X) => show X.cell? ⟨r.bM, r.oM + p, none⟩ = some (.slice Am (mvs l p).length cm) ∧ IntSl X (.slice Am (mvs l p).length cm) (nats (mvs l p)) from by
        have hk : KpG (GS r s) W X := ⟨Nat.le_trans HB.out.size hX.size, fun k cs t fr hg hc => hX.same k cs t fr ⟨hg.1, hg.2, by have := at_lt hc; omega⟩ ((HB.out.block _ (at_lt hc)).trans hc)⟩
        obtain ⟨A, c, e, g1, g2⟩ := (HFX.out X hk).fix.moves p hp
        rw [hhd] at e
        injection e with e1 e2 e3
        subst e1 e3
        rw [hhd] at g1 g2
        exact ⟨g1, g2⟩)
      have HSM := HSH.out.sm
      have HSQ := Lib.hid (c_leaving1 7 (by omega) (fun k => k ≠ r.bR ∧ k ≠ s.bF ∧ k ≠ W.heap.size + 1) (W.heap.size + 1 + 1) (W.heap.size + 1 + 1 + 1) r.bR r.oR (2 * l.length) r.cR r.bM r.oM N r.cM (.slice A1 n1 c1) p Am cm (mvs l p) (.slice A2 n2 c2)
        (by have : (mvs l p).length ≤ (List.range (2 * l.length)).length := List.length_filter_le _ _; rw [List.length_range] at this; omega) ⟨hp, HSM.1, HSM.2⟩ (fun t ht => mvFrom_lt (mem_mvs.1 ht)) (fun h0 => by
          obtain ⟨m, hm⟩ := List.exists_mem_of_length_pos h0
          have := mvFrom_lt (mem_mvs.1 hm)
          obtain ⟨g1, g2, g3⟩ := HSH.out.sr (by omega)
          exact ⟨HR.out.symm.trans g1, g2, g3⟩) w2 ⟨by omega, by omega, by omega⟩ ⟨by omega, by omega, by omega⟩ HR2.out HM2.out HMV.out)
      clear HMV HSM hhd
      go_wp2_with (fail)
      refine (wpIn_wide (n := 8)).1 ?_
      refine wpIn_it (n := 8) (by omega) (gf := 49) (lb := #[.pointer (some ⟨W.heap.size + 1 + 1, 0, none⟩), .pointer (some ⟨W.heap.size + 1 + 1 + 1, 0, none⟩)]) rfl (enters_of Try.func49 (by kernel_rfl) rfl) (m := 0) (Gd := fun k => k ≠ r.bR ∧ k ≠ s.bF ∧ k ≠ W.heap.size + 1) (ok := okN) (op := opR r.bR r.oR) (cl := clR r.bR r.oR) (ts := mvs l p) (w0 := w2) HSQ.out (KpG.refl _) (fun v t h => by rw [h]; rfl)
        (fun pre X => ∃ l1 F1 left, OnI r s t l F p most (W.heap.size + 1) W w2 pre l1 F1 left X) (fun c _ X => c = .exit 0 ∧ ∃ pre' l1 F1, OnI r s t l F p most (W.heap.size + 1) W w2 pre' l1 F1 0 X)
        (fun pre X Y h hE => by obtain ⟨l1, F1, left, h⟩ := h; exact ⟨l1, F1, left, h.own hE (by omega)⟩) (fun c pre X Y h hE => by obtain ⟨h0, pre', l1, F1, h⟩ := h; exact ⟨h0, pre', l1, F1, h.own hE (by omega)⟩)
        (fun pre X b o o' h hl hb hc => by obtain ⟨l1, F1, left, h⟩ := h; exact ⟨l1, F1, left, h.put (by omega) hb hc⟩) (fun c pre X b o o' h hl hb hc => by obtain ⟨h0, pre', l1, F1, h⟩ := h; exact ⟨h0, pre', l1, F1, h.put (by omega) hb hc⟩)
        (fun t X Y h hb => h.below hb) (fun t X b o o' h hb hc => h.put hb hc)
        (fun pre m X h hp => by
          obtain ⟨l1, F1, left, h⟩ := h
          exact h.asked (mem_mvs.1 (hp.subset (by simp))))
        (fun pre m X h hp hc => by
          obtain ⟨l1, F1, left, h⟩ := h
          exact ⟨l1, F1, left, h.skip (mem_mvs.1 (hp.subset (by simp))) hc⟩)
        ⟨l, F, most, HI0.out⟩ ?round ?done ?stop
      case round =>
        intro lp pre v m X K hpre hok hK
        obtain rfl : v = #[.int .i64 (m : Int)] := hok
        gi_wp2_with (fail)
        refine hK _ _ (Below.refl _ _) ?_
        rintro Y ⟨o, o', ho, hoc, hYe⟩ hsz ⟨l1, F1, left, hI⟩ hop
        clear hYe ho hoc o o' hK
        have hmf := mem_mvs.1 (hpre.subset (show m ∈ pre ++ [m] by simp))
        have hml := mvFrom_lt hmf
        obtain ⟨q, hq⟩ := mvTo_some hml
        have hml1 : m < 2 * l1.length := by rw [ends_len hI.mid.ends]; exact hml
        have hqN : q < N := by
          obtain ⟨a, ha, e⟩ := mvTo_mem hq
          have := HND.out a ha
          rcases e with e | e <;> omega
        have hSF := HFX.out Y (hI.out.kp (fun k g => not_or.2 ⟨g.1, g.2⟩))
        obtain ⟨hE1, hE2, hE3⟩ := HSH.out.se (by omega)
        obtain ⟨hR1, hR2, hR3⟩ := HSH.out.sr (by omega)
        rw [HE.out] at hE1
        rw [HR.out] at hR1
        injection hE1 with hA1 hn1 hc1
        injection hR1 with hA2 hn2 hc2
        have hmn1 : m < n1 := by omega
        have hmn2 : m < n2 := by omega
        have hfn2 : flip m < n2 := by have := flip_half m; omega
        have HN1 := Lib.hid (And.intro hn1 hn2)
        subst hA1 hA2
        have hcb1 : n1 ≤ c1 ∧ n2 ≤ c2 := by omega
        have HC12 := Lib.hid (And.intro hc1 hc2)
        have y0 : Y.cell? ⟨s.br, 0, none⟩ = some (.slice (some ⟨r.bE, r.oE, none⟩) n1 c1) := by rw [← HE.out]; exact cell_of hSF.br rfl
        have y1 : Y.cell? ⟨s.br, 1, none⟩ = some (.slice (some ⟨r.bR, r.oR, none⟩) n2 c2) := by rw [← HR.out]; exact cell_of hSF.br rfl
        have yE := hSF.fix.ends m q hq
        have yL := hI.lf.cell
        have yf := hSF.bf.cell
        have yo := hSF.bo.cell
        have hF1 : F1.length = N := hI.mid.len.trans HFL.out
        have yq := (hI.rf q _ (ff_at (by omega))).1
        have yp := (hI.rf p _ (ff_at (by omega))).1
        have yn := (show Boxed Y W.heap.size 3 (.int .i64 (p : Int)) from hI.kp.same _ _ _ _ ⟨by omega, by omega, by omega⟩ HN2.out).cell
        have yr := (hI.rr m _ (rooms_get hml1)).1
        have hlo := hI.mid.lo
        have hhi := hI.mid.hi
        have hlv1 := hI.mid.far_le HLV.out
        have HMIDS := Lib.hid hI.mid.same
        have hfp := hlv1 p
        have hfq := hlv1 q
        have hfp0 : 0 ≤ ff F1 p := by rw [HMIDS.out]; exact h0
        have HLV1 := Lib.hid hlv1
        have HPRE := Lib.hid hpre
        have HI := Lib.hid hI
        have HSF := Lib.hid hSF
        have HMF := Lib.hid hmf
        have HQ := Lib.hid hq
        have HF1 := Lib.hid hF1
        clear hE2 hE3 hR2 hR3 hn1 hn2 hc1 hc2 hpre hI hSF hmf hq hF1 hlv1
        obtain ⟨x, hx0, hxc⟩ := hop
        have hxe : x = mvRoom l1 m := by rw [yr] at hxc; injection hxc with h; injection h with _ h; exact h.symm
        rw [← hxe] at yr
        have HXE := Lib.hid hxe
        clear hxe hxc
        by_cases hl0 : left = 0
        · have hl0' : (left == 0) = true := by rw [beq_iff_eq]; exact hl0
          have HZ := Lib.hid (show OnI r s t l F p most (W.heap.size + 1) W w2 pre l1 F1 0 Y by rw [← hl0]; exact HI.out)
          clear yq yp yr
          gi_wp2_with (fail)
          exact ⟨⟨Nat.le_refl _, fun _ _ _ h _ => h⟩, rfl, _, _, _, HZ.out⟩
        · have hl0' : (left == 0) = false := by rw [beq_eq_false_iff_ne]; exact hl0
          have hfm : Try.prog.follows Departure.mixedOrders = true := by kernel_rfl
          have hw1 : IntKind.i64.wrap (ff F1 p + 1) = ff F1 p + 1 := IntWalk.i64_in _ (by omega)
          have hqN' : (q : Int) < (N : Int) := by omega
          have hpN' : (p : Int) < (N : Int) := by omega
          have HW1 := Lib.hid hw1
          clear hw1
          obtain ⟨bq, hbq⟩ : ∃ b : Bool, (ff F1 q == ff F1 p + 1) = b := ⟨_, rfl⟩
          have HBQ := Lib.hid hbq
          clear hbq
          gi_wp2_with (fail)
          refine region_round (S := fun X => X.cell? ⟨s.bf, 0, none⟩ = some (.slice (some ⟨s.bF, s.oF, none⟩) N s.cF) ∧ X.cell? ⟨s.bF, s.oF + q, none⟩ = some (.int .i64 (ff F1 q)) ∧ X.cell? ⟨W.heap.size, 0, none⟩ = some (.int .i64 (p : Int)) ∧ X.cell? ⟨s.bF, s.oF + p, none⟩ = some (.int .i64 (ff F1 p))) hfm (by kernel_rfl) ⟨yf, yq, yn, yp⟩ (fun hHeld => ?_)
          refine takeH 0 (some 31) rfl rfl (by kernel_rfl) (by kernel_rfl) (by kernel_rfl) (fun _ _ _ h => h) (by rfl) (by intro w ⟨g1, g2, g3, g4⟩; go_simp; try with_reducible rfl) hHeld ?_
          simp only [Act.put, List.setIfInBounds_toArray, List.set_cons_zero, List.set_cons_succ]
          refine takeH 1 (some 32) rfl rfl (by kernel_rfl) (by kernel_rfl) (by kernel_rfl) (fun _ _ _ h => h) (by rfl) (by intro w ⟨g1, g2, g3, g4⟩; go_simp; try with_reducible rfl) hHeld ?_
          simp only [Act.put, List.setIfInBounds_toArray, List.set_cons_zero, List.set_cons_succ]
          refine takeH 2 (some 33) rfl rfl (by kernel_rfl) (by kernel_rfl) (by kernel_rfl) (fun _ _ _ h => h) (by rfl) (by intro w ⟨g1, g2, g3, g4⟩; go_simp; try with_reducible rfl) hHeld ?_
          simp only [Act.put, List.setIfInBounds_toArray, List.set_cons_zero, List.set_cons_succ]
          refine takeH 3 (some 34) rfl rfl (by kernel_rfl) (by kernel_rfl) (by kernel_rfl) (fun _ _ _ h => h) (by rfl) (by intro w ⟨g1, g2, g3, g4⟩; go_simp; try with_reducible rfl) hHeld ?_
          simp only [Act.put, List.setIfInBounds_toArray, List.set_cons_zero, List.set_cons_succ]
          refine takeH 4 (some 35) rfl rfl (by kernel_rfl) (by kernel_rfl) (by kernel_rfl) (fun _ _ _ h => h) (by rfl) (by intro w ⟨g1, g2, g3, g4⟩; go_simp; try with_reducible rfl) hHeld ?_
          simp only [Act.put, List.setIfInBounds_toArray, List.set_cons_zero, List.set_cons_succ]
          refine takeH 5 (some 36) rfl rfl (by kernel_rfl) (by kernel_rfl) (by kernel_rfl) (fun _ _ _ h => h) (by rfl) (by intro w ⟨g1, g2, g3, g4⟩; go_simp; try with_reducible rfl) hHeld ?_
          simp only [Act.put, List.setIfInBounds_toArray, List.set_cons_zero, List.set_cons_succ]
          refine takeH 6 (some 37) rfl rfl (by kernel_rfl) (by kernel_rfl) (by kernel_rfl) (fun _ _ _ h => h) (by rfl) (by intro w ⟨g1, g2, g3, g4⟩; go_simp; try with_reducible rfl) hHeld ?_
          simp only [Act.put, List.setIfInBounds_toArray, List.set_cons_zero, List.set_cons_succ]
          refine takeH 7 (some 38) rfl rfl (by kernel_rfl) (by kernel_rfl) (by kernel_rfl) (fun _ _ _ h => h) (by rfl) (by intro w ⟨g1, g2, g3, g4⟩; go_simp; try with_reducible rfl) hHeld ?_
          simp only [Act.put, List.setIfInBounds_toArray, List.set_cons_zero, List.set_cons_succ]
          refine takeH 8 (some 39) rfl rfl (by kernel_rfl) (by kernel_rfl) (by kernel_rfl) (fun _ _ _ h => h) (by rfl) (by intro w ⟨g1, g2, g3, g4⟩; go_simp; try with_reducible rfl) hHeld ?_
          simp only [Act.put, List.setIfInBounds_toArray, List.set_cons_zero, List.set_cons_succ]
          refine takeH 9 (some 40) rfl rfl (by kernel_rfl) (by kernel_rfl) (by kernel_rfl) (fun _ _ _ h => h) (by rfl) (by intro w ⟨g1, g2, g3, g4⟩; go_simp; try with_reducible rfl) hHeld ?_
          simp only [Act.put, List.setIfInBounds_toArray, List.set_cons_zero, List.set_cons_succ]
          refine takeH 10 (some 30) rfl rfl (by kernel_rfl) (by kernel_rfl) (by kernel_rfl) (fun _ _ _ h => h) (by rfl) (by intro w ⟨g1, g2, g3, g4⟩; go_simp; try with_reducible rfl) hHeld ?_
          simp only [Act.put, List.setIfInBounds_toArray, List.set_cons_zero, List.set_cons_succ]
          rw [HW1.out, HBQ.out]
          refine wpAnyH_done (by kernel_rfl) ?_ _
          rw [noOut_normal]
          have HIZ := Lib.hid (HI.out.moved (Y := Y.drew) (fun _ _ _ _ h => h) (Nat.le_refl _) (HI.out.out.trans Out.drew))
          have HYZ := Lib.hid (show Out (fun k => k = r.bR ∨ k = s.bF ∨ k = W.heap.size + 1) Y Y.drew from Out.drew)
          have z1 : Y.drew.cell? ⟨s.br, 1, none⟩ = some (.slice (some ⟨r.bR, r.oR, none⟩) n2 c2) := y1
          have zL : Y.drew.cell? ⟨W.heap.size + 1, 0, none⟩ = some (.int .i64 left) := yL
          have zo : Y.drew.cell? ⟨s.bo, 0, none⟩ = some (.func (.func 47) #[] s.lb) := yo
          have zr : Y.drew.cell? ⟨r.bR, r.oR + m, none⟩ = some (.int .i64 x) := yr
          unfold Sd.lb at zo
          clear y0 y1 yE yL yf yo yq yp yr yn hHeld
          generalize Y.drew = Z at HIZ HYZ z1 zL zo zr ⊢
          cases bq
          · have HD := Lib.hid (show OnI r s t l F p most (W.heap.size + 1) W w2 (pre ++ [m]) l1 F1 left Z from
              ⟨HIZ.out.mid.off h0 HQ.out (fun e => by have := HBQ.out; rw [e] at this; simp at this), HIZ.out.rr, HIZ.out.rf, HIZ.out.lf, HIZ.out.kp, HIZ.out.out⟩)
            clear z1 zL zo zr
            gi_wp2_with (fail)
            exact ⟨HYZ.out.keeps (fun k hk => by omega), HYZ.out.kpIt (fun k hk => by omega) (fun k g => by simp; exact ⟨g.1, g.2⟩), _, _, _, HD.out⟩
          · have hfe : ff F1 q = ff F1 p + 1 := by have := HBQ.out; rw [beq_iff_eq] at this; exact this
            have hmn : 0 < min left x := by omega
            have hl128 : l1.length ≤ 128 := by have := ends_len HIZ.out.mid.ends; omega
            have hx8 := room_bounds HIZ.out.mid.fits (caps_ends HIZ.out.mid.ends HND.out) m
            rw [← HXE.out] at hx8
            have HC := Lib.hid (HIH.out l1 F1 q (min left x) Z.drew hl128 (caps_ends HIZ.out.mid.ends HND.out) HIZ.out.mid.fits (rShape_same HSH.out HIZ.out.mid.ends) HF1.out HLV1.out hqN (by omega) (by have := HMIDS.out; omega) hmn (by omega)
              (Nat.lt_of_lt_of_le hbR HIZ.out.out.size) (Nat.lt_of_lt_of_le hbF HIZ.out.out.size) (sFxA_same (HFX.out.on ((HIZ.out.out.trans Out.drew).kp (fun k g => not_or.2 ⟨g.1, g.2⟩))) HIZ.out.mid.ends) HIZ.out.rr HIZ.out.rf)
            have HMIN := Lib.hid (show (if x < left then x else left) = min left x by split <;> omega)
            clear hfe
            gi_wp2_with (fail)
            refine region_round (S := fun X => X.cell? ⟨s.bo, 0, none⟩ = some (.func (.func 47) #[] #[.pointer (some ⟨s.bt, 0, none⟩), .pointer (some ⟨s.br, 0, none⟩), .pointer (some ⟨s.bf, 0, none⟩), .pointer (some ⟨s.bo, 0, none⟩)]) ∧ X.cell? ⟨W.heap.size + 1, 0, none⟩ = some (.int .i64 left) ∧ X.cell? ⟨s.br, 1, none⟩ = some (.slice (some ⟨r.bR, r.oR, none⟩) n2 c2) ∧ X.cell? ⟨r.bR, r.oR + m, none⟩ = some (.int .i64 x)) hfm (by kernel_rfl) ⟨zo, zL, z1, zr⟩ (fun hHeld => ?_)
            refine takeH 0 (some 41) rfl rfl (by kernel_rfl) (by kernel_rfl) (by kernel_rfl) (fun _ _ _ h => h) (by rfl) (by intro w ⟨g1, g2, g3, g4⟩; go_simp; try with_reducible rfl) hHeld ?_
            simp only [Act.put, List.setIfInBounds_toArray, List.set_cons_zero, List.set_cons_succ]
            refine takeH 1 (some 42) rfl rfl (by kernel_rfl) (by kernel_rfl) (by kernel_rfl) (fun _ _ _ h => h) (by rfl) (by intro w ⟨g1, g2, g3, g4⟩; go_simp; try with_reducible rfl) hHeld ?_
            simp only [Act.put, List.setIfInBounds_toArray, List.set_cons_zero, List.set_cons_succ]
            refine takeH 2 (some 43) rfl rfl (by kernel_rfl) (by kernel_rfl) (by kernel_rfl) (fun _ _ _ h => h) (by rfl) (by intro w ⟨g1, g2, g3, g4⟩; go_simp; try with_reducible rfl) hHeld ?_
            simp only [Act.put, List.setIfInBounds_toArray, List.set_cons_zero, List.set_cons_succ]
            refine takeH 3 (some 44) rfl rfl (by kernel_rfl) (by kernel_rfl) (by kernel_rfl) (fun _ _ _ h => h) (by rfl) (by intro w ⟨g1, g2, g3, g4⟩; go_simp; try with_reducible rfl) hHeld ?_
            simp only [Act.put, List.setIfInBounds_toArray, List.set_cons_zero, List.set_cons_succ]
            refine takeH 4 (some 45) rfl rfl (by kernel_rfl) (by kernel_rfl) (by kernel_rfl) (fun _ _ _ h => h) (by rfl) (by intro w ⟨g1, g2, g3, g4⟩; go_simp; try with_reducible rfl) hHeld ?_
            simp only [Act.put, List.setIfInBounds_toArray, List.set_cons_zero, List.set_cons_succ]
            refine takeH 5 (some 46) rfl rfl (by kernel_rfl) (by kernel_rfl) (by kernel_rfl) (fun _ _ _ h => h) (by rfl) (by intro w ⟨g1, g2, g3, g4⟩; go_simp; try with_reducible rfl) hHeld ?_
            simp only [Act.put, List.setIfInBounds_toArray, List.set_cons_zero, List.set_cons_succ]
            refine takeH 6 (some 47) rfl rfl (by kernel_rfl) (by kernel_rfl) (by kernel_rfl) (fun _ _ _ h => h) (by rfl) (by intro w ⟨g1, g2, g3, g4⟩; go_simp; try with_reducible rfl) hHeld ?_
            simp only [Act.put, List.setIfInBounds_toArray, List.set_cons_zero, List.set_cons_succ]
            refine takeH 7 (some 48) rfl rfl (by kernel_rfl) (by kernel_rfl) (by kernel_rfl) (fun _ _ _ h => h) (by rfl) (by intro w ⟨g1, g2, g3, g4⟩; go_simp; try with_reducible rfl) hHeld ?_
            simp only [Act.put, List.setIfInBounds_toArray, List.set_cons_zero, List.set_cons_succ]
            refine takeH 8 (some 49) rfl rfl (by kernel_rfl) (by kernel_rfl) (by kernel_rfl) (fun _ _ _ h => h) (by rfl) (by intro w ⟨g1, g2, g3, g4⟩; go_simp; try with_reducible rfl) hHeld ?_
            simp only [Act.put, List.setIfInBounds_toArray, List.set_cons_zero, List.set_cons_succ]
            refine wpAnyH_ready (rs := [9]) (by kernel_rfl) (by simp) (AllReadyH.cons rfl (fun K hK => ?_) AllReadyH.nil)
            go_simp
            rw [HMIN.out]
            refine HC.out.mono ?_
            rintro e w3 ⟨d, l2, F2, rfl, ho, hr2, hf2, hout⟩
            rw [HXE.out] at ho
            obtain ⟨hmid, hrm⟩ := HIZ.out.mid.sent h0 HMF.out HQ.out (by have := HBQ.out; rw [beq_iff_eq] at this; exact this) ho
            have hd1 := ho.lo
            have hd2 := ho.hi
            have hl2 : l2.length = l.length := ends_len (ho.ends.trans HIZ.out.mid.ends)
            have hml2 : m < 2 * l2.length := by rw [hl2]; exact hml
            have hfl2 : flip m < 2 * l2.length := by have := flip_half m; omega
            have hyb := room_bounds ho.fits (caps_ends (ho.ends.trans HIZ.out.mid.ends) HND.out) (flip m)
            obtain ⟨y, hy⟩ : ∃ y, y = mvRoom l2 (flip m) := ⟨_, rfl⟩
            have zr3 := hr2 m _ (rooms_get hml2)
            have zy3 := hr2 (flip m) _ (rooms_get hfl2)
            rw [hrm, ← HXE.out] at zr3
            rw [← hy] at zy3 hyb
            rw [← HXE.out] at hd2
            have HZ3 := Lib.hid (show Out (fun k => k = r.bR ∨ k = s.bF) Z w3 from Out.drew.trans hout)
            have k1 : w3.cell? ⟨s.br, 1, none⟩ = some (.slice (some ⟨r.bR, r.oR, none⟩) n2 c2) := cell_kept z1 (HZ3.out.kp (Gd := GS r s) (fun k g => not_or.2 ⟨g.1, g.2⟩)) ⟨hbb.2.2.1, hbb.2.2.2.1⟩
            have HLZ := Lib.hid (show Boxed w3 (W.heap.size + 1) 3 (.int .i64 left) from HZ3.out.same _ _ (by omega) HIZ.out.lf)
            have kL := HLZ.out.cell
            have ko : w3.cell? ⟨s.bo, 0, none⟩ = some (.func (.func 47) #[] #[.pointer (some ⟨s.bt, 0, none⟩), .pointer (some ⟨s.br, 0, none⟩), .pointer (some ⟨s.bf, 0, none⟩), .pointer (some ⟨s.bo, 0, none⟩)]) := cell_kept zo (HZ3.out.kp (Gd := GS r s) (fun k g => not_or.2 ⟨g.1, g.2⟩)) ⟨hbb.2.2.2.2.2.2.1, hbb.2.2.2.2.2.2.2⟩
            have HMD := Lib.hid hmid
            have HR2 := Lib.hid hr2
            have HF2 := Lib.hid hf2
            have HY := Lib.hid hy
            have HRM := Lib.hid hrm
            have HL2' := Lib.hid hl2
            have HHO := Lib.hid ho
            clear hmid hr2 hf2 hy hrm hl2 ho hHeld z1 zL zo zr hout
            refine hK.out _ _ ⟨ko, kL, k1, zr3.1⟩ (fun hHeld => ?_)
            clear hK K ko
            refine takeH 10 (some 12) rfl rfl (by kernel_rfl) (by kernel_rfl) (by kernel_rfl) (fun _ _ _ h => h) (by rfl) (by intro w ⟨g1, g2, g3, g4⟩; go_simp; try with_reducible rfl) hHeld ?_
            simp only [Act.put, List.setIfInBounds_toArray, List.set_cons_zero, List.set_cons_succ]
            refine wpAnyH_done (by kernel_rfl) ?_ _
            rw [noOut_normal]
            clear hHeld
            obtain ⟨zr3, fr3⟩ := zr3
            obtain ⟨zy3, fy3⟩ := zy3
            have hxor := xor_flip m (by omega)
            have hfn2' : (flip m : Int) < (n2 : Int) := by omega
            have hmn2' : (m : Int) < (n2 : Int) := by omega
            have hfm := (flip_half m).2.1
            have hd3 : d ≤ x ∧ d ≤ left := by omega
            have k1' : (w3.setCell ⟨r.bR, r.oR + m, none⟩ (.int .i64 (x - d))).cell? ⟨s.br, 1, none⟩ = some (.slice (some ⟨r.bR, r.oR, none⟩) n2 c2) := (World.cell?_of_block (Below.heap_setCell w3 ⟨r.bR, r.oR + m, none⟩ _ s.br hbb.2.2.1)).trans k1
            obtain ⟨zy4, fy4, kL4, fL4, hR4, hL4⟩ := three_stores (d := d) HR2.out hml2 (HRM.out.trans HXE.out.symm) HY.out.symm HLZ.out (show W.heap.size + 1 ≠ r.bR by omega)
            have HR4 := Lib.hid hR4
            have HL4 := Lib.hid hL4
            clear hR4 hL4
            gi_wp2_with (fail)
            have HOV := Lib.hid (show Out (fun k => k = r.bR ∨ k = s.bF ∨ k = W.heap.size + 1) Z (((w3.setCell ⟨r.bR, r.oR + m, none⟩ (.int .i64 (x - d))).setCell ⟨r.bR, r.oR + flip m, none⟩ (.int .i64 (y + d))).setCell ⟨W.heap.size + 1, 0, none⟩ (.int .i64 (left - d))) from
              (((HZ3.out.out (fun k hk => by rcases hk with h | h; exact .inl h; exact .inr (.inl h))).trans (Out.store (.inl rfl) _)).trans (Out.store (.inl rfl) _)).trans (Out.store (.inr (.inr rfl)) _))
            have HOW := Lib.hid (show Out (fun k => k = r.bR ∨ k = s.bF) W (((w3.setCell ⟨r.bR, r.oR + m, none⟩ (.int .i64 (x - d))).setCell ⟨r.bR, r.oR + flip m, none⟩ (.int .i64 (y + d))).setCell ⟨W.heap.size + 1, 0, none⟩ (.int .i64 (left - d))) from
              Out.store_new ((((HIZ.out.out).trans HZ3.out).trans (Out.store (.inl rfl) _)).trans (Out.store (.inl rfl) _)) (by omega) _)
            have HRF4 := Lib.hid (((HF2.out.other (i := r.oR + m) (fun e => hne e.symm) (.int .i64 (x - d))).other (i := r.oR + flip m) (fun e => hne e.symm) (.int .i64 (y + d))).other (b' := W.heap.size + 1) (i := 0) (by omega) (.int .i64 (left - d)))
            exact ⟨(HYZ.out.trans HOV.out).keeps (fun k hk => by omega), (HYZ.out.trans HOV.out).kpIt (fun k hk => by omega) (fun k g hk => by rcases hk with h | h | h; exact g.1 h; exact g.2.1 h; exact g.2.2 h), _, _, _,
              HMD.out, HR4.out, HRF4.out, HL4.out, HIZ.out.kp.trans (HOV.out.kp (fun k g hk => by rcases hk with h | h | h; exact g.1 h; exact g.2.1 h; exact g.2.2 h)), HOW.out⟩
      case done =>
        rintro D0 X rfl ⟨l1, F1, left, hI⟩ hdef
        have hSF := HFX.out X (hI.out.kp (fun k g => not_or.2 ⟨g.1, g.2⟩))
        have hlo := hI.mid.lo
        have hhi := hI.mid.hi
        have hF1 : F1.length = N := hI.mid.len.trans HFL.out
        have xL := hI.lf.cell
        have xf := hSF.bf.cell
        have xn := (show Boxed X W.heap.size 3 (.int .i64 (p : Int)) from hI.kp.same _ _ _ _ ⟨by omega, by omega, by omega⟩ HN2.out).cell
        obtain ⟨xp, fp⟩ := hI.rf p _ (ff_at (by omega))
        have hpN' : (p : Int) < (N : Int) := by omega
        obtain ⟨D, hD⟩ : ∃ D, D = w2.heap.size := ⟨_, rfl⟩
        have hDb : D ≠ s.bF ∧ W.heap.size ≤ D := by omega
        rw [← hD] at hdef ⊢
        clear hD
        have HI := Lib.hid hI
        by_cases hgt0 : 0 < left
        · have hgt : decide (0 < left) = true := decide_eq_true hgt0
          have xL' : (X.setCell ⟨s.bF, s.oF + p, none⟩ (.int .i64 (-1))).cell? ⟨W.heap.size + 1, 0, none⟩ = some (.int .i64 left) := (boxed_far (i := s.oF + p) hI.lf (by omega) (.int .i64 (-1))).cell
          have HDEF := Lib.hid (show (X.setCell ⟨s.bF, s.oF + p, none⟩ (.int .i64 (-1))).heap[D]? = some (.deferred (some [])) from (Below.heap_setCell X ⟨s.bF, s.oF + p, none⟩ _ D hDb.1).trans hdef)
          have HP := Lib.hid (show OnPost r s t l F p most W (.returned (.int .i64 (most - left))) ((X.setCell ⟨s.bF, s.oF + p, none⟩ (.int .i64 (-1))).putObj D (.deferred none)) from by
            have hr := hI.rr.other (i := s.oF + p) hne (.int .i64 (-1))
            have hf := hI.rf.set (j := p) (by omega) (-1)
            have ho := (hI.out.trans (Out.store (X := X) (i := s.oF + p) (.inr rfl) (.int .i64 (-1)))).put (l := D) (o' := .deferred none) hDb.2
            exact ⟨_, _, _, rfl, hI.mid.done (fun _ => rfl) hpt hm (by rw [HFL.out]; exact hp) _ (by rw [if_pos hgt0]), hr.kept (fun cs t fr hb => put_cells hb HDEF.out rfl), hf.kept (fun cs t fr hb => put_cells hb HDEF.out rfl), ho⟩)
          clear hI hSF hdef
          go_wp2_with (fail)
          refine ⟨by simp, .inl ⟨_, _, rfl, run_takeDeferred HDEF.out, ?_⟩⟩
          exact ⟨_, by simp [results, Try.results47, go_sem], HP.out⟩
        · have hgt : decide (0 < left) = false := decide_eq_false hgt0
          have HDEF := Lib.hid hdef
          have HP := Lib.hid (show OnPost r s t l F p most W (.returned (.int .i64 (most - left))) (X.putObj D (.deferred none)) from by
            have ho := hI.out.put (l := D) (o' := .deferred none) hDb.2
            exact ⟨_, _, _, rfl, hI.mid.done (fun _ => rfl) hpt hm (by rw [HFL.out]; exact hp) _ (by rw [if_neg hgt0]), hI.rr.kept (fun cs t fr hb => put_cells hb hdef rfl), hI.rf.kept (fun cs t fr hb => put_cells hb hdef rfl), ho⟩)
          clear hI hSF hdef
          go_wp2_with (fail)
          refine ⟨by simp, .inl ⟨_, _, rfl, run_takeDeferred HDEF.out, ?_⟩⟩
          exact ⟨_, by simp [results, Try.results47, go_sem], HP.out⟩
      case stop =>
        rintro D0 c pre0 X rfl hpre0 ⟨rfl, pre, l1, F1, hI⟩ hdef
        refine (wpIn_wide (n := 8)).2 ?_
        have xL := hI.lf.cell
        obtain ⟨D, hD⟩ : ∃ D, D = w2.heap.size := ⟨_, rfl⟩
        have hDb : D ≠ s.bF ∧ W.heap.size ≤ D := by omega
        rw [← hD] at hdef ⊢
        clear hD
        have HDEF := Lib.hid hdef
        have HP := Lib.hid (show OnPost r s t l F p most W (.returned (.int .i64 most)) (X.putObj D (.deferred none)) from by
          have ho := hI.out.put (l := D) (o' := .deferred none) hDb.2
          have hd := hI.mid.done (fun h => by omega) hpt hm (by rw [HFL.out]; exact hp) _ (by rw [if_neg (Int.lt_irrefl 0)])
          rw [Int.sub_zero] at hd
          exact ⟨_, _, _, rfl, hd, hI.rr.kept (fun cs t fr hb => put_cells hb hdef rfl), hI.rf.kept (fun cs t fr hb => put_cells hb hdef rfl), ho⟩)
        clear hI hdef
        go_wp2_with (fail)
        refine ⟨by simp, .inl ⟨_, _, rfl, run_takeDeferred HDEF.out, ?_⟩⟩
        exact ⟨_, by simp [results, Try.results47, go_sem], HP.out⟩
end Go.Proofs.Ytglpaihadongkaa
