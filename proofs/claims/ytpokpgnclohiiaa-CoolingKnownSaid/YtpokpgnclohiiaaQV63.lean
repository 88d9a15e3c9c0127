/-
  DERIVED. Several texts in one.
-/
import Derived.Test.YtpokpgnclohiiaaQV62
import Derived.Deep.AppendLies
import Derived.Laws.OwnMore
import Derived.Test.YtpokpgnclohiiaaQV61
import Derived.BigQuiet
import Derived.BigRegion
import Derived.Deep.RegionLaw
set_option linter.unusedVariables false
set_option linter.unusedSimpArgs false

namespace Go.Proofs.Ytpokpgnclohiiaa.v6
open Go.RowKit Go.Shelf
attribute [local go_sem] Oper.semAt_some
set_option maxRecDepth 100000

/-- The ticks with their levels. -/
def lvI (C : Int) : Nat → Int → List Int → List (Nat × Int)
  | k, s, [] => [(k, s)]
  | k, s, a :: l => (k, s) :: lvI C (k + 1) (lv1 C s a) l
theorem lvI_snoc (C : Int) (l : List Int) (a : Int) : ∀ (k : Nat) (s : Int), lvI C k s (l ++ [a]) = lvI C k s l ++ [(k + l.length + 1, lvE C s (l ++ [a]))] := by
  induction l with
  | nil => intro k s; rfl
  | cons b l ih =>
    intro k s
    show (k, s) :: lvI C (k + 1) (lv1 C s b) (l ++ [a]) = (k, s) :: (lvI C (k + 1) (lv1 C s b) l ++ _)
    rw [ih, List.length_cons, show k + 1 + l.length + 1 = k + (l.length + 1) + 1 by omega]
    rfl
theorem lvI_prefix (C : Int) (l : List Int) : ∀ (r : List Int) (k : Nat) (s : Int), lvI C k s l <+: lvI C k s (l ++ r) := by
  induction l with
  | nil =>
    intro r k s
    cases r with
    | nil => exact List.prefix_refl _
    | cons b r => exact ⟨lvI C (k + 1) (lv1 C s b) r, rfl⟩
  | cons b l ih =>
    intro r k s
    obtain ⟨t, ht⟩ := ih r (k + 1) (lv1 C s b)
    exact ⟨t, by show (k, s) :: (lvI C (k + 1) (lv1 C s b) l ++ t) = _; rw [ht]; rfl⟩
theorem lvI_pre {C : Int} {l l' : List Int} (h : l <+: l') (k : Nat) (s : Int) : lvI C k s l <+: lvI C k s l' := by
  obtain ⟨r, rfl⟩ := h
  exact lvI_prefix C l r k s
theorem lvI_snd (C : Int) (l : List Int) : ∀ (k : Nat) (s : Int), (lvI C k s l).map (·.2) = s :: lvs C s l := by
  induction l with
  | nil => intro k s; rfl
  | cons b l ih => intro k s; show s :: (lvI C (k + 1) (lv1 C s b) l).map (·.2) = _; rw [ih]; rfl
theorem lvI_len (C : Int) (l : List Int) (k : Nat) (s : Int) : (lvI C k s l).length = l.length + 1 := by
  have := congrArg List.length (lvI_snd C l k s)
  rwa [List.length_map, List.length_cons, lvs_len] at this
/-- A tick and its level are yielded. -/
def okL (v : Array Value) (t : Nat × Int) : Prop := v = #[.int .i64 (t.1 : Int), .int .i64 t.2]
theorem c_levels (C s : Int) (f : Fn) (lb : Array Value) (w : World) :
    Calls Try.prog 25 #[.int .i64 C, .int .i64 s, .func f #[] lb] w fun e w' => e = .returned (.func (.func 35) #[] #[.pointer (some ⟨w.heap.size + 1, 0, none⟩), .pointer (some ⟨w.heap.size + 1 + 1, 0, none⟩), .pointer (some ⟨w.heap.size, 0, none⟩)]) ∧
      w' = ((w.alloc (.cells #[.int .i64 C] 3)).alloc (.cells #[.int .i64 s] 3)).alloc (.cells #[.func f #[] lb] 88) := by
  go_enter Try.func25, Try.ntmps25
  go_wp2_with (fail)
  exact bodyPost_ret (by simp [results, go_sem]) rfl ⟨rfl, rfl⟩
/-- Between two rounds over the amounts. -/
structure LvJ (Gd : Nat → Prop) (w : World) (lp S bt bl : Nat) (C s : Int) (J : List (Nat × Int) → World → Prop) (pre : List Int) (X : World) : Prop where
  yl : Boxed X S 75 (.func (.yield lp) #[] #[])
  tk : Boxed X bt 3 (.int .i64 (pre.length : Int))
  lv : Boxed X bl 3 (.int .i64 (lvE C s pre))
  kp : KpG Gd w X
  sz : S + 3 ≤ X.heap.size
  out : J (lvI C 0 s pre) X
theorem OwnIt.good {S m : Nat} {Gd : Nat → Prop} {X Y : World} (h : OwnIt S m X Y) (hm : m = 0) : KpG Gd X Y := ⟨h.size, fun k cs t fr _ hk => h.same k _ hk (by
  subst hm
  rcases Nat.lt_or_ge k S with h1 | h1
  · exact .inl h1
  · exact .inr ⟨rfl, h1⟩)⟩
section
variable {Gd : Nat → Prop} {w X Y : World} {lp S bt bl : Nat} {C s : Int} {J : List (Nat × Int) → World → Prop} {pre : List Int}
theorem LvJ.own {S2 : Nat} (h : LvJ Gd w lp S bt bl C s J pre X) (hJ : ∀ pre X Y, J pre X → OwnIt S 3 X Y → J pre Y) (hb : bt < S + 3 ∧ bl < S + 3) (h2 : S + 3 ≤ S2) (hE : OwnIt S2 0 X Y) : LvJ Gd w lp S bt bl C s J pre Y :=
  ⟨hE.same _ _ h.yl (.inl (by omega)), hE.same _ _ h.tk (.inl (by omega)), hE.same _ _ h.lv (.inl (by omega)), h.kp.trans (hE.good rfl), Nat.le_trans h.sz hE.size, hJ _ _ _ h.out (hE.outer (by omega) rfl)⟩
theorem LvJ.put {l : Nat} {o o' : Obj} (h : LvJ Gd w lp S bt bl C s J pre X) (hJ : ∀ pre X Y, J pre X → OwnIt S 3 X Y → J pre Y) (hl : S ≤ l) (ho : X.heap[l]? = some o) (hc : o.isCells = false) : LvJ Gd w lp S bt bl C s J pre (X.putObj l o') :=
  ⟨put_cells h.yl ho hc, put_cells h.tk ho hc, put_cells h.lv ho hc, h.kp.trans (KpG.put o' ho hc), by rw [World.putObj_size]; exact h.sz, hJ _ _ _ h.out (OwnIt.put o' hl ho hc)⟩
theorem kg_store {b o : Nat} (v : Value) (hb : ∀ k, Gd k → k ≠ b) : KpG Gd X (X.setCell ⟨b, o, none⟩ v) :=
  ⟨by simp [World.setCell], fun k cs t fr g hk => by rw [Below.heap_setCell _ ⟨b, o, none⟩ v k (hb k g)]; exact hk⟩
theorem ki_store {S m b o : Nat} (v : Value) (hb : ∀ k, Gd k → k ≠ b) (hm : m = 0) {cs : Array Value} {t : TypeId} {fr : Nat × Nat} (hc : X.heap[b]? = some (.cells cs t fr)) : KpIt S m Gd X (X.setCell ⟨b, o, none⟩ v) :=
  ⟨by simp [World.setCell], fun k cs t fr g hk => by
    subst hm
    rcases g with g | g
    · rw [Below.heap_setCell _ ⟨b, o, none⟩ v k (hb k g)]; exact hk
    · omega, fun k u _ hk hu => by
    have hne : k ≠ b := fun e => by subst e; rw [hc] at hk; cases hk; cases hu
    rw [Below.heap_setCell _ ⟨b, o, none⟩ v k hne]; exact hk⟩
theorem KpIt.inner {S S' m : Nat} (h : KpIt S m Gd X Y) (hS : S ≤ S') : KpIt S' 0 Gd X Y := ⟨h.size, fun k cs t fr g hk => by
  rcases g with g | g
  · exact h.cells k cs t fr (.inl g) hk
  · omega, fun k o hk ho hc => h.others k o (by omega) ho hc⟩
end
section
variable {Gd : Nat → Prop} {Y : World} {bt bl : Nat} {x y : Value}
theorem s2_own {S : Nat} (h1 : S ≤ bt) (h2 : bt < S + 3) (h3 : S ≤ bl) (h4 : bl < S + 3) : OwnIt S 3 Y ((Y.setCell ⟨bt, 0, none⟩ x).setCell ⟨bl, 0, none⟩ y).drew := by
  have h := (OwnIt.store (X := Y) (m := 3) h1 h2 x 0).trans (OwnIt.store h3 h4 y 0)
  exact ⟨h.os, h.tape, h.output, h.size, h.same⟩
theorem s2_kg (h1 : ∀ k, Gd k → k ≠ bt) (h2 : ∀ k, Gd k → k ≠ bl) : KpG Gd Y ((Y.setCell ⟨bt, 0, none⟩ x).setCell ⟨bl, 0, none⟩ y).drew := by
  have h := (kg_store (X := Y) (o := 0) x h1).trans (kg_store (o := 0) y h2)
  exact ⟨h.size, h.same⟩
theorem s2_ki {S : Nat} {T1 T2 : TypeId} {u v : Value} (h1 : ∀ k, Gd k → k ≠ bt) (h2 : ∀ k, Gd k → k ≠ bl) (i2 : Boxed Y bt T1 u) (i3 : Boxed Y bl T2 v) (hne : bl ≠ bt) : KpIt S 0 Gd Y ((Y.setCell ⟨bt, 0, none⟩ x).setCell ⟨bl, 0, none⟩ y).drew := by
  have h := (ki_store (X := Y) (S := S) (o := 0) x h1 rfl i2).trans (ki_store (o := 0) y h2 rfl (Boxed.other i3 hne x))
  exact ⟨h.size, h.cells, h.others⟩
theorem s2_kf {B : Nat} {T1 T2 : TypeId} {u v : Value} (i2 : Boxed Y bt T1 u) (i3 : Boxed Y bl T2 v) (hne : bl ≠ bt) : KeepsFrom B Y ((Y.setCell ⟨bt, 0, none⟩ x).setCell ⟨bl, 0, none⟩ y).drew := by
  have h := (kf_store (X := Y) (B := B) (o := 0) x i2).trans (kf_store (B := B) (o := 0) y (Boxed.other i3 hne x))
  exact ⟨h.size, h.same⟩
end
set_option maxHeartbeats 4000000 in
theorem c_levels1 (d : Nat) (hd : 3 ≤ d) (Gd : Nat → Prop) (bC bs bF : Nat) (C s : Int) (hC : 0 ≤ C ∧ C ≤ 100000000) (hs : 0 ≤ s ∧ s ≤ 100000000) (gf : Nat) (lb : Array Value) (am : List Int) (hn : am.length ≤ 1000) (has : ∀ a ∈ am, 0 ≤ a ∧ a ≤ 1600000000000)
    (eg : ∀ args w, (callFunc gf args).run Try.prog w = .ok (.enter gf args) w) (w : World) (hGd : ∀ k, Gd k → k < w.heap.size) (gC : Gd bC) (gs : Gd bs) (gF : Gd bF)
    (hseq : SeqIt (d - 1) Try.prog gf lb 0 Gd okI am w)
    (h1 : Boxed w bC 3 (.int .i64 C)) (h2 : Boxed w bs 3 (.int .i64 s)) (h3 : Boxed w bF 88 (.func (.func gf) #[] lb)) :
    SeqIt d Try.prog 35 #[.pointer (some ⟨bs, 0, none⟩), .pointer (some ⟨bF, 0, none⟩), .pointer (some ⟨bC, 0, none⟩)] 3 Gd okL (lvI C 0 s am) w := by
  intro lp J Jx W hKW hlp hJE hJxE hY h0
  have x1 : W.cell? ⟨bs, 0, none⟩ = some (.int .i64 s) := (show Boxed W bs 3 (.int .i64 s) from hKW.same _ _ _ _ gs h2).cell
  have hd1 : 1 ≤ d := by omega
  have hd2 : 1 ≤ d - 1 - 1 := by omega
  have hfm : Try.prog.follows Departure.mixedOrders = true := by kernel_rfl
  refine callsIn_of_wp_marks Try.func35 rfl trivial ?_ rfl
  simp only [Try.ntmps35, List.size_toArray, List.length_cons, List.length_nil, Nat.reduceAdd, Nat.reduceSub, Array.replicate_succ, Array.replicate_zero, List.push_toArray, List.append_toArray, List.nil_append, List.cons_append]
  gi_wp2_with (fail)
  obtain ⟨V, hV⟩ : ∃ V, V = W.alloc (.cells #[.func (.yield lp) #[] #[]] 75) := ⟨_, rfl⟩
  have hzV : V.heap.size = W.heap.size + 1 := by subst hV; simp
  have x2 : V.cell? ⟨bs, 0, none⟩ = some (.int .i64 s) := by subst hV; exact (Boxed.alloc (show Boxed W bs 3 (.int .i64 s) from hKW.same _ _ _ _ gs h2) _).cell
  have x3 : ∀ o, (V.alloc o).cell? ⟨bs, 0, none⟩ = some (.int .i64 s) := fun o => by subst hV; exact (Boxed.alloc (Boxed.alloc (show Boxed W bs 3 (.int .i64 s) from hKW.same _ _ _ _ gs h2) _) _).cell
  have x4 : ∀ o o', ((V.alloc o).alloc o').cell? ⟨bs, 0, none⟩ = some (.int .i64 s) := fun o o' => by subst hV; exact (Boxed.alloc (Boxed.alloc (Boxed.alloc (show Boxed W bs 3 (.int .i64 s) from hKW.same _ _ _ _ gs h2) _) _) _).cell
  have HYL := Lib.hid (show Boxed V W.heap.size 75 (.func (.yield lp) #[] #[]) by subst hV; exact Boxed.new _ _ _)
  have HBV := Lib.hid (show Below W.heap.size W V by subst hV; exact (Below.refl _ _).alloc (Nat.le_refl _) _)
  rw [← hV]
  clear x1 hV
  gi_region_o
  · obtain ⟨bl, hbl⟩ : ∃ x, x = W.heap.size + 1 + 1 := ⟨_, rfl⟩
    rw [← hbl]
    obtain ⟨bt, hbt⟩ : ∃ x, x = W.heap.size + 1 := ⟨_, rfl⟩
    rw [← hbt]
    have HB1 := Lib.hid (show Below W.heap.size W ((V.alloc (.cells #[.int .i64 0] 3)).alloc (.cells #[.int .i64 s] 3)).drew from ((HBV.out.alloc (by omega) _).alloc (by simp; omega) _).drew)
    have HT1 := Lib.hid (show Boxed ((V.alloc (.cells #[.int .i64 0] 3)).alloc (.cells #[.int .i64 s] 3)).drew bt 3 (.int .i64 0) from Boxed.alloc (row_new _ _ _ (by omega)) _)
    have HL1 := Lib.hid (show Boxed ((V.alloc (.cells #[.int .i64 0] 3)).alloc (.cells #[.int .i64 s] 3)).drew bl 3 (.int .i64 s) from row_new _ _ _ (by simp; omega))
    have HYL1 := Lib.hid (show Boxed ((V.alloc (.cells #[.int .i64 0] 3)).alloc (.cells #[.int .i64 s] 3)).drew W.heap.size 75 (.func (.yield lp) #[] #[]) from Boxed.alloc (Boxed.alloc HYL.out _) _)
    have hz1 : ((V.alloc (.cells #[.int .i64 0] 3)).alloc (.cells #[.int .i64 s] 3)).drew.heap.size = W.heap.size + 3 := by show ((V.alloc _).alloc _).heap.size = _; simp; omega
    generalize ((V.alloc (.cells #[.int .i64 0] 3)).alloc (.cells #[.int .i64 s] 3)).drew = W1 at HB1 HT1 HL1 HYL1 hz1 ⊢
    have hne : bt ≠ bl := by omega
    have hbb : bt < W.heap.size + 3 ∧ bl < W.heap.size + 3 ∧ W.heap.size < bt ∧ W.heap.size < bl := by omega
    clear hbt hbl x2 x3 x4 hzV HBV HYL
    have HJ1 := Lib.hid (hJE _ _ _ h0 (OwnIt.of_below HB1.out (Nat.le_refl _)))
    have HK1 := Lib.hid (hKW.trans (KpG.of_below (Gd := Gd) HB1.out (Nat.le_refl _)))
    have y0 := HYL1.out.cell
    have y1 := HT1.out.cell
    have y2 := HL1.out.cell
    have hpr0 : [(0, s)] <+: lvI C 0 s am := lvI_prefix C [] am 0 s
    obtain ⟨fn, tmps, assign, body, hy, hR⟩ := hY [] #[.int .i64 0, .int .i64 s] (0, s) W1 HJ1.out (by omega) rfl hpr0
    gi_wp2_with (fail)
    refine hR.mono ?_
    rintro e W2 (⟨rfl, hJ2, hk2⟩ | ⟨rfl, hJx2, -⟩)
    rotate_left
    · have Hx := Lib.hid hJx2
      clear hJx2 hy hY
      gi_wp2_with (fail)
      exact ⟨_, results_none rfl _ _ _, ⟨_, rfl⟩, .inr ⟨_, hpr0, Hx.out⟩⟩
    have HJ2 := Lib.hid hJ2
    have HK2 := Lib.hid (HK1.out.trans hk2.good)
    have HT2 := Lib.hid (show Boxed W2 bt 3 (.int .i64 0) from hk2.cells _ _ _ _ (.inr (by omega)) HT1.out)
    have HL2 := Lib.hid (show Boxed W2 bl 3 (.int .i64 s) from hk2.cells _ _ _ _ (.inr (by omega)) HL1.out)
    have HYL2 := Lib.hid (show Boxed W2 W.heap.size 75 (.func (.yield lp) #[] #[]) from hk2.cells _ _ _ _ (.inr (by omega)) HYL1.out)
    have hz2 : W.heap.size + 3 ≤ W2.heap.size := by have := hk2.size; omega
    have z3 := (show Boxed W2 bF 88 (.func (.func gf) #[] lb) from HK2.out.same _ _ _ _ gF h3).cell
    have HY := Lib.hid hY
    have HSQ := Lib.hid hseq
    have HC1 := Lib.hid h1
    have HA := Lib.hid has
    clear hJ2 hk2 hy y0 y1 y2 HJ1 HK1 HB1 HT1 HL1 HYL1 hY hseq h1 h2 h3 has
    have hkz := hKW.size
    gi_wp2_with (fail)
    refine wpIn_it (n := d) (by omega) (gf := gf) (lb := lb) rfl eg (Gd := Gd) (ok := okI) (ts := am) (w0 := w) HSQ.out HK2.out (fun v t h => by rw [h]; rfl)
      (LvJ Gd w lp W.heap.size bt bl C s J) (fun c pre X => c = .ret ∧ Jx (lvI C 0 s pre) X)
      (fun pre X Y h hE => h.own hJE ⟨hbb.1, hbb.2.1⟩ (by omega) hE) (fun c pre X Y h hE => ⟨h.1, hJxE _ _ _ h.2 (hE.outer (by omega) rfl)⟩)
      (fun pre X l o o' h hl ho hc => h.put hJE (by omega) ho hc) (fun c pre X l o o' h hl ho hc => ⟨h.1, hJxE _ _ _ h.2 (OwnIt.put o' (by omega) ho hc)⟩)
      ⟨HYL2.out, HT2.out, HL2.out, HK2.out, hz2, HJ2.out⟩ ?round ?done ?stop
    case round =>
      intro l pre v a X K hpre hok hK
      obtain rfl : v = #[.int .i64 a] := hok
      gi_wp2_with (fail)
      refine hK _ _ (Below.refl _ _) ?_
      rintro Y ⟨o, o', ho, hoc, hYe⟩ hsz ⟨i1, i2, i3, i4, i5, i6⟩
      have HAM := Lib.hid (HA.out a (hpre.subset (by simp)))
      have hlen : pre.length + 1 ≤ am.length := by have := hpre.length_le; simpa using this
      have HLB := Lib.hid (lvE_bound hC.1 pre s hs.1 (fun x hx => HA.out x (hpre.subset (by simp [hx]))))
      have HLN := Lib.hid (lvE_nonneg hs.1 pre (C := C))
      have HS := Lib.hid (lvE_snoc C s pre a)
      have HPR := Lib.hid hpre
      have c1 := (show Boxed Y bC 3 (.int .i64 C) from i4.same _ _ _ _ gC HC1.out).cell
      have c2 := i1.cell
      have c3 := i2.cell
      have c4 := i3.cell
      have f3 := i2.frozen
      have f4 := i3.frozen
      have n1 : bC ≠ bt := by have := hGd bC gC; omega
      have n2 : bC ≠ bl := by have := hGd bC gC; omega
      have n3 : ∀ k, Gd k → k ≠ bt := fun k g => by have := hGd k g; omega
      have n4 : ∀ k, Gd k → k ≠ bl := fun k g => by have := hGd k g; omega
      obtain ⟨z, hz⟩ : ∃ z, z = lvE C s pre := ⟨_, rfl⟩
      have hzb : 0 ≤ z ∧ z ≤ 1700000000000000 := by have h1 := HLB.out; have h2 := HLN.out; rw [← hz] at h1 h2; omega
      rw [← hz] at c4 i3
      rw [← hz] at HS
      have ha := HAM.out
      have HI := Lib.hid (And.intro i1 (And.intro i2 (And.intro i3 (And.intro i4 i6))))
      have hnn := Ne.symm hne
      have N3 := Lib.hid n3
      have N4 := Lib.hid n4
      have HJE := Lib.hid hJE
      have HJX := Lib.hid hJxE
      have HEG := Lib.hid eg
      clear n3 n4 hGd hJE hJxE eg
      clear hz HLB HLN HAM i1 i2 i3 i4 i6 hpre hYe ho hoc o o' hK
      obtain ⟨mx, hmx⟩ : ∃ mx, max 0 (z + a - C) = mx := ⟨_, rfl⟩
      have HN := Lib.hid (show lvE C s (pre ++ [a]) = mx by rw [HS.out, ← hmx]; rfl)
      gi_wp2_with (fail)
      refine rg_levels _ _ _ _ _ _ _ _ _ _ _ _ _ _ _ _ _ _ _ _ _ _ _ _ _ _ _ _ bC bt bl a (pre.length : Int) z C mx hmx (by omega) hzb ha hC n1 n2 hne hnn Y c1 c3 c4 f3 f4 ?_
      obtain ⟨i1, i2, i3, i4, i6⟩ := HI.out
      have HZT := Lib.hid (show Boxed ((Y.setCell ⟨bt, 0, none⟩ (.int .i64 (pre.length + 1))).setCell ⟨bl, 0, none⟩ (.int .i64 mx)).drew bt 3 (.int .i64 ((pre ++ [a]).length : Nat)) by rw [List.length_append]; exact (Boxed.set _ i2).other hne _)
      have HZL := Lib.hid (show Boxed ((Y.setCell ⟨bt, 0, none⟩ (.int .i64 (pre.length + 1))).setCell ⟨bl, 0, none⟩ (.int .i64 mx)).drew bl 3 (.int .i64 mx) from Boxed.set _ (Boxed.other i3 hnn _))
      have HZY := Lib.hid (show Boxed ((Y.setCell ⟨bt, 0, none⟩ (.int .i64 (pre.length + 1))).setCell ⟨bl, 0, none⟩ (.int .i64 mx)).drew W.heap.size 75 (.func (.yield lp) #[] #[]) from (i1.other (by omega) _).other (by omega) _)
      have HOW := Lib.hid (show OwnIt W.heap.size 3 Y ((Y.setCell ⟨bt, 0, none⟩ (.int .i64 (pre.length + 1))).setCell ⟨bl, 0, none⟩ (.int .i64 mx)).drew from s2_own (by omega) (by omega) (by omega) (by omega))
      have HKG := Lib.hid (show KpG Gd Y ((Y.setCell ⟨bt, 0, none⟩ (.int .i64 (pre.length + 1))).setCell ⟨bl, 0, none⟩ (.int .i64 mx)).drew from s2_kg N3.out N4.out)
      have HKI := Lib.hid (show KpIt (W2.heap.size + 2) 0 Gd Y ((Y.setCell ⟨bt, 0, none⟩ (.int .i64 (pre.length + 1))).setCell ⟨bl, 0, none⟩ (.int .i64 mx)).drew from s2_ki N3.out N4.out i2 i3 hnn)
      have HKF := Lib.hid (show KeepsFrom W2.heap.size Y ((Y.setCell ⟨bt, 0, none⟩ (.int .i64 (pre.length + 1))).setCell ⟨bl, 0, none⟩ (.int .i64 mx)).drew from s2_kf i2 i3 hnn)
      generalize ((Y.setCell ⟨bt, 0, none⟩ (.int .i64 (pre.length + 1))).setCell ⟨bl, 0, none⟩ (.int .i64 mx)).drew = Z at HZT HZL HZY HOW HKG HKI HKF ⊢
      have HJZ := Lib.hid (HJE.out _ _ _ i6 HOW.out)
      have HKZ := Lib.hid (i4.trans HKG.out)
      have hzZ : W2.heap.size + 2 ≤ Z.heap.size := Nat.le_trans hsz HKG.out.size
      clear c1 c2 c3 c4 f3 f4 i1 i2 i3 i4 i6
      have y0 := HZY.out.cell
      have y1 : Z.cell? ⟨bt, 0, none⟩ = some (.int .i64 ((pre.length : Int) + 1)) := by have := HZT.out.cell; rw [List.length_append] at this; exact this
      have y2 := HZL.out.cell
      have HPP := Lib.hid (show lvI C 0 s pre ++ [(pre.length + 1, mx)] = lvI C 0 s (pre ++ [a]) by rw [lvI_snoc, HN.out, Nat.zero_add])
      have HPQ := Lib.hid (show lvI C 0 s (pre ++ [a]) <+: lvI C 0 s am from lvI_pre HPR.out 0 s)
      obtain ⟨fn2, tmps2, assign2, body2, hy2, hR2⟩ := HY.out (lvI C 0 s pre) #[.int .i64 ((pre.length : Int) + 1), .int .i64 mx] (pre.length + 1, mx) Z HJZ.out (by omega) rfl (by rw [HPP.out]; exact HPQ.out)
      gi_wp2_with (fail)
      refine (show RoundIn (Fence.wide.inRound l) (d - 1 - 1 - 1) Try.prog lp fn2 tmps2 assign2 body2 Z _ from ⟨trivial, fun c cs _ => hR2.2 c cs (room_wide _)⟩ : RoundIn (Fence.wide.inRound l) (d - 1 - 1 - 1) Try.prog lp fn2 tmps2 assign2 body2 Z _).mono ?_
      rintro e W3 (⟨rfl, hJ3, hk3⟩ | ⟨rfl, hJx3, hk3⟩)
      · rw [HPP.out] at hJ3
        have HJ3 := Lib.hid hJ3
        have HF := Lib.hid (HKF.out.trans (kf_up hk3.from (by omega)))
        have HQ := Lib.hid (HKI.out.trans (hk3.inner (by omega)))
        have HE := Lib.hid (show LvJ Gd w lp W.heap.size bt bl C s J (pre ++ [a]) W3 from ⟨hk3.cells _ _ _ _ (.inr (by omega)) HZY.out, hk3.cells _ _ _ _ (.inr (by omega)) HZT.out, by rw [HN.out]; exact hk3.cells _ _ _ _ (.inr (by omega)) HZL.out, HKZ.out.trans hk3.good, by have := hk3.size; omega, hJ3⟩)
        clear hJ3 hk3 hy2 y0 y1 y2
        gi_wp2_with (fail)
        exact ⟨HF.out, HQ.out, HE.out⟩
      · rw [HPP.out] at hJx3
        have Hx := Lib.hid hJx3
        have HF := Lib.hid (HKF.out.trans (kf_up hk3 (by omega)))
        clear hJx3 hk3 hy2 y0 y1 y2
        gi_wp2_with (fail)
        exact ⟨HF.out, rfl, Hx.out⟩
    case done =>
      rintro D X rfl hI hdef
      have HDEF := Lib.hid hdef
      have Hx := Lib.hid (hJE _ _ _ hI.out (OwnIt.put (.deferred none) (by omega) hdef rfl))
      clear hI hdef
      gi_wp2_with (fail)
      refine ⟨by simp, .inl ⟨_, _, rfl, run_takeDeferred HDEF.out, ?_⟩⟩
      exact ⟨_, results_none rfl _ _ _, ⟨_, rfl⟩, .inl Hx.out⟩
    case stop =>
      rintro D c pre X rfl hpre ⟨rfl, hx⟩ hdef
      have HDEF := Lib.hid hdef
      have Hx := Lib.hid (hJxE _ _ _ hx (OwnIt.put (.deferred none) (by omega) hdef rfl))
      clear hx hdef
      gi_wp2_with (fail)
      refine ⟨by simp, .inl ⟨_, _, rfl, run_takeDeferred HDEF.out, ?_⟩⟩
      exact ⟨_, results_none rfl _ _ _, ⟨_, rfl⟩, .inr ⟨_, lvI_pre hpre 0 s, Hx.out⟩⟩
  · obtain ⟨bt, hbt⟩ : ∃ x, x = W.heap.size + 1 + 1 := ⟨_, rfl⟩
    rw [← hbt]
    obtain ⟨bl, hbl⟩ : ∃ x, x = W.heap.size + 1 := ⟨_, rfl⟩
    rw [← hbl]
    have HB1 := Lib.hid (show Below W.heap.size W ((V.alloc (.cells #[.int .i64 s] 3)).alloc (.cells #[.int .i64 0] 3)).drew from ((HBV.out.alloc (by omega) _).alloc (by simp; omega) _).drew)
    have HT1 := Lib.hid (show Boxed ((V.alloc (.cells #[.int .i64 s] 3)).alloc (.cells #[.int .i64 0] 3)).drew bt 3 (.int .i64 0) from row_new _ _ _ (by simp; omega))
    have HL1 := Lib.hid (show Boxed ((V.alloc (.cells #[.int .i64 s] 3)).alloc (.cells #[.int .i64 0] 3)).drew bl 3 (.int .i64 s) from Boxed.alloc (row_new _ _ _ (by omega)) _)
    have HYL1 := Lib.hid (show Boxed ((V.alloc (.cells #[.int .i64 s] 3)).alloc (.cells #[.int .i64 0] 3)).drew W.heap.size 75 (.func (.yield lp) #[] #[]) from Boxed.alloc (Boxed.alloc HYL.out _) _)
    have hz1 : ((V.alloc (.cells #[.int .i64 s] 3)).alloc (.cells #[.int .i64 0] 3)).drew.heap.size = W.heap.size + 3 := by show ((V.alloc _).alloc _).heap.size = _; simp; omega
    generalize ((V.alloc (.cells #[.int .i64 s] 3)).alloc (.cells #[.int .i64 0] 3)).drew = W1 at HB1 HT1 HL1 HYL1 hz1 ⊢
    have hne : bt ≠ bl := by omega
    have hbb : bt < W.heap.size + 3 ∧ bl < W.heap.size + 3 ∧ W.heap.size < bt ∧ W.heap.size < bl := by omega
    clear hbt hbl x2 x3 x4 hzV HBV HYL
    have HJ1 := Lib.hid (hJE _ _ _ h0 (OwnIt.of_below HB1.out (Nat.le_refl _)))
    have HK1 := Lib.hid (hKW.trans (KpG.of_below (Gd := Gd) HB1.out (Nat.le_refl _)))
    have y0 := HYL1.out.cell
    have y1 := HT1.out.cell
    have y2 := HL1.out.cell
    have hpr0 : [(0, s)] <+: lvI C 0 s am := lvI_prefix C [] am 0 s
    obtain ⟨fn, tmps, assign, body, hy, hR⟩ := hY [] #[.int .i64 0, .int .i64 s] (0, s) W1 HJ1.out (by omega) rfl hpr0
    gi_wp2_with (fail)
    refine hR.mono ?_
    rintro e W2 (⟨rfl, hJ2, hk2⟩ | ⟨rfl, hJx2, -⟩)
    rotate_left
    · have Hx := Lib.hid hJx2
      clear hJx2 hy hY
      gi_wp2_with (fail)
      exact ⟨_, results_none rfl _ _ _, ⟨_, rfl⟩, .inr ⟨_, hpr0, Hx.out⟩⟩
    have HJ2 := Lib.hid hJ2
    have HK2 := Lib.hid (HK1.out.trans hk2.good)
    have HT2 := Lib.hid (show Boxed W2 bt 3 (.int .i64 0) from hk2.cells _ _ _ _ (.inr (by omega)) HT1.out)
    have HL2 := Lib.hid (show Boxed W2 bl 3 (.int .i64 s) from hk2.cells _ _ _ _ (.inr (by omega)) HL1.out)
    have HYL2 := Lib.hid (show Boxed W2 W.heap.size 75 (.func (.yield lp) #[] #[]) from hk2.cells _ _ _ _ (.inr (by omega)) HYL1.out)
    have hz2 : W.heap.size + 3 ≤ W2.heap.size := by have := hk2.size; omega
    have z3 := (show Boxed W2 bF 88 (.func (.func gf) #[] lb) from HK2.out.same _ _ _ _ gF h3).cell
    have HY := Lib.hid hY
    have HSQ := Lib.hid hseq
    have HC1 := Lib.hid h1
    have HA := Lib.hid has
    clear hJ2 hk2 hy y0 y1 y2 HJ1 HK1 HB1 HT1 HL1 HYL1 hY hseq h1 h2 h3 has
    have hkz := hKW.size
    gi_wp2_with (fail)
    refine wpIn_it (n := d) (by omega) (gf := gf) (lb := lb) rfl eg (Gd := Gd) (ok := okI) (ts := am) (w0 := w) HSQ.out HK2.out (fun v t h => by rw [h]; rfl)
      (LvJ Gd w lp W.heap.size bt bl C s J) (fun c pre X => c = .ret ∧ Jx (lvI C 0 s pre) X)
      (fun pre X Y h hE => h.own hJE ⟨hbb.1, hbb.2.1⟩ (by omega) hE) (fun c pre X Y h hE => ⟨h.1, hJxE _ _ _ h.2 (hE.outer (by omega) rfl)⟩)
      (fun pre X l o o' h hl ho hc => h.put hJE (by omega) ho hc) (fun c pre X l o o' h hl ho hc => ⟨h.1, hJxE _ _ _ h.2 (OwnIt.put o' (by omega) ho hc)⟩)
      ⟨HYL2.out, HT2.out, HL2.out, HK2.out, hz2, HJ2.out⟩ ?round ?done ?stop
    case round =>
      intro l pre v a X K hpre hok hK
      obtain rfl : v = #[.int .i64 a] := hok
      gi_wp2_with (fail)
      refine hK _ _ (Below.refl _ _) ?_
      rintro Y ⟨o, o', ho, hoc, hYe⟩ hsz ⟨i1, i2, i3, i4, i5, i6⟩
      have HAM := Lib.hid (HA.out a (hpre.subset (by simp)))
      have hlen : pre.length + 1 ≤ am.length := by have := hpre.length_le; simpa using this
      have HLB := Lib.hid (lvE_bound hC.1 pre s hs.1 (fun x hx => HA.out x (hpre.subset (by simp [hx]))))
      have HLN := Lib.hid (lvE_nonneg hs.1 pre (C := C))
      have HS := Lib.hid (lvE_snoc C s pre a)
      have HPR := Lib.hid hpre
      have c1 := (show Boxed Y bC 3 (.int .i64 C) from i4.same _ _ _ _ gC HC1.out).cell
      have c2 := i1.cell
      have c3 := i2.cell
      have c4 := i3.cell
      have f3 := i2.frozen
      have f4 := i3.frozen
      have n1 : bC ≠ bt := by have := hGd bC gC; omega
      have n2 : bC ≠ bl := by have := hGd bC gC; omega
      have n3 : ∀ k, Gd k → k ≠ bt := fun k g => by have := hGd k g; omega
      have n4 : ∀ k, Gd k → k ≠ bl := fun k g => by have := hGd k g; omega
      obtain ⟨z, hz⟩ : ∃ z, z = lvE C s pre := ⟨_, rfl⟩
      have hzb : 0 ≤ z ∧ z ≤ 1700000000000000 := by have h1 := HLB.out; have h2 := HLN.out; rw [← hz] at h1 h2; omega
      rw [← hz] at c4 i3
      rw [← hz] at HS
      have ha := HAM.out
      have HI := Lib.hid (And.intro i1 (And.intro i2 (And.intro i3 (And.intro i4 i6))))
      have hnn := Ne.symm hne
      have N3 := Lib.hid n3
      have N4 := Lib.hid n4
      have HJE := Lib.hid hJE
      have HJX := Lib.hid hJxE
      have HEG := Lib.hid eg
      clear n3 n4 hGd hJE hJxE eg
      clear hz HLB HLN HAM i1 i2 i3 i4 i6 hpre hYe ho hoc o o' hK
      obtain ⟨mx, hmx⟩ : ∃ mx, max 0 (z + a - C) = mx := ⟨_, rfl⟩
      have HN := Lib.hid (show lvE C s (pre ++ [a]) = mx by rw [HS.out, ← hmx]; rfl)
      gi_wp2_with (fail)
      refine rg_levels _ _ _ _ _ _ _ _ _ _ _ _ _ _ _ _ _ _ _ _ _ _ _ _ _ _ _ _ bC bt bl a (pre.length : Int) z C mx hmx (by omega) hzb ha hC n1 n2 hne hnn Y c1 c3 c4 f3 f4 ?_
      obtain ⟨i1, i2, i3, i4, i6⟩ := HI.out
      have HZT := Lib.hid (show Boxed ((Y.setCell ⟨bt, 0, none⟩ (.int .i64 (pre.length + 1))).setCell ⟨bl, 0, none⟩ (.int .i64 mx)).drew bt 3 (.int .i64 ((pre ++ [a]).length : Nat)) by rw [List.length_append]; exact (Boxed.set _ i2).other hne _)
      have HZL := Lib.hid (show Boxed ((Y.setCell ⟨bt, 0, none⟩ (.int .i64 (pre.length + 1))).setCell ⟨bl, 0, none⟩ (.int .i64 mx)).drew bl 3 (.int .i64 mx) from Boxed.set _ (Boxed.other i3 hnn _))
      have HZY := Lib.hid (show Boxed ((Y.setCell ⟨bt, 0, none⟩ (.int .i64 (pre.length + 1))).setCell ⟨bl, 0, none⟩ (.int .i64 mx)).drew W.heap.size 75 (.func (.yield lp) #[] #[]) from (i1.other (by omega) _).other (by omega) _)
      have HOW := Lib.hid (show OwnIt W.heap.size 3 Y ((Y.setCell ⟨bt, 0, none⟩ (.int .i64 (pre.length + 1))).setCell ⟨bl, 0, none⟩ (.int .i64 mx)).drew from s2_own (by omega) (by omega) (by omega) (by omega))
      have HKG := Lib.hid (show KpG Gd Y ((Y.setCell ⟨bt, 0, none⟩ (.int .i64 (pre.length + 1))).setCell ⟨bl, 0, none⟩ (.int .i64 mx)).drew from s2_kg N3.out N4.out)
      have HKI := Lib.hid (show KpIt (W2.heap.size + 2) 0 Gd Y ((Y.setCell ⟨bt, 0, none⟩ (.int .i64 (pre.length + 1))).setCell ⟨bl, 0, none⟩ (.int .i64 mx)).drew from s2_ki N3.out N4.out i2 i3 hnn)
      have HKF := Lib.hid (show KeepsFrom W2.heap.size Y ((Y.setCell ⟨bt, 0, none⟩ (.int .i64 (pre.length + 1))).setCell ⟨bl, 0, none⟩ (.int .i64 mx)).drew from s2_kf i2 i3 hnn)
      generalize ((Y.setCell ⟨bt, 0, none⟩ (.int .i64 (pre.length + 1))).setCell ⟨bl, 0, none⟩ (.int .i64 mx)).drew = Z at HZT HZL HZY HOW HKG HKI HKF ⊢
      have HJZ := Lib.hid (HJE.out _ _ _ i6 HOW.out)
      have HKZ := Lib.hid (i4.trans HKG.out)
      have hzZ : W2.heap.size + 2 ≤ Z.heap.size := Nat.le_trans hsz HKG.out.size
      clear c1 c2 c3 c4 f3 f4 i1 i2 i3 i4 i6
      have y0 := HZY.out.cell
      have y1 : Z.cell? ⟨bt, 0, none⟩ = some (.int .i64 ((pre.length : Int) + 1)) := by have := HZT.out.cell; rw [List.length_append] at this; exact this
      have y2 := HZL.out.cell
      have HPP := Lib.hid (show lvI C 0 s pre ++ [(pre.length + 1, mx)] = lvI C 0 s (pre ++ [a]) by rw [lvI_snoc, HN.out, Nat.zero_add])
      have HPQ := Lib.hid (show lvI C 0 s (pre ++ [a]) <+: lvI C 0 s am from lvI_pre HPR.out 0 s)
      obtain ⟨fn2, tmps2, assign2, body2, hy2, hR2⟩ := HY.out (lvI C 0 s pre) #[.int .i64 ((pre.length : Int) + 1), .int .i64 mx] (pre.length + 1, mx) Z HJZ.out (by omega) rfl (by rw [HPP.out]; exact HPQ.out)
      gi_wp2_with (fail)
      refine (show RoundIn (Fence.wide.inRound l) (d - 1 - 1 - 1) Try.prog lp fn2 tmps2 assign2 body2 Z _ from ⟨trivial, fun c cs _ => hR2.2 c cs (room_wide _)⟩ : RoundIn (Fence.wide.inRound l) (d - 1 - 1 - 1) Try.prog lp fn2 tmps2 assign2 body2 Z _).mono ?_
      rintro e W3 (⟨rfl, hJ3, hk3⟩ | ⟨rfl, hJx3, hk3⟩)
      · rw [HPP.out] at hJ3
        have HJ3 := Lib.hid hJ3
        have HF := Lib.hid (HKF.out.trans (kf_up hk3.from (by omega)))
        have HQ := Lib.hid (HKI.out.trans (hk3.inner (by omega)))
        have HE := Lib.hid (show LvJ Gd w lp W.heap.size bt bl C s J (pre ++ [a]) W3 from ⟨hk3.cells _ _ _ _ (.inr (by omega)) HZY.out, hk3.cells _ _ _ _ (.inr (by omega)) HZT.out, by rw [HN.out]; exact hk3.cells _ _ _ _ (.inr (by omega)) HZL.out, HKZ.out.trans hk3.good, by have := hk3.size; omega, hJ3⟩)
        clear hJ3 hk3 hy2 y0 y1 y2
        gi_wp2_with (fail)
        exact ⟨HF.out, HQ.out, HE.out⟩
      · rw [HPP.out] at hJx3
        have Hx := Lib.hid hJx3
        have HF := Lib.hid (HKF.out.trans (kf_up hk3 (by omega)))
        clear hJx3 hk3 hy2 y0 y1 y2
        gi_wp2_with (fail)
        exact ⟨HF.out, rfl, Hx.out⟩
    case done =>
      rintro D X rfl hI hdef
      have HDEF := Lib.hid hdef
      have Hx := Lib.hid (hJE _ _ _ hI.out (OwnIt.put (.deferred none) (by omega) hdef rfl))
      clear hI hdef
      gi_wp2_with (fail)
      refine ⟨by simp, .inl ⟨_, _, rfl, run_takeDeferred HDEF.out, ?_⟩⟩
      exact ⟨_, results_none rfl _ _ _, ⟨_, rfl⟩, .inl Hx.out⟩
    case stop =>
      rintro D c pre X rfl hpre ⟨rfl, hx⟩ hdef
      have HDEF := Lib.hid hdef
      have Hx := Lib.hid (hJxE _ _ _ hx (OwnIt.put (.deferred none) (by omega) hdef rfl))
      clear hx hdef
      gi_wp2_with (fail)
      refine ⟨by simp, .inl ⟨_, _, rfl, run_takeDeferred HDEF.out, ?_⟩⟩
      exact ⟨_, results_none rfl _ _ _, ⟨_, rfl⟩, .inr ⟨_, lvI_pre hpre 0 s, Hx.out⟩⟩
end Go.Proofs.Ytpokpgnclohiiaa.v6

namespace Go.Proofs.Ytpokpgnclohiiaa.v6
open Go.RowKit Go.Shelf
attribute [local go_sem] Oper.semAt_some
set_option maxRecDepth 100000

theorem wpListIn_append_lies {F : Fence} {n : Nat} {P : Program} (w : World) {ops : Array Oper} {rest : List Oper} {o : Oper} {a : Act} {Q : Exit → Act → World → Prop}
    (hg : o.guard = none) (s x : Operand) (t : TypeId) (hop : o.op = Op.call { callee := Callee.builtin Builtin.append, args := #[s, x], argTypes := #[t, t] })
    (base : Nat) (e : TypeId) (i : TypeInfo) (z : Value) (size bytes : Nat) (h1 : P.underlying t = some (.slice e)) (h2 : P.info? e = some i) (h3 : i.zero = some z) (h4 : i.size = size) (h5 : i.bytes = bytes) (h6 : z.cells.size = size) (h7 : 0 < size)
    (v : Value) (k : Nat) (xs : List Value) (hs : a.eval s = v) (hown : w.ownsRow base e size v k xs) (ad : Addr) (m c : Nat) (news : List Value) (hx : a.eval x = .slice (some ad) m c) (hn : news.length = m * size)
    (hc : ∀ j u, news[j]? = some u → w.cell? (ad.add j) = some u) (h1c : ∀ u ∈ news, u.oneCell' = true) (hm : 0 < m) (b1 : k + m ≤ maxLen) (b2 : (k + m) * bytes ≤ 140737488355328) (b3 : base ≤ w.heap.size) (H : Nat) (hH : w.heap.size = H)
    (hK : ∀ g cap w', w'.ownsRow base e size (.slice (some ⟨g, 0, none⟩) (k + m) cap) (k + m) (xs ++ news) → w.grownBy w' v.ownBlock → (v.ownBlock = some g ∨ g = H) → wpListIn F n P ops Q rest (a.put o.dst (.slice (some ⟨g, 0, none⟩) (k + m) cap)) w') :
    wpListIn F n P ops Q (o :: rest) a w := by
  refine wpListIn_plain hg fun K hK' => ?_
  obtain ⟨g, cap, w', hrun, r1, r2, r3, -⟩ := run_append_lies (P := P) w t o.type base e i z size bytes h1 h2 h3 h4 h5 h6 h7 v k xs hown ad m c news hn hc h1c hm b1 b2 b3 H hH
  unfold Oper.wpIn
  refine ⟨?_, ?_⟩
  · simp [Oper.about, hop, resolve, Target.leads, Sem.run_pure]
  · rw [Oper.semAt_plain F _ _ (by rw [hop]; intro c hc'; cases hc')]
    simp [execOp, hop, resolve, invoke, builtin, hs, hx, hrun, Result.andThen]
    exact hK' _ _ (hK g cap w' r1 r2 r3)

/-- Numbers as cells. -/
def ints (l : List Int) : List Value := l.map fun x => .int .i64 x
theorem ints_snoc (l : List Int) (x : Int) : ints (l ++ [x]) = ints l ++ [.int .i64 x] := by simp [ints]
theorem own_intSl {w : World} {base : Nat} {v : Value} {l : List Int} (h : w.ownsRow base 3 1 v l.length (ints l)) : IntSl w v l := by
  have hc := h
  obtain ⟨k1, ⟨e, e2⟩ | ⟨g, cap, cur, e, k3, k4, k5, k6, k7, k8⟩⟩ := h
  · subst e
    obtain rfl : l = [] := List.eq_nil_of_length_eq_zero e2
    exact IntSl.nil w
  · subst e
    refine ⟨some ⟨g, 0, none⟩, cap, rfl, k5, k6, (by intro h; cases h), fun _ => ⟨g, 0, rfl, (Array.getElem?_eq_some_iff.1 k4).1, fun j x hj => ?_⟩⟩
    have hj' := (List.getElem?_eq_some_iff.1 hj).1
    rw [Nat.zero_add]
    have := hc.cellAt j (by simp; omega)
    rw [this]
    simp [ints, hj]
/-- What was yielded so far lies in a row of its own, from S on, and its variable in the box bc. -/
structure ColI (w0 : World) (bc S : Nat) (xs : List Int) (X : World) : Prop where
  row : ∃ v, Boxed X bc 30 v ∧ X.ownsRow w0.heap.size 3 1 v xs.length (ints xs) ∧ ∀ g, v.ownBlock = some g → S ≤ g
  bel : Below w0.heap.size w0 X
theorem below_own {w0 X Y : World} {S m : Nat} (h : Below w0.heap.size w0 X) (hE : OwnIt S m X Y) (hS : w0.heap.size ≤ S) : Below w0.heap.size w0 Y := by
  refine ⟨hE.os.trans h.os, hE.tape.trans h.tape, hE.output.trans h.output, Nat.le_trans h.size hE.size, fun k hk => ?_⟩
  have hlt : k < X.heap.size := Nat.lt_of_lt_of_le hk h.size
  have h3 := Array.getElem?_eq_getElem hlt
  have := hE.same k _ h3 (.inl (by omega))
  rw [this, ← h3]
  exact h.block k hk
theorem below_put {B l : Nat} {o' : Obj} {w X : World} (h : Below B w X) (hl : B ≤ l) : Below B w (X.putObj l o') :=
  ⟨h.os, h.tape, h.output, by simpa using h.size, fun k hk => (World.putObj_heap_other (by omega)).trans (h.block k hk)⟩
theorem own_row_kept {X Y : World} {base : Nat} {e : TypeId} {size n : Nat} {v : Value} {xs : List Value} (h : X.ownsRow base e size v n xs) (hs : ∀ g cur, v.ownBlock = some g → X.heap[g]? = some (.cells cur e (0, 0)) → Y.heap[g]? = some (.cells cur e (0, 0))) : Y.ownsRow base e size v n xs := by
  obtain ⟨k1, h | ⟨g, cap, cur, rfl, k3, k4, k⟩⟩ := h
  · exact ⟨k1, .inl h⟩
  · exact ⟨k1, .inr ⟨g, cap, cur, rfl, k3, hs g cur rfl k4, k⟩⟩
section
variable {w0 X Y : World} {bc S m : Nat} {xs : List Int}
theorem ColI.own (h : ColI w0 bc (S + m) xs X) (hE : OwnIt S m X Y) (hb : bc < S) (hS : w0.heap.size ≤ S) : ColI w0 bc (S + m) xs Y := by
  obtain ⟨⟨v, k1, k2, k3⟩, k4⟩ := h
  exact ⟨⟨v, hE.same _ _ k1 (.inl hb), own_row_kept k2 (fun g cur hg hc => hE.same _ _ hc (.inr ⟨rfl, k3 g hg⟩)), k3⟩, below_own k4 hE hS⟩
theorem ColI.put {l : Nat} {o o' : Obj} (h : ColI w0 bc S xs X) (hw : w0.heap.size ≤ l) (hl : X.heap[l]? = some o) (ho : o.isCells = false) : ColI w0 bc S xs (X.putObj l o') := by
  obtain ⟨⟨v, k1, k2, k3⟩, k4⟩ := h
  exact ⟨⟨v, put_cells k1 hl ho, own_row_kept k2 (fun g cur hg hc => put_cells hc hl ho), k3⟩, below_put k4 hw⟩
end
end Go.Proofs.Ytpokpgnclohiiaa.v6

namespace Go.Proofs.Ytpokpgnclohiiaa.v6
open Go.RowKit Go.Shelf
attribute [local go_sem] Oper.semAt_some
set_option maxRecDepth 100000

theorem int_info : (Try.prog.info? 3).map (fun i => (i.zero, i.size, i.bytes)) = some (some (.int .i64 0), 1, 8) := by kernel_rfl
theorem one_at {W : World} {b : Nat} {x : Value} {T : TypeId} (hb : W.heap[b]? = some (.cells #[x] T (0, 0))) (j : Nat) (u : Value) (hj : [x][j]? = some u) : W.cell? ((⟨b, 0, none⟩ : Addr).add j) = some u := by
  have e : (⟨b, 0, none⟩ : Addr).add j = ⟨b, j, none⟩ := by unfold Addr.add; split <;> simp_all
  rw [e]
  match j, hj with
  | 0, hj => simp at hj; subst hj; exact one_cell hb
/-- A number is appended in a round and its slice stored into the box. -/
theorem col_step {w0 Y Z : World} {bc S0 m : Nat} {Gd : Nat → Prop} {pre : List Int} {x : Int} {v : Value} {g2 cap2 q : Nat} (hq : pre.length = q) (hb : bc < S0) (hw : w0.heap.size ≤ bc) (hG : ∀ k, Gd k → k < S0 ∧ k ≠ bc) (hsz : S0 + m ≤ Y.heap.size)
    (k1 : Boxed Y bc 30 v) (k2 : Y.ownsRow w0.heap.size 3 1 v pre.length (ints pre)) (k3 : ∀ g, v.ownBlock = some g → S0 + m ≤ g) (k4 : Below w0.heap.size w0 Y) {tmp : Obj}
    (hown : Z.ownsRow w0.heap.size 3 1 (.slice (some ⟨g2, 0, none⟩) (q + 1) cap2) (q + 1) (ints pre ++ [.int .i64 x])) (hgrow : (Y.alloc tmp).grownBy Z v.ownBlock) (hat : v.ownBlock = some g2 ∨ g2 = Y.heap.size + 1) :
    Boxed Z bc 30 v ∧ ColI w0 bc (S0 + m) (pre ++ [x]) (Z.setCell ⟨bc, 0, none⟩ (.slice (some ⟨g2, 0, none⟩) (q + 1) cap2)) ∧ KpIt S0 m Gd Y (Z.setCell ⟨bc, 0, none⟩ (.slice (some ⟨g2, 0, none⟩) (q + 1) cap2)) ∧ (∀ B, KeepsFrom B Y (Z.setCell ⟨bc, 0, none⟩ (.slice (some ⟨g2, 0, none⟩) (q + 1) cap2))) := by
  subst hq
  obtain ⟨hv1, hv2, hr2, hk2, hb2⟩ := k1.appended (by decide) k2 k4.size hw hown hgrow
  refine ⟨hv1, ⟨⟨_, hv2, by rw [List.length_append, ints_snoc]; exact hr2, fun g hg => ?_⟩, k4.trans hb2⟩, ⟨hb2.size, fun k cs t fr hk hc => ?_, fun k o _ hc ho => hk2.same k o hc ho⟩, fun B => hk2.from B⟩
  · obtain rfl : g2 = g := by simpa [Value.ownBlock] using hg
    rcases hat with h | h
    · exact k3 _ h
    · omega
  · have hkl := at_lt hc
    have hlt : k < S0 + m := by rcases hk with h | h; have := hG k h; omega; omega
    have hne : k ≠ bc := by rcases hk with h | h; exact (hG k h).2; omega
    rw [Below.heap_setCell Z ⟨bc, 0, none⟩ _ k hne, hgrow.block k (by simp; omega) (fun e => by have := k3 k e.symm; omega), Below.heap_alloc _ _ _ hkl]
    exact hc
end Go.Proofs.Ytpokpgnclohiiaa.v6

namespace Go.Proofs.Ytpokpgnclohiiaa.v6
open Go.RowKit Go.Shelf
attribute [local go_sem] Oper.semAt_some
set_option maxRecDepth 100000

/-- What arrivals hands over. -/
def arF (b : Nat) : Value := .func (.func 36) #[] #[.pointer (some ⟨b + 1 + 1, 0, none⟩), .pointer (some ⟨b, 0, none⟩), .pointer (some ⟨b + 1, 0, none⟩)]
structure ArW (C n : Int) (P I : Value) (w w' : World) : Prop where
  bel : Below w.heap.size w w'
  ln : w'.heap[w.heap.size]? = some (.cells #[.int .i64 C, P] 53 (0, 0))
  ip : Boxed w' (w.heap.size + 1) 57 I
  nt : Boxed w' (w.heap.size + 1 + 1) 3 (.int .i64 n)
  size : w'.heap.size = w.heap.size + 3
theorem c_arrivalsW (C : Int) (P I : Value) (n : Int) (w : World) (hI : ∃ A m c, I = .slice A m c) :
    Calls Try.prog 26 #[.agg #[.int .i64 C, P], I, .int .i64 n] w fun e w' => e = .returned (arF w.heap.size) ∧ ArW C n P I w w' :=
  (c_arrivals C P I n w hI).mono fun e w' ⟨h1, h2⟩ => ⟨h1, by
    subst h2
    exact ⟨below_a3 _ _ _ _, old_heap _ (old_heap _ (heap_alloc_new _ _)), old_heap _ (row_new _ _ _ (by simp)), row_new _ _ _ (by simp), by simp⟩⟩
structure LvW (C s : Int) (F : Value) (w w' : World) : Prop where
  bel : Below w.heap.size w w'
  cy : Boxed w' w.heap.size 3 (.int .i64 C)
  st : Boxed w' (w.heap.size + 1) 3 (.int .i64 s)
  fn : Boxed w' (w.heap.size + 1 + 1) 88 F
  size : w'.heap.size = w.heap.size + 3
/-- What levels hands over. -/
def lvF (b : Nat) : Value := .func (.func 35) #[] #[.pointer (some ⟨b + 1, 0, none⟩), .pointer (some ⟨b + 1 + 1, 0, none⟩), .pointer (some ⟨b, 0, none⟩)]
theorem c_levelsW (C s : Int) (f : Fn) (lb : Array Value) (w : World) :
    Calls Try.prog 25 #[.int .i64 C, .int .i64 s, .func f #[] lb] w fun e w' => e = .returned (lvF w.heap.size) ∧ LvW C s (.func f #[] lb) w w' :=
  (c_levels C s f lb w).mono fun e w' ⟨h1, h2⟩ => ⟨h1, by
    subst h2
    exact ⟨below_a3 _ _ _ _, old_heap _ (old_heap _ (heap_alloc_new _ _)), old_heap _ (row_new _ _ _ (by simp)), row_new _ _ _ (by simp), by simp⟩⟩
theorem c_levelsA (C s : Int) (b : Nat) (w : World) :
    Calls Try.prog 25 #[.int .i64 C, .int .i64 s, arF b] w fun e w' => e = .returned (lvF w.heap.size) ∧ LvW C s (arF b) w w' := c_levelsW C s _ _ w
theorem amts_ok {ps : List (Int × Int × Int)} {ins : List (List Int)} (hp : ps.all ptOk = true) (hl : ps.length ≤ 16) (hi : inOk ins = true) (n : Nat) : ∀ a ∈ amts ps ins n, 0 ≤ a ∧ a ≤ 1600000000000 := by
  intro a ha
  unfold amts at ha
  obtain ⟨t, -, rfl⟩ := List.mem_map.1 ha
  have := arr_bounds hi hp (t : Int)
  omega
theorem eg_ar : ∀ args w, (callFunc 36 args).run Try.prog w = .ok (.enter 36 args) w := enters_of Try.func36 (by kernel_rfl) rfl
theorem eg_lv : ∀ args w, (callFunc 35 args).run Try.prog w = .ok (.enter 35 args) w := enters_of Try.func35 (by kernel_rfl) rfl
/-- The levels of a line, as an iterator. -/
theorem lv_seq (Mine : Nat → Prop) {C C0 s : Int} {n : Nat} {ps : List (Int × Int × Int)} {ins : List (List Int)} (hC : 0 ≤ C ∧ C ≤ 100000000) (hs : 0 ≤ s ∧ s ≤ 100000000) (hn : n ≤ 1000) (hp : ps.all ptOk = true) (hl : ps.length ≤ 16) (hi : inOk ins = true) {P I : Value}
    {w0 U wa Z : World} (hP : PtSl w0 P ps) (hI : LiSl w0 I ins) (hM : ∀ k, Mine k → w0.heap.size ≤ k ∧ k < U.heap.size) (hU : Below w0.heap.size w0 U) (ha : ArW C0 (n : Int) P I U wa) (hz : LvW C s (arF U.heap.size) wa Z) :
    SeqIt 7 Try.prog 35 #[.pointer (some ⟨wa.heap.size + 1, 0, none⟩), .pointer (some ⟨wa.heap.size + 1 + 1, 0, none⟩), .pointer (some ⟨wa.heap.size, 0, none⟩)] 3 (fun k => k < Z.heap.size ∧ ¬ Mine k) okL (lvI C 0 s (amts ps ins n)) Z := by
  have hu := hU.size
  have hza := ha.size
  have hzz := hz.size
  have nm : ∀ k, U.heap.size ≤ k → ¬ Mine k := fun k hk h => by have := (hM k h).2; omega
  refine c_levels1 7 (by omega) _ wa.heap.size (wa.heap.size + 1) (wa.heap.size + 1 + 1) C s hC hs 36 _ (amts ps ins n) (by rw [amts_len]; exact hn) (amts_ok hp hl hi n) eg_ar Z (fun k h => h.1) ⟨by omega, nm _ (by omega)⟩ ⟨by omega, nm _ (by omega)⟩ ⟨by omega, nm _ (by omega)⟩ ?_ hz.cy hz.st hz.fn
  exact c_arrivals1 6 (by omega) _ U.heap.size (U.heap.size + 1) (U.heap.size + 1 + 1) C0 ps ins n hn hp hl hi P I w0 hP hI Z (below_join (below_join hU ha.bel hu) hz.bel (by omega)) (fun k hk => ⟨by omega, fun h => by have := (hM k h).1; omega⟩) ⟨by omega, nm _ (by omega)⟩ ⟨by omega, nm _ (by omega)⟩ ⟨by omega, nm _ (by omega)⟩
    ((hz.bel.block _ (by omega)).trans ha.ln) ((hz.bel.block _ (by omega)).trans ha.ip) ((hz.bel.block _ (by omega)).trans ha.nt)
end Go.Proofs.Ytpokpgnclohiiaa.v6

namespace Go.Proofs.Ytpokpgnclohiiaa.v6
open Go.RowKit Go.Shelf
attribute [local go_sem] Oper.semAt_some
attribute [local go_sem ↓] Go.wp_at_zero Go.wp_at_succ
set_option maxRecDepth 100000

theorem lin_cells {X : World} {b : Nat} {C : Int} {P : Value} (h : X.heap[b]? = some (.cells #[.int .i64 C, P] 53 (0, 0))) : X.cell? ⟨b, 0, none⟩ = some (.int .i64 C) ∧ X.cell? ⟨b, 1, none⟩ = some P := ⟨cell_of h rfl, cell_of h rfl⟩
/-- The levels of a line. -/
def crsP (C : Int) (ps : List (Int × Int × Int)) (s : Int) (ins : List (List Int)) (n : Int) : List Int := s :: lvs C s (amts ps ins n.toNat)
set_option maxHeartbeats 8000000 in
theorem c_Course (C : Int) (ps : List (Int × Int × Int)) (s : Int) (ins : List (List Int)) (n : Int) (P I : Value) (w : World) (hP : PtSl w P ps) (hI : LiSl w I ins) (r : Int) (hr : fltL C ps s ins n = r) (cs : List Int) (hcs : cs = if r = 0 then crsP C ps s ins n else []) :
    Calls Try.prog 15 #[lnV C P, .int .i64 s, I, .int .i64 n] w fun e w' => ∃ y, e = .returned (.tuple #[y, .int .i64 r]) ∧ IntSl w' y cs ∧ Below w.heap.size w w' := by
  obtain ⟨W, hW⟩ : ∃ W, W = w.alloc (.cells #[.int .i64 C, P] 53) := ⟨_, rfl⟩
  have B0 : Below w.heap.size w W := by subst hW; exact (Below.refl _ _).alloc (Nat.le_refl _) _
  have HB := Lib.hid B0
  have HL := Lib.hid (show W.heap[w.heap.size]? = some (.cells #[.int .i64 C, P] 53 (0, 0)) by subst hW; exact heap_alloc_new _ _)
  have hz : w.heap.size < W.heap.size := by subst hW; simp
  have HC := Lib.hid (fun (r1 : Int) (h1 : fltL C ps s ins n = r1) => c_fault C ps s ins n P I W (hP.on B0 (Nat.le_refl _)) (hI.on B0 (Nat.le_refl _)) r1 h1)
  have HP := Lib.hid hP
  have HI := Lib.hid hI
  have HCS := Lib.hid hcs
  obtain ⟨A, c, rfl, -, -⟩ := hP.shape
  obtain ⟨A2, c2, rfl, -, -⟩ := hI.shape
  unfold lnV at HC
  unfold lnV
  clear B0 hP hI hcs
  by_cases h1 : r = 0
  · subst h1
    obtain ⟨g1, g2, g3, g4⟩ := flt_cases hr
    obtain ⟨g5, g6, g7⟩ := lnOk_iff.1 g1
    obtain ⟨m, rfl⟩ : ∃ m : Nat, n = (m : Int) := ⟨n.toNat, by omega⟩
    have hm1 : m ≤ 1000 := by omega
    have HR := Lib.hid hr
    have HS := Lib.hid (fun (U wa Z : World) (C0 : Int) (Mine : Nat → Prop) => lv_seq Mine (C0 := C0) (w0 := w) (U := U) (wa := wa) (Z := Z) g5 g4 (by omega : m ≤ 1000) g7 g6 g2 HP.out HI.out)
    have hcl : cs = crsP C ps s ins m := by rw [HCS.out]; rfl
    have HCL := Lib.hid hcl
    clear hr g1 g2 g3 g4 g5 g6 g7 hcl
    refine (callsIn_wide (n := 8)).1 ?_
    refine callsIn_of_wp_marks Try.func15 rfl trivial ?_ rfl
    simp only [Try.ntmps15, List.size_toArray, List.length_cons, List.length_nil, Nat.reduceAdd, Nat.reduceSub, Array.replicate_succ, Array.replicate_zero, List.push_toArray, List.append_toArray, List.nil_append, List.cons_append]
    rw [wpIn_wide]
    obtain ⟨x0, x1⟩ := lin_cells HL.out
    go_wp2_with (fail)
    rw [← hW]
    clear hW
    refine (HC.out _ HR.out).mono ?_
    rintro e w1 ⟨rfl, b1⟩
    have HB1 := Lib.hid (below_join HB.out b1 HB.out.size)
    have HL1 := Lib.hid ((b1.block _ hz).trans HL.out)
    have hz1 := Nat.lt_of_lt_of_le hz b1.size
    clear b1 x0 x1
    go_wp2_with (fail)
    obtain ⟨V, hV⟩ : ∃ V, V = w1.alloc (.cells #[.slice none 0 0] 30) := ⟨_, rfl⟩
    have HBV := Lib.hid (show Below w.heap.size w V by subst hV; exact HB1.out.alloc HB1.out.size _)
    have HLV := Lib.hid (show V.heap[w.heap.size]? = some (.cells #[.int .i64 C, .slice A ps.length c] 53 (0, 0)) by subst hV; exact old_heap _ HL1.out)
    have HXV := Lib.hid (show Boxed V w1.heap.size 30 (.slice none 0 0) by subst hV; exact Boxed.new _ _ _)
    have HZV := Lib.hid (show V.heap.size = w1.heap.size + 1 by subst hV; simp)
    have hzv : w.heap.size < V.heap.size := Nat.lt_of_lt_of_le hz1 (by rw [HZV.out]; exact Nat.le_succ _)
    rw [← hV]
    clear hV
    obtain ⟨i0, hi0, hzz0, hzz1, hzz2⟩ := info_parts int_info
    go_region_held3 (fun X => X.cell? ⟨w.heap.size, 0, none⟩ = some (.int .i64 C) ∧ X.cell? ⟨w.heap.size, 1, none⟩ = some (.slice A ps.length c))
      (first | exact lin_cells HLZ.out | exact lin_cells HLA.out | exact lin_cells (X := V.drew) HLV.out)
      (first
        | (go_at_call 26; (with_reducible refine (c_arrivalsW C (.slice A ps.length c) (.slice A2 ins.length c2) (m : Int) V.drew ⟨_, _, _, rfl⟩).mono ?_); rintro e wa ⟨rfl, hwa⟩; have HWA := Lib.hid hwa; have HLA := Lib.hid ((hwa.bel.block _ hzv).trans HLV.out); have HZA := Lib.hid hwa.size; clear hwa)
        | (go_at_call 25; (with_reducible refine (c_levelsA C s _ wa).mono ?_); rintro e wz ⟨rfl, hwz⟩; have HWZ := Lib.hid hwz; have HLZ := Lib.hid ((hwz.bel.block _ (Nat.lt_of_lt_of_le hzv HWA.out.bel.size)).trans HLA.out); clear hwz)
        | fail)
    have hza : wa.heap.size = V.heap.size + 3 := HZA.out
    have hbw := HB1.out.size
    have HSQ := Lib.hid (HS.out V.drew wa wz C (fun k => k = w1.heap.size) (fun k hk => by subst hk; exact ⟨hbw, by show w1.heap.size < V.heap.size; rw [HZV.out]; exact Nat.lt_succ_self _⟩) (HBV.out.drew) HWA.out HWZ.out)
    have HBZ := Lib.hid (below_join (below_join HBV.out.drew HWA.out.bel HBV.out.size) HWZ.out.bel (Nat.le_trans HBV.out.size HWA.out.bel.size))
    have HXZ := Lib.hid (show Boxed wz w1.heap.size 30 (.slice none 0 0) from (HWZ.out.bel.block _ (Nat.lt_of_lt_of_le HXV.out.lt HWA.out.bel.size)).trans ((HWA.out.bel.block _ HXV.out.lt).trans HXV.out))
    have hzZ : w1.heap.size < wz.heap.size := HXZ.out.lt
    clear hza HZA HZV
    unfold lvF
    go_wp2_with (fail)
    refine (wpIn_wide (n := 8)).1 ?_
    refine wpIn_it (n := 8) (by omega) (gf := 35) (lb := #[.pointer (some ⟨wa.heap.size + 1, 0, none⟩), .pointer (some ⟨wa.heap.size + 1 + 1, 0, none⟩), .pointer (some ⟨wa.heap.size, 0, none⟩)]) rfl eg_lv (m := 3) (Gd := fun k => k < wz.heap.size ∧ ¬ k = w1.heap.size) (ok := okL) (ts := lvI C 0 s (amts ps ins m)) (w0 := wz) HSQ.out (KpG.refl wz) (fun v t h => by rw [h]; rfl)
      (fun (pre : List (Nat × Int)) X => ColI w w1.heap.size (wz.heap.size + 2 + 3) (pre.map fun x : Nat × Int => x.2) X) (fun _ _ _ => False)
      (fun pre X Y h hE => h.own hE (by omega) (by omega)) (fun _ _ _ _ h _ => h.elim)
      (fun pre X l o o' h hl ho hc => h.put (by omega) ho hc) (fun _ _ _ _ _ _ h _ _ _ => h.elim)
      ⟨⟨_, HXZ.out, World.ownsRow_nil _ _ _ _, fun g hg => by cases hg⟩, HBZ.out⟩ ?round ?done (fun _ _ _ _ _ _ h _ => h.elim)
    case round =>
      intro l pre v x X K hpre hok hK
      obtain ⟨x1, x2⟩ := x
      obtain rfl : v = #[.int .i64 (x1 : Int), .int .i64 x2] := hok
      gi_wp2_with (fail)
      refine hK _ _ (Below.refl _ _) ?_
      rintro Y ⟨o, o', ho, hoc, hYe⟩ hsz ⟨⟨v, k1, k2, k3⟩, k4⟩
      have hlen : (pre.map (·.2)).length + 1 ≤ 1002 := by
        have h1 := hpre.length_le
        rw [lvI_len, amts_len] at h1
        rw [List.length_map]
        simp at h1
        omega
      have hcell := k1.cell
      have HK1 := Lib.hid k1
      have HK2 := Lib.hid k2
      have HK3 := Lib.hid k3
      have HK4 := Lib.hid k4
      have hbs := k4.size
      clear hYe ho hoc o o' hK k1 k2 k3 k4 hpre
      gi_wp2_with (gi_at_builtin; refine wpListIn_append_lies _ rfl _ _ 30 rfl w.heap.size 3 i0 (.int .i64 0) 1 8 Try.underlying30 hi0 hzz0 hzz1 hzz2 rfl (by decide) _ _ _ rfl (HK2.out.alloc _) ⟨Y.heap.size, 0, none⟩ 1 1 [.int .i64 x2] rfl rfl (one_at (heap_alloc_new _ _)) (by simp [Value.oneCell']) (by decide) (by unfold maxLen; omega) (by omega) (by simp; omega) (Y.heap.size + 1) (by simp) ?_)
      intro g2 cap2 Z hown hgrow hat
      obtain ⟨hv1, hc2, hkp, hkf⟩ := col_step (S0 := wz.heap.size + 2) (m := 3) (Gd := fun k => k < wz.heap.size ∧ ¬ k = w1.heap.size) (List.length_map _) (by omega) hbw (fun k hk => ⟨by have := hk.1; omega, hk.2⟩) hsz HK1.out HK2.out HK3.out HK4.out hown hgrow hat
      have hc1 := hv1.cell
      have hf1 := hv1.frozen
      have HC := Lib.hid hc2
      have HKP := Lib.hid hkp
      have HKF := Lib.hid hkf
      clear hv1 hc2 hkp hkf hown hgrow hat
      gi_wp2_with (fail)
      exact ⟨HKF.out _, HKP.out, by show ColI _ _ _ ((pre ++ [(x1, x2)]).map fun x : Nat × Int => x.2) _; rw [List.map_append]; exact HC.out⟩
    case done =>
      rintro D X rfl ⟨⟨v, k1, k2, k3⟩, k4⟩ hdef
      have hcell := k1.cell
      have HDEF := Lib.hid hdef
      have hlv : (lvI C 0 s (amts ps ins m)).map (·.2) = cs := by rw [HCL.out, lvI_snd]; rfl
      rw [hlv] at k2
      have HR := Lib.hid (show IntSl (X.putObj wz.heap.size (.deferred none)) v cs from own_intSl (own_row_kept k2 (fun g cur _ hc => put_cells hc hdef rfl)))
      have HB4 := Lib.hid (below_put (o' := .deferred none) k4 (by omega : w.heap.size ≤ wz.heap.size))
      clear k1 k2 k3 k4 hdef hlv
      go_wp2_with (fail)
      refine ⟨by simp, .inl ⟨_, _, rfl, run_takeDeferred HDEF.out, ?_⟩⟩
      exact ⟨.tuple #[v, .int .i64 0], by simp [results, Try.results15, go_sem], v, rfl, HR.out, HB4.out⟩
  · have hne : (r != 0) = true := by rw [bne_iff_ne]; exact h1
    have HR := Lib.hid hr
    have hce : cs = [] := by rw [HCS.out, if_neg h1]
    have HE := Lib.hid hce
    obtain ⟨x0, x1⟩ := lin_cells HL.out
    clear hr h1 hce
    go_enter Try.func15, Try.ntmps15
    go_wp2_with (fail)
    rw [← hW]
    clear hW
    go_at_call 24
    refine (HC.out _ HR.out).mono ?_
    rintro e w1 ⟨rfl, b1⟩
    have HB1 := Lib.hid (below_join HB.out b1 HB.out.size)
    clear b1 x0 x1
    go_wp2_with (fail)
    exact retTT rfl rfl rfl rfl ⟨_, rfl, by rw [HE.out]; exact IntSl.nil _, HB1.out⟩
end Go.Proofs.Ytpokpgnclohiiaa.v6

namespace Go.Proofs.Ytpokpgnclohiiaa.v6
open Go.RowKit Go.Shelf
attribute [local go_sem] Oper.semAt_some
set_option maxRecDepth 100000

/-- No level so far is above the limit. -/
structure FaI (w : World) (lim : Int) (pre : List (Nat × Int)) (X : World) : Prop where
  lm : Boxed X w.heap.size 3 (.int .i64 lim)
  rs : Boxed X (w.heap.size + 1) 3 (.int .i64 0)
  bel : Below w.heap.size w X
  low : ∀ y ∈ pre, y.2 ≤ lim
/-- A level was above it. -/
structure FaX (w : World) (r : Int) (X : World) : Prop where
  rs : Boxed X (w.heap.size + 1) 3 (.int .i64 r)
  bel : Below w.heap.size w X
section
variable {w X Y : World} {lim r : Int} {pre : List (Nat × Int)} {S m : Nat}
theorem FaI.own (h : FaI w lim pre X) (hE : OwnIt S m X Y) (hS : w.heap.size + 2 ≤ S) : FaI w lim pre Y := ⟨hE.same _ _ h.lm (.inl (by omega)), hE.same _ _ h.rs (.inl (by omega)), below_own h.bel hE (by omega), h.low⟩
theorem FaX.own (h : FaX w r X) (hE : OwnIt S m X Y) (hS : w.heap.size + 2 ≤ S) : FaX w r Y := ⟨hE.same _ _ h.rs (.inl (by omega)), below_own h.bel hE (by omega)⟩
theorem FaI.put {l : Nat} {o o' : Obj} (h : FaI w lim pre X) (hw : w.heap.size ≤ l) (hl : X.heap[l]? = some o) (ho : o.isCells = false) : FaI w lim pre (X.putObj l o') := ⟨put_cells h.lm hl ho, put_cells h.rs hl ho, below_put h.bel hw, h.low⟩
theorem FaX.put {l : Nat} {o o' : Obj} (h : FaX w r X) (hw : w.heap.size ≤ l) (hl : X.heap[l]? = some o) (ho : o.isCells = false) : FaX w r (X.putObj l o') := ⟨put_cells h.rs hl ho, below_put h.bel hw⟩
end
end Go.Proofs.Ytpokpgnclohiiaa.v6

namespace Go.Proofs.Ytpokpgnclohiiaa.v6
open Go.RowKit Go.Shelf
attribute [local go_sem] Oper.semAt_some
attribute [local go_sem ↓] Go.wp_at_zero Go.wp_at_succ
set_option maxRecDepth 100000

/-- The greatest level so far, and its tick, in their boxes. -/
structure PkI (w : World) (b : Nat) (pre : List (Nat × Int)) (X : World) : Prop where
  tk : Boxed X b 3 (.int .i64 (pkGo 0 (0, 0) (pre.map fun x : Nat × Int => x.2)).1)
  lv : Boxed X (b + 1) 3 (.int .i64 (pkGo 0 (0, 0) (pre.map fun x : Nat × Int => x.2)).2)
  bel : Below w.heap.size w X
section
variable {w X Y : World} {b : Nat} {pre : List (Nat × Int)} {S m : Nat}
theorem PkI.own (h : PkI w b pre X) (hE : OwnIt S m X Y) (hS : b + 1 < S) (hw : w.heap.size ≤ S) : PkI w b pre Y := ⟨hE.same _ _ h.tk (.inl (by omega)), hE.same _ _ h.lv (.inl (by omega)), below_own h.bel hE hw⟩
theorem PkI.put {l : Nat} {o o' : Obj} (h : PkI w b pre X) (hw : w.heap.size ≤ l) (hl : X.heap[l]? = some o) (ho : o.isCells = false) : PkI w b pre (X.putObj l o') := ⟨put_cells h.tk hl ho, put_cells h.lv hl ho, below_put h.bel hw⟩
end
end Go.Proofs.Ytpokpgnclohiiaa.v6

namespace Go.Proofs.Ytpokpgnclohiiaa.v6
open Go.RowKit
set_option maxRecDepth 100000

/-- Small loads, as a slice. -/
def U8Sl (w : World) (v : Value) (l : List Nat) : Prop :=
  ∃ A c, v = .slice A l.length c ∧ l.length ≤ c ∧ c ≤ maxLen ∧ (A = none → c = 0) ∧ (∀ x ∈ l, x ≤ 255) ∧ (0 < l.length → ∃ b o, A = some ⟨b, o, none⟩ ∧ b < w.heap.size ∧ ∀ (j : Nat) (x : Nat), l[j]? = some x → w.cell? ⟨b, o + j, none⟩ = some (.int .u8 (x : Int)))
theorem U8Sl.at_ {w : World} {v : Value} {l : List Nat} (h : U8Sl w v l) {k : Nat} {x : Nat} (hk : l[k]? = some x) : ∃ b o c, v = .slice (some ⟨b, o, none⟩) l.length c ∧ b < w.heap.size ∧ x ≤ 255 ∧ w.cell? ⟨b, o + k, none⟩ = some (.int .u8 (x : Int)) := by
  obtain ⟨A, c, h1, h2, h3, -, h5, h4⟩ := h
  have hl := (List.getElem?_eq_some_iff.1 hk).1
  obtain ⟨b, o, rfl, hlt, hc⟩ := h4 (by omega)
  exact ⟨b, o, c, h1, hlt, h5 x (List.mem_of_getElem? hk), hc k x hk⟩
theorem U8Sl.shape {w : World} {v : Value} {l : List Nat} (h : U8Sl w v l) : ∃ A c, v = .slice A l.length c ∧ l.length ≤ c ∧ c ≤ maxLen := by
  obtain ⟨A, c, h1, h2, h3, -⟩ := h
  exact ⟨A, c, h1, h2, h3⟩
theorem U8Sl.on {w w' : World} {v : Value} {l : List Nat} {B : Nat} (h : U8Sl w v l) (hb : Below B w w') (hB : w.heap.size ≤ B) : U8Sl w' v l := by
  obtain ⟨A, c, h1, h2, h3, h5, h6, h4⟩ := h
  refine ⟨A, c, h1, h2, h3, h5, h6, fun h0 => ?_⟩
  obtain ⟨b, o, e, hlt, hc⟩ := h4 h0
  exact ⟨b, o, e, Nat.lt_of_lt_of_le hlt hb.size, fun j x hj => (hb.cell (p := ⟨b, o + j, none⟩) (by show b < B; omega)).trans (hc j x hj)⟩
theorem set_field {X : World} {b i : Nat} {xs : Array Value} {T : TypeId} (h : X.heap[b]? = some (.cells xs T (0, 0))) (v : Value) : (X.setCell ⟨b, i, none⟩ v).heap[b]? = some (.cells (xs.setIfInBounds i v) T (0, 0)) := by
  simp only [World.setCell, Array.getElem?_modify, if_pos trivial, h]
  simp
end Go.Proofs.Ytpokpgnclohiiaa.v6

namespace Go.Proofs.Ytpokpgnclohiiaa.v6
open Go.RowKit
set_option maxRecDepth 100000

theorem own_set {X : World} {base : Nat} {e : TypeId} {size n g cap i : Nat} {xs : List Value} {v : Value} (h : X.ownsRow base e size (.slice (some ⟨g, 0, none⟩) n cap) n xs) (_hi : i < n * size) :
    (X.setCell ⟨g, i, none⟩ v).ownsRow base e size (.slice (some ⟨g, 0, none⟩) n cap) n (xs.set i v) := by
  obtain ⟨k1, ⟨e0, -⟩ | ⟨g', cap', cur, e0, k3, k4, k5, k6, k7, k8⟩⟩ := h
  · cases e0
  · injection e0 with e1 _ e2
    injection e1 with e1
    injection e1 with e1
    subst e1 e2
    refine ⟨by rw [List.length_set]; exact k1, .inr ⟨g, cap, cur.setIfInBounds i v, rfl, k3, set_field k4 v, k5, k6, by rw [Array.size_setIfInBounds]; exact k7, ?_⟩⟩
    rw [Array.toList_setIfInBounds, List.take_set, k8]
end Go.Proofs.Ytpokpgnclohiiaa.v6
