/-
  DERIVED. levels: an iterator that ranges over another one (stage 6).
-/
import Derived.Test.YthghinkicaafmaaAS
namespace Go.Proofs.Ythghinkicaafmaa
open Go.RowKit Go.Shelf
attribute [local go_sem] Oper.semAt_some
set_option maxRecDepth 100000

/-- The ticks with their levels. -/
def lvI (C : Int) : Nat → Int → List Int → List (Nat × Int)
  | k, s, [] => [(k, s)]
  | k, s, a :: l => (k, s) :: lvI C (k + 1) (lv1 C s a) l
theorem lvI_snoc (C : Int) (l : List Int) (a : Int) : ∀ (k : Nat) (s : Int), lvI C k s (l ++ [a]) = lvI C k s l ++ [(k + l.length + 1, lvE C s (l ++ [a]))] := by
  induction l with
  | nil => intro k s; rfl
  | cons b l ih =>
    intro k s
    show (k, s) :: lvI C (k + 1) (lv1 C s b) (l ++ [a]) = (k, s) :: (lvI C (k + 1) (lv1 C s b) l ++ _)
    rw [ih, List.length_cons, show k + 1 + l.length + 1 = k + (l.length + 1) + 1 by omega]
    rfl
theorem lvI_prefix (C : Int) (l : List Int) : ∀ (r : List Int) (k : Nat) (s : Int), lvI C k s l <+: lvI C k s (l ++ r) := by
  induction l with
  | nil =>
    intro r k s
    cases r with
    | nil => exact List.prefix_refl _
    | cons b r => exact ⟨lvI C (k + 1) (lv1 C s b) r, rfl⟩
  | cons b l ih =>
    intro r k s
    obtain ⟨t, ht⟩ := ih r (k + 1) (lv1 C s b)
    exact ⟨t, by show (k, s) :: (lvI C (k + 1) (lv1 C s b) l ++ t) = _; rw [ht]; rfl⟩
theorem lvI_pre {C : Int} {l l' : List Int} (h : l <+: l') (k : Nat) (s : Int) : lvI C k s l <+: lvI C k s l' := by
  obtain ⟨r, rfl⟩ := h
  exact lvI_prefix C l r k s
theorem lvI_snd (C : Int) (l : List Int) : ∀ (k : Nat) (s : Int), (lvI C k s l).map (·.2) = s :: lvs C s l := by
  induction l with
  | nil => intro k s; rfl
  | cons b l ih => intro k s; show s :: (lvI C (k + 1) (lv1 C s b) l).map (·.2) = _; rw [ih]; rfl
theorem lvI_len (C : Int) (l : List Int) (k : Nat) (s : Int) : (lvI C k s l).length = l.length + 1 := by
  have := congrArg List.length (lvI_snd C l k s)
  rwa [List.length_map, List.length_cons, lvs_len] at this
theorem lvI_fst (C : Int) (l : List Int) : ∀ (k : Nat) (s : Int) (i : Nat) (t : Nat × Int), (lvI C k s l)[i]? = some t → t.1 = k + i := by
  induction l with
  | nil =>
    intro k s i t h
    cases i with
    | zero => injection h with h; rw [← h]; rfl
    | succ i => cases h
  | cons b l ih =>
    intro k s i t h
    cases i with
    | zero => injection h with h; rw [← h]; rfl
    | succ i => have := ih (k + 1) (lv1 C s b) i t h; omega
/-- A tick and its level are yielded. -/
def okL (v : Array Value) (t : Nat × Int) : Prop := v = #[.int .i64 (t.1 : Int), .int .i64 t.2]
theorem c_levels (C s : Int) (f : Fn) (lb : Array Value) (w : World) :
    Calls Try.prog 34 #[.int .i64 C, .int .i64 s, .func f #[] lb] w fun e w' => e = .returned (.func (.func 48) #[] #[.pointer (some ⟨w.heap.size + 1, 0, none⟩), .pointer (some ⟨w.heap.size + 1 + 1, 0, none⟩), .pointer (some ⟨w.heap.size, 0, none⟩)]) ∧
      w' = ((w.alloc (.cells #[.int .i64 C] 3)).alloc (.cells #[.int .i64 s] 3)).alloc (.cells #[.func f #[] lb] 65) := by
  go_enter Try.func34, Try.ntmps34
  go_wp2_with (fail)
  exact bodyPost_ret (by simp [results, go_sem]) rfl ⟨rfl, rfl⟩
/-- Between two rounds over the amounts. -/
structure LvJ (Gd : Nat → Prop) (w : World) (lp S bt bl : Nat) (C s : Int) (J : List (Nat × Int) → World → Prop) (pre : List Int) (X : World) : Prop where
  yl : Boxed X S 67 (.func (.yield lp) #[] #[])
  tk : Boxed X bt 3 (.int .i64 (pre.length : Int))
  lv : Boxed X bl 3 (.int .i64 (lvE C s pre))
  kp : KpG Gd w X
  sz : S + 3 ≤ X.heap.size
  out : J (lvI C 0 s pre) X
theorem OwnIt.good {S m : Nat} {Gd : Nat → Prop} {X Y : World} (h : OwnIt S m X Y) (hm : m = 0) : KpG Gd X Y := ⟨h.size, fun k cs t fr _ hk => h.same k _ hk (by
  subst hm
  rcases Nat.lt_or_ge k S with h1 | h1
  · exact .inl h1
  · exact .inr ⟨rfl, h1⟩)⟩
section
variable {Gd : Nat → Prop} {w X Y : World} {lp S bt bl : Nat} {C s : Int} {J : List (Nat × Int) → World → Prop} {pre : List Int}
theorem LvJ.own {S2 : Nat} (h : LvJ Gd w lp S bt bl C s J pre X) (hJ : ∀ pre X Y, J pre X → OwnIt S 3 X Y → J pre Y) (hb : bt < S + 3 ∧ bl < S + 3) (h2 : S + 3 ≤ S2) (hE : OwnIt S2 0 X Y) : LvJ Gd w lp S bt bl C s J pre Y :=
  ⟨hE.same _ _ h.yl (.inl (by omega)), hE.same _ _ h.tk (.inl (by omega)), hE.same _ _ h.lv (.inl (by omega)), h.kp.trans (hE.good rfl), Nat.le_trans h.sz hE.size, hJ _ _ _ h.out (hE.outer (by omega) rfl)⟩
theorem LvJ.put {l : Nat} {o o' : Obj} (h : LvJ Gd w lp S bt bl C s J pre X) (hJ : ∀ pre X Y, J pre X → OwnIt S 3 X Y → J pre Y) (hl : S ≤ l) (ho : X.heap[l]? = some o) (hc : o.isCells = false) : LvJ Gd w lp S bt bl C s J pre (X.putObj l o') :=
  ⟨put_cells h.yl ho hc, put_cells h.tk ho hc, put_cells h.lv ho hc, h.kp.trans (KpG.put o' ho hc), by rw [World.putObj_size]; exact h.sz, hJ _ _ _ h.out (OwnIt.put o' hl ho hc)⟩
theorem kg_store {b o : Nat} (v : Value) (hb : ∀ k, Gd k → k ≠ b) : KpG Gd X (X.setCell ⟨b, o, none⟩ v) :=
  ⟨by simp [World.setCell], fun k cs t fr g hk => by rw [Below.heap_setCell _ ⟨b, o, none⟩ v k (hb k g)]; exact hk⟩
theorem ki_store {S m b o : Nat} (v : Value) (hb : ∀ k, Gd k → k ≠ b) (hm : m = 0) {cs : Array Value} {t : TypeId} {fr : Nat × Nat} (hc : X.heap[b]? = some (.cells cs t fr)) : KpIt S m Gd X (X.setCell ⟨b, o, none⟩ v) :=
  ⟨by simp [World.setCell], fun k cs t fr g hk => by
    subst hm
    rcases g with g | g
    · rw [Below.heap_setCell _ ⟨b, o, none⟩ v k (hb k g)]; exact hk
    · omega, fun k u _ hk hu => by
    have hne : k ≠ b := fun e => by subst e; rw [hc] at hk; cases hk; cases hu
    rw [Below.heap_setCell _ ⟨b, o, none⟩ v k hne]; exact hk⟩
theorem KpIt.inner {S S' m : Nat} (h : KpIt S m Gd X Y) (hS : S ≤ S') : KpIt S' 0 Gd X Y := ⟨h.size, fun k cs t fr g hk => by
  rcases g with g | g
  · exact h.cells k cs t fr (.inl g) hk
  · omega, fun k o hk ho hc => h.others k o (by omega) ho hc⟩
end
section
variable {Gd : Nat → Prop} {Y : World} {bt bl : Nat} {x y : Value}
theorem s2_own {S : Nat} (h1 : S ≤ bt) (h2 : bt < S + 3) (h3 : S ≤ bl) (h4 : bl < S + 3) : OwnIt S 3 Y ((Y.setCell ⟨bt, 0, none⟩ x).setCell ⟨bl, 0, none⟩ y).drew := by
  have h := (OwnIt.store (X := Y) (m := 3) h1 h2 x 0).trans (OwnIt.store h3 h4 y 0)
  exact ⟨h.os, h.tape, h.output, h.size, h.same⟩
theorem s2_kg (h1 : ∀ k, Gd k → k ≠ bt) (h2 : ∀ k, Gd k → k ≠ bl) : KpG Gd Y ((Y.setCell ⟨bt, 0, none⟩ x).setCell ⟨bl, 0, none⟩ y).drew := by
  have h := (kg_store (X := Y) (o := 0) x h1).trans (kg_store (o := 0) y h2)
  exact ⟨h.size, h.same⟩
theorem s2_ki {S : Nat} {T1 T2 : TypeId} {u v : Value} (h1 : ∀ k, Gd k → k ≠ bt) (h2 : ∀ k, Gd k → k ≠ bl) (i2 : Boxed Y bt T1 u) (i3 : Boxed Y bl T2 v) (hne : bl ≠ bt) : KpIt S 0 Gd Y ((Y.setCell ⟨bt, 0, none⟩ x).setCell ⟨bl, 0, none⟩ y).drew := by
  have h := (ki_store (X := Y) (S := S) (o := 0) x h1 rfl i2).trans (ki_store (o := 0) y h2 rfl (Boxed.other i3 hne x))
  exact ⟨h.size, h.cells, h.others⟩
theorem s2_kf {B : Nat} {T1 T2 : TypeId} {u v : Value} (i2 : Boxed Y bt T1 u) (i3 : Boxed Y bl T2 v) (hne : bl ≠ bt) : KeepsFrom B Y ((Y.setCell ⟨bt, 0, none⟩ x).setCell ⟨bl, 0, none⟩ y).drew := by
  have h := (kf_store (X := Y) (B := B) (o := 0) x i2).trans (kf_store (B := B) (o := 0) y (Boxed.other i3 hne x))
  exact ⟨h.size, h.same⟩
end
set_option maxHeartbeats 4000000 in
theorem c_levels1 (d : Nat) (hd : 3 ≤ d) (Gd : Nat → Prop) (bC bs bF : Nat) (C s : Int) (hC : 0 ≤ C ∧ C ≤ 100000000) (hs : 0 ≤ s ∧ s ≤ 100000000) (gf : Nat) (lb : Array Value) (am : List Int) (hn : am.length ≤ 1000) (has : ∀ a ∈ am, 0 ≤ a ∧ a ≤ 1600000000000)
    (eg : ∀ args w, (callFunc gf args).run Try.prog w = .ok (.enter gf args) w) (w : World) (hGd : ∀ k, Gd k → k < w.heap.size) (gC : Gd bC) (gs : Gd bs) (gF : Gd bF)
    (hseq : SeqIt (d - 1) Try.prog gf lb 0 Gd okI am w)
    (h1 : Boxed w bC 3 (.int .i64 C)) (h2 : Boxed w bs 3 (.int .i64 s)) (h3 : Boxed w bF 65 (.func (.func gf) #[] lb)) :
    SeqIt d Try.prog 48 #[.pointer (some ⟨bs, 0, none⟩), .pointer (some ⟨bF, 0, none⟩), .pointer (some ⟨bC, 0, none⟩)] 3 Gd okL (lvI C 0 s am) w := by
  intro lp J Jx W hKW hlp hJE hJxE hY h0
  have x1 : W.cell? ⟨bs, 0, none⟩ = some (.int .i64 s) := (show Boxed W bs 3 (.int .i64 s) from hKW.same _ _ _ _ gs h2).cell
  have hd1 : 1 ≤ d := by omega
  have hd2 : 1 ≤ d - 1 - 1 := by omega
  have hfm : Try.prog.follows Departure.mixedOrders = true := by kernel_rfl
  refine callsIn_of_wp_marks Try.func48 rfl trivial ?_ rfl
  simp only [Try.ntmps48, List.size_toArray, List.length_cons, List.length_nil, Nat.reduceAdd, Nat.reduceSub, Array.replicate_succ, Array.replicate_zero, List.push_toArray, List.append_toArray, List.nil_append, List.cons_append]
  gi_wp2_with (fail)
  obtain ⟨V, hV⟩ : ∃ V, V = W.alloc (.cells #[.func (.yield lp) #[] #[]] 67) := ⟨_, rfl⟩
  have hzV : V.heap.size = W.heap.size + 1 := by subst hV; simp
  have x2 : V.cell? ⟨bs, 0, none⟩ = some (.int .i64 s) := by subst hV; exact (Boxed.alloc (show Boxed W bs 3 (.int .i64 s) from hKW.same _ _ _ _ gs h2) _).cell
  have x3 : ∀ o, (V.alloc o).cell? ⟨bs, 0, none⟩ = some (.int .i64 s) := fun o => by subst hV; exact (Boxed.alloc (Boxed.alloc (show Boxed W bs 3 (.int .i64 s) from hKW.same _ _ _ _ gs h2) _) _).cell
  have x4 : ∀ o o', ((V.alloc o).alloc o').cell? ⟨bs, 0, none⟩ = some (.int .i64 s) := fun o o' => by subst hV; exact (Boxed.alloc (Boxed.alloc (Boxed.alloc (show Boxed W bs 3 (.int .i64 s) from hKW.same _ _ _ _ gs h2) _) _) _).cell
  have HYL := Lib.hid (show Boxed V W.heap.size 67 (.func (.yield lp) #[] #[]) by subst hV; exact Boxed.new _ _ _)
  have HBV := Lib.hid (show Below W.heap.size W V by subst hV; exact (Below.refl _ _).alloc (Nat.le_refl _) _)
  rw [← hV]
  clear x1 hV
  gi_region_o
  · obtain ⟨bl, hbl⟩ : ∃ x, x = W.heap.size + 1 + 1 := ⟨_, rfl⟩
    rw [← hbl]
    obtain ⟨bt, hbt⟩ : ∃ x, x = W.heap.size + 1 := ⟨_, rfl⟩
    rw [← hbt]
    have HB1 := Lib.hid (show Below W.heap.size W ((V.alloc (.cells #[.int .i64 0] 3)).alloc (.cells #[.int .i64 s] 3)).drew from ((HBV.out.alloc (by omega) _).alloc (by simp; omega) _).drew)
    have HT1 := Lib.hid (show Boxed ((V.alloc (.cells #[.int .i64 0] 3)).alloc (.cells #[.int .i64 s] 3)).drew bt 3 (.int .i64 0) from Boxed.alloc (row_new _ _ _ (by omega)) _)
    have HL1 := Lib.hid (show Boxed ((V.alloc (.cells #[.int .i64 0] 3)).alloc (.cells #[.int .i64 s] 3)).drew bl 3 (.int .i64 s) from row_new _ _ _ (by simp; omega))
    have HYL1 := Lib.hid (show Boxed ((V.alloc (.cells #[.int .i64 0] 3)).alloc (.cells #[.int .i64 s] 3)).drew W.heap.size 67 (.func (.yield lp) #[] #[]) from Boxed.alloc (Boxed.alloc HYL.out _) _)
    have hz1 : ((V.alloc (.cells #[.int .i64 0] 3)).alloc (.cells #[.int .i64 s] 3)).drew.heap.size = W.heap.size + 3 := by show ((V.alloc _).alloc _).heap.size = _; simp; omega
    generalize ((V.alloc (.cells #[.int .i64 0] 3)).alloc (.cells #[.int .i64 s] 3)).drew = W1 at HB1 HT1 HL1 HYL1 hz1 ⊢
    have hne : bt ≠ bl := by omega
    have hbb : bt < W.heap.size + 3 ∧ bl < W.heap.size + 3 ∧ W.heap.size < bt ∧ W.heap.size < bl := by omega
    clear hbt hbl x2 x3 x4 hzV HBV HYL
    have HJ1 := Lib.hid (hJE _ _ _ h0 (OwnIt.of_below HB1.out (Nat.le_refl _)))
    have HK1 := Lib.hid (hKW.trans (KpG.of_below (Gd := Gd) HB1.out (Nat.le_refl _)))
    have y0 := HYL1.out.cell
    have y1 := HT1.out.cell
    have y2 := HL1.out.cell
    have hpr0 : [(0, s)] <+: lvI C 0 s am := lvI_prefix C [] am 0 s
    obtain ⟨fn, tmps, assign, body, hy, hR⟩ := hY [] #[.int .i64 0, .int .i64 s] (0, s) W1 HJ1.out (by omega) rfl hpr0
    gi_wp2_with (fail)
    refine hR.mono ?_
    rintro e W2 (⟨rfl, hJ2, hk2⟩ | ⟨rfl, hJx2, -⟩)
    rotate_left
    · have Hx := Lib.hid hJx2
      clear hJx2 hy hY
      gi_wp2_with (fail)
      exact ⟨_, results_none rfl _ _ _, ⟨_, rfl⟩, .inr ⟨_, hpr0, Hx.out⟩⟩
    have HJ2 := Lib.hid hJ2
    have HK2 := Lib.hid (HK1.out.trans hk2.good)
    have HT2 := Lib.hid (show Boxed W2 bt 3 (.int .i64 0) from hk2.cells _ _ _ _ (.inr (by omega)) HT1.out)
    have HL2 := Lib.hid (show Boxed W2 bl 3 (.int .i64 s) from hk2.cells _ _ _ _ (.inr (by omega)) HL1.out)
    have HYL2 := Lib.hid (show Boxed W2 W.heap.size 67 (.func (.yield lp) #[] #[]) from hk2.cells _ _ _ _ (.inr (by omega)) HYL1.out)
    have hz2 : W.heap.size + 3 ≤ W2.heap.size := by have := hk2.size; omega
    have z3 := (show Boxed W2 bF 65 (.func (.func gf) #[] lb) from HK2.out.same _ _ _ _ gF h3).cell
    have HY := Lib.hid hY
    have HSQ := Lib.hid hseq
    have HC1 := Lib.hid h1
    have HA := Lib.hid has
    clear hJ2 hk2 hy y0 y1 y2 HJ1 HK1 HB1 HT1 HL1 HYL1 hY hseq h1 h2 h3 has
    have hkz := hKW.size
    gi_wp2_with (fail)
    refine wpIn_it (n := d) (by omega) (gf := gf) (lb := lb) rfl eg (Gd := Gd) (ok := okI) (ts := am) (w0 := w) HSQ.out HK2.out (fun v t h => by rw [h]; rfl)
      (LvJ Gd w lp W.heap.size bt bl C s J) (fun c pre X => c = .ret ∧ Jx (lvI C 0 s pre) X)
      (fun pre X Y h hE => h.own hJE ⟨hbb.1, hbb.2.1⟩ (by omega) hE) (fun c pre X Y h hE => ⟨h.1, hJxE _ _ _ h.2 (hE.outer (by omega) rfl)⟩)
      (fun pre X l o o' h hl ho hc => h.put hJE (by omega) ho hc) (fun c pre X l o o' h hl ho hc => ⟨h.1, hJxE _ _ _ h.2 (OwnIt.put o' (by omega) ho hc)⟩)
      ⟨HYL2.out, HT2.out, HL2.out, HK2.out, hz2, HJ2.out⟩ ?round ?done ?stop
    case round =>
      intro l pre v a X K hpre hok hK
      obtain rfl : v = #[.int .i64 a] := hok
      gi_wp2_with (fail)
      refine hK _ _ (Below.refl _ _) ?_
      rintro Y ⟨o, o', ho, hoc, hYe⟩ hsz ⟨i1, i2, i3, i4, i5, i6⟩
      have HAM := Lib.hid (HA.out a (hpre.subset (by simp)))
      have hlen : pre.length + 1 ≤ am.length := by have := hpre.length_le; simpa using this
      have HLB := Lib.hid (lvE_bound hC.1 pre s hs.1 (fun x hx => HA.out x (hpre.subset (by simp [hx]))))
      have HLN := Lib.hid (lvE_nonneg hs.1 pre (C := C))
      have HS := Lib.hid (lvE_snoc C s pre a)
      have HPR := Lib.hid hpre
      have c1 := (show Boxed Y bC 3 (.int .i64 C) from i4.same _ _ _ _ gC HC1.out).cell
      have c2 := i1.cell
      have c3 := i2.cell
      have c4 := i3.cell
      have f3 := i2.frozen
      have f4 := i3.frozen
      have n1 : bC ≠ bt := by have := hGd bC gC; omega
      have n2 : bC ≠ bl := by have := hGd bC gC; omega
      have n3 : ∀ k, Gd k → k ≠ bt := fun k g => by have := hGd k g; omega
      have n4 : ∀ k, Gd k → k ≠ bl := fun k g => by have := hGd k g; omega
      obtain ⟨z, hz⟩ : ∃ z, z = lvE C s pre := ⟨_, rfl⟩
      have hzb : 0 ≤ z ∧ z ≤ 1700000000000000 := by have h1 := HLB.out; have h2 := HLN.out; rw [← hz] at h1 h2; omega
      rw [← hz] at c4 i3
      rw [← hz] at HS
      have ha := HAM.out
      have HI := Lib.hid (And.intro i1 (And.intro i2 (And.intro i3 (And.intro i4 i6))))
      have hnn := Ne.symm hne
      have N3 := Lib.hid n3
      have N4 := Lib.hid n4
      have HJE := Lib.hid hJE
      have HJX := Lib.hid hJxE
      have HEG := Lib.hid eg
      clear n3 n4 hGd hJE hJxE eg
      clear hz HLB HLN HAM i1 i2 i3 i4 i6 hpre hYe ho hoc o o' hK
      obtain ⟨mx, hmx⟩ : ∃ mx, max 0 (z + a - C) = mx := ⟨_, rfl⟩
      have HN := Lib.hid (show lvE C s (pre ++ [a]) = mx by rw [HS.out, ← hmx]; rfl)
      gi_wp2_with (fail)
      refine rg_levels _ _ _ _ _ _ _ _ _ _ _ _ _ _ _ _ _ _ _ _ _ _ _ _ _ _ _ _ bC bt bl a (pre.length : Int) z C mx hmx (by omega) hzb ha hC n1 n2 hne hnn Y c1 c3 c4 f3 f4 ?_
      obtain ⟨i1, i2, i3, i4, i6⟩ := HI.out
      have HZT := Lib.hid (show Boxed ((Y.setCell ⟨bt, 0, none⟩ (.int .i64 (pre.length + 1))).setCell ⟨bl, 0, none⟩ (.int .i64 mx)).drew bt 3 (.int .i64 ((pre ++ [a]).length : Nat)) by rw [List.length_append]; exact (Boxed.set _ i2).other hne _)
      have HZL := Lib.hid (show Boxed ((Y.setCell ⟨bt, 0, none⟩ (.int .i64 (pre.length + 1))).setCell ⟨bl, 0, none⟩ (.int .i64 mx)).drew bl 3 (.int .i64 mx) from Boxed.set _ (Boxed.other i3 hnn _))
      have HZY := Lib.hid (show Boxed ((Y.setCell ⟨bt, 0, none⟩ (.int .i64 (pre.length + 1))).setCell ⟨bl, 0, none⟩ (.int .i64 mx)).drew W.heap.size 67 (.func (.yield lp) #[] #[]) from (i1.other (by omega) _).other (by omega) _)
      have HOW := Lib.hid (show OwnIt W.heap.size 3 Y ((Y.setCell ⟨bt, 0, none⟩ (.int .i64 (pre.length + 1))).setCell ⟨bl, 0, none⟩ (.int .i64 mx)).drew from s2_own (by omega) (by omega) (by omega) (by omega))
      have HKG := Lib.hid (show KpG Gd Y ((Y.setCell ⟨bt, 0, none⟩ (.int .i64 (pre.length + 1))).setCell ⟨bl, 0, none⟩ (.int .i64 mx)).drew from s2_kg N3.out N4.out)
      have HKI := Lib.hid (show KpIt (W2.heap.size + 2) 0 Gd Y ((Y.setCell ⟨bt, 0, none⟩ (.int .i64 (pre.length + 1))).setCell ⟨bl, 0, none⟩ (.int .i64 mx)).drew from s2_ki N3.out N4.out i2 i3 hnn)
      have HKF := Lib.hid (show KeepsFrom W2.heap.size Y ((Y.setCell ⟨bt, 0, none⟩ (.int .i64 (pre.length + 1))).setCell ⟨bl, 0, none⟩ (.int .i64 mx)).drew from s2_kf i2 i3 hnn)
      generalize ((Y.setCell ⟨bt, 0, none⟩ (.int .i64 (pre.length + 1))).setCell ⟨bl, 0, none⟩ (.int .i64 mx)).drew = Z at HZT HZL HZY HOW HKG HKI HKF ⊢
      have HJZ := Lib.hid (HJE.out _ _ _ i6 HOW.out)
      have HKZ := Lib.hid (i4.trans HKG.out)
      have hzZ : W2.heap.size + 2 ≤ Z.heap.size := Nat.le_trans hsz HKG.out.size
      clear c1 c2 c3 c4 f3 f4 i1 i2 i3 i4 i6
      have y0 := HZY.out.cell
      have y1 : Z.cell? ⟨bt, 0, none⟩ = some (.int .i64 ((pre.length : Int) + 1)) := by have := HZT.out.cell; rw [List.length_append] at this; exact this
      have y2 := HZL.out.cell
      have HPP := Lib.hid (show lvI C 0 s pre ++ [(pre.length + 1, mx)] = lvI C 0 s (pre ++ [a]) by rw [lvI_snoc, HN.out, Nat.zero_add])
      have HPQ := Lib.hid (show lvI C 0 s (pre ++ [a]) <+: lvI C 0 s am from lvI_pre HPR.out 0 s)
      obtain ⟨fn2, tmps2, assign2, body2, hy2, hR2⟩ := HY.out (lvI C 0 s pre) #[.int .i64 ((pre.length : Int) + 1), .int .i64 mx] (pre.length + 1, mx) Z HJZ.out (by omega) rfl (by rw [HPP.out]; exact HPQ.out)
      gi_wp2_with (fail)
      refine (show RoundIn (Fence.wide.inRound l) (d - 1 - 1 - 1) Try.prog lp fn2 tmps2 assign2 body2 Z _ from ⟨trivial, fun c cs _ => hR2.2 c cs (room_wide _)⟩ : RoundIn (Fence.wide.inRound l) (d - 1 - 1 - 1) Try.prog lp fn2 tmps2 assign2 body2 Z _).mono ?_
      rintro e W3 (⟨rfl, hJ3, hk3⟩ | ⟨rfl, hJx3, hk3⟩)
      · rw [HPP.out] at hJ3
        have HJ3 := Lib.hid hJ3
        have HF := Lib.hid (HKF.out.trans (kf_up hk3.from (by omega)))
        have HQ := Lib.hid (HKI.out.trans (hk3.inner (by omega)))
        have HE := Lib.hid (show LvJ Gd w lp W.heap.size bt bl C s J (pre ++ [a]) W3 from ⟨hk3.cells _ _ _ _ (.inr (by omega)) HZY.out, hk3.cells _ _ _ _ (.inr (by omega)) HZT.out, by rw [HN.out]; exact hk3.cells _ _ _ _ (.inr (by omega)) HZL.out, HKZ.out.trans hk3.good, by have := hk3.size; omega, hJ3⟩)
        clear hJ3 hk3 hy2 y0 y1 y2
        gi_wp2_with (fail)
        exact ⟨HF.out, HQ.out, HE.out⟩
      · rw [HPP.out] at hJx3
        have Hx := Lib.hid hJx3
        have HF := Lib.hid (HKF.out.trans (kf_up hk3 (by omega)))
        clear hJx3 hk3 hy2 y0 y1 y2
        gi_wp2_with (fail)
        exact ⟨HF.out, rfl, Hx.out⟩
    case done =>
      rintro D X rfl hI hdef
      have HDEF := Lib.hid hdef
      have Hx := Lib.hid (hJE _ _ _ hI.out (OwnIt.put (.deferred none) (by omega) hdef rfl))
      clear hI hdef
      gi_wp2_with (fail)
      refine ⟨by simp, .inl ⟨_, _, rfl, run_takeDeferred HDEF.out, ?_⟩⟩
      exact ⟨_, results_none rfl _ _ _, ⟨_, rfl⟩, .inl Hx.out⟩
    case stop =>
      rintro D c pre X rfl hpre ⟨rfl, hx⟩ hdef
      have HDEF := Lib.hid hdef
      have Hx := Lib.hid (hJxE _ _ _ hx (OwnIt.put (.deferred none) (by omega) hdef rfl))
      clear hx hdef
      gi_wp2_with (fail)
      refine ⟨by simp, .inl ⟨_, _, rfl, run_takeDeferred HDEF.out, ?_⟩⟩
      exact ⟨_, results_none rfl _ _ _, ⟨_, rfl⟩, .inr ⟨_, lvI_pre hpre 0 s, Hx.out⟩⟩
  · obtain ⟨bt, hbt⟩ : ∃ x, x = W.heap.size + 1 + 1 := ⟨_, rfl⟩
    rw [← hbt]
    obtain ⟨bl, hbl⟩ : ∃ x, x = W.heap.size + 1 := ⟨_, rfl⟩
    rw [← hbl]
    have HB1 := Lib.hid (show Below W.heap.size W ((V.alloc (.cells #[.int .i64 s] 3)).alloc (.cells #[.int .i64 0] 3)).drew from ((HBV.out.alloc (by omega) _).alloc (by simp; omega) _).drew)
    have HT1 := Lib.hid (show Boxed ((V.alloc (.cells #[.int .i64 s] 3)).alloc (.cells #[.int .i64 0] 3)).drew bt 3 (.int .i64 0) from row_new _ _ _ (by simp; omega))
    have HL1 := Lib.hid (show Boxed ((V.alloc (.cells #[.int .i64 s] 3)).alloc (.cells #[.int .i64 0] 3)).drew bl 3 (.int .i64 s) from Boxed.alloc (row_new _ _ _ (by omega)) _)
    have HYL1 := Lib.hid (show Boxed ((V.alloc (.cells #[.int .i64 s] 3)).alloc (.cells #[.int .i64 0] 3)).drew W.heap.size 67 (.func (.yield lp) #[] #[]) from Boxed.alloc (Boxed.alloc HYL.out _) _)
    have hz1 : ((V.alloc (.cells #[.int .i64 s] 3)).alloc (.cells #[.int .i64 0] 3)).drew.heap.size = W.heap.size + 3 := by show ((V.alloc _).alloc _).heap.size = _; simp; omega
    generalize ((V.alloc (.cells #[.int .i64 s] 3)).alloc (.cells #[.int .i64 0] 3)).drew = W1 at HB1 HT1 HL1 HYL1 hz1 ⊢
    have hne : bt ≠ bl := by omega
    have hbb : bt < W.heap.size + 3 ∧ bl < W.heap.size + 3 ∧ W.heap.size < bt ∧ W.heap.size < bl := by omega
    clear hbt hbl x2 x3 x4 hzV HBV HYL
    have HJ1 := Lib.hid (hJE _ _ _ h0 (OwnIt.of_below HB1.out (Nat.le_refl _)))
    have HK1 := Lib.hid (hKW.trans (KpG.of_below (Gd := Gd) HB1.out (Nat.le_refl _)))
    have y0 := HYL1.out.cell
    have y1 := HT1.out.cell
    have y2 := HL1.out.cell
    have hpr0 : [(0, s)] <+: lvI C 0 s am := lvI_prefix C [] am 0 s
    obtain ⟨fn, tmps, assign, body, hy, hR⟩ := hY [] #[.int .i64 0, .int .i64 s] (0, s) W1 HJ1.out (by omega) rfl hpr0
    gi_wp2_with (fail)
    refine hR.mono ?_
    rintro e W2 (⟨rfl, hJ2, hk2⟩ | ⟨rfl, hJx2, -⟩)
    rotate_left
    · have Hx := Lib.hid hJx2
      clear hJx2 hy hY
      gi_wp2_with (fail)
      exact ⟨_, results_none rfl _ _ _, ⟨_, rfl⟩, .inr ⟨_, hpr0, Hx.out⟩⟩
    have HJ2 := Lib.hid hJ2
    have HK2 := Lib.hid (HK1.out.trans hk2.good)
    have HT2 := Lib.hid (show Boxed W2 bt 3 (.int .i64 0) from hk2.cells _ _ _ _ (.inr (by omega)) HT1.out)
    have HL2 := Lib.hid (show Boxed W2 bl 3 (.int .i64 s) from hk2.cells _ _ _ _ (.inr (by omega)) HL1.out)
    have HYL2 := Lib.hid (show Boxed W2 W.heap.size 67 (.func (.yield lp) #[] #[]) from hk2.cells _ _ _ _ (.inr (by omega)) HYL1.out)
    have hz2 : W.heap.size + 3 ≤ W2.heap.size := by have := hk2.size; omega
    have z3 := (show Boxed W2 bF 65 (.func (.func gf) #[] lb) from HK2.out.same _ _ _ _ gF h3).cell
    have HY := Lib.hid hY
    have HSQ := Lib.hid hseq
    have HC1 := Lib.hid h1
    have HA := Lib.hid has
    clear hJ2 hk2 hy y0 y1 y2 HJ1 HK1 HB1 HT1 HL1 HYL1 hY hseq h1 h2 h3 has
    have hkz := hKW.size
    gi_wp2_with (fail)
    refine wpIn_it (n := d) (by omega) (gf := gf) (lb := lb) rfl eg (Gd := Gd) (ok := okI) (ts := am) (w0 := w) HSQ.out HK2.out (fun v t h => by rw [h]; rfl)
      (LvJ Gd w lp W.heap.size bt bl C s J) (fun c pre X => c = .ret ∧ Jx (lvI C 0 s pre) X)
      (fun pre X Y h hE => h.own hJE ⟨hbb.1, hbb.2.1⟩ (by omega) hE) (fun c pre X Y h hE => ⟨h.1, hJxE _ _ _ h.2 (hE.outer (by omega) rfl)⟩)
      (fun pre X l o o' h hl ho hc => h.put hJE (by omega) ho hc) (fun c pre X l o o' h hl ho hc => ⟨h.1, hJxE _ _ _ h.2 (OwnIt.put o' (by omega) ho hc)⟩)
      ⟨HYL2.out, HT2.out, HL2.out, HK2.out, hz2, HJ2.out⟩ ?round ?done ?stop
    case round =>
      intro l pre v a X K hpre hok hK
      obtain rfl : v = #[.int .i64 a] := hok
      gi_wp2_with (fail)
      refine hK _ _ (Below.refl _ _) ?_
      rintro Y ⟨o, o', ho, hoc, hYe⟩ hsz ⟨i1, i2, i3, i4, i5, i6⟩
      have HAM := Lib.hid (HA.out a (hpre.subset (by simp)))
      have hlen : pre.length + 1 ≤ am.length := by have := hpre.length_le; simpa using this
      have HLB := Lib.hid (lvE_bound hC.1 pre s hs.1 (fun x hx => HA.out x (hpre.subset (by simp [hx]))))
      have HLN := Lib.hid (lvE_nonneg hs.1 pre (C := C))
      have HS := Lib.hid (lvE_snoc C s pre a)
      have HPR := Lib.hid hpre
      have c1 := (show Boxed Y bC 3 (.int .i64 C) from i4.same _ _ _ _ gC HC1.out).cell
      have c2 := i1.cell
      have c3 := i2.cell
      have c4 := i3.cell
      have f3 := i2.frozen
      have f4 := i3.frozen
      have n1 : bC ≠ bt := by have := hGd bC gC; omega
      have n2 : bC ≠ bl := by have := hGd bC gC; omega
      have n3 : ∀ k, Gd k → k ≠ bt := fun k g => by have := hGd k g; omega
      have n4 : ∀ k, Gd k → k ≠ bl := fun k g => by have := hGd k g; omega
      obtain ⟨z, hz⟩ : ∃ z, z = lvE C s pre := ⟨_, rfl⟩
      have hzb : 0 ≤ z ∧ z ≤ 1700000000000000 := by have h1 := HLB.out; have h2 := HLN.out; rw [← hz] at h1 h2; omega
      rw [← hz] at c4 i3
      rw [← hz] at HS
      have ha := HAM.out
      have HI := Lib.hid (And.intro i1 (And.intro i2 (And.intro i3 (And.intro i4 i6))))
      have hnn := Ne.symm hne
      have N3 := Lib.hid n3
      have N4 := Lib.hid n4
      have HJE := Lib.hid hJE
      have HJX := Lib.hid hJxE
      have HEG := Lib.hid eg
      clear n3 n4 hGd hJE hJxE eg
      clear hz HLB HLN HAM i1 i2 i3 i4 i6 hpre hYe ho hoc o o' hK
      obtain ⟨mx, hmx⟩ : ∃ mx, max 0 (z + a - C) = mx := ⟨_, rfl⟩
      have HN := Lib.hid (show lvE C s (pre ++ [a]) = mx by rw [HS.out, ← hmx]; rfl)
      gi_wp2_with (fail)
      refine rg_levels _ _ _ _ _ _ _ _ _ _ _ _ _ _ _ _ _ _ _ _ _ _ _ _ _ _ _ _ bC bt bl a (pre.length : Int) z C mx hmx (by omega) hzb ha hC n1 n2 hne hnn Y c1 c3 c4 f3 f4 ?_
      obtain ⟨i1, i2, i3, i4, i6⟩ := HI.out
      have HZT := Lib.hid (show Boxed ((Y.setCell ⟨bt, 0, none⟩ (.int .i64 (pre.length + 1))).setCell ⟨bl, 0, none⟩ (.int .i64 mx)).drew bt 3 (.int .i64 ((pre ++ [a]).length : Nat)) by rw [List.length_append]; exact (Boxed.set _ i2).other hne _)
      have HZL := Lib.hid (show Boxed ((Y.setCell ⟨bt, 0, none⟩ (.int .i64 (pre.length + 1))).setCell ⟨bl, 0, none⟩ (.int .i64 mx)).drew bl 3 (.int .i64 mx) from Boxed.set _ (Boxed.other i3 hnn _))
      have HZY := Lib.hid (show Boxed ((Y.setCell ⟨bt, 0, none⟩ (.int .i64 (pre.length + 1))).setCell ⟨bl, 0, none⟩ (.int .i64 mx)).drew W.heap.size 67 (.func (.yield lp) #[] #[]) from (i1.other (by omega) _).other (by omega) _)
      have HOW := Lib.hid (show OwnIt W.heap.size 3 Y ((Y.setCell ⟨bt, 0, none⟩ (.int .i64 (pre.length + 1))).setCell ⟨bl, 0, none⟩ (.int .i64 mx)).drew from s2_own (by omega) (by omega) (by omega) (by omega))
      have HKG := Lib.hid (show KpG Gd Y ((Y.setCell ⟨bt, 0, none⟩ (.int .i64 (pre.length + 1))).setCell ⟨bl, 0, none⟩ (.int .i64 mx)).drew from s2_kg N3.out N4.out)
      have HKI := Lib.hid (show KpIt (W2.heap.size + 2) 0 Gd Y ((Y.setCell ⟨bt, 0, none⟩ (.int .i64 (pre.length + 1))).setCell ⟨bl, 0, none⟩ (.int .i64 mx)).drew from s2_ki N3.out N4.out i2 i3 hnn)
      have HKF := Lib.hid (show KeepsFrom W2.heap.size Y ((Y.setCell ⟨bt, 0, none⟩ (.int .i64 (pre.length + 1))).setCell ⟨bl, 0, none⟩ (.int .i64 mx)).drew from s2_kf i2 i3 hnn)
      generalize ((Y.setCell ⟨bt, 0, none⟩ (.int .i64 (pre.length + 1))).setCell ⟨bl, 0, none⟩ (.int .i64 mx)).drew = Z at HZT HZL HZY HOW HKG HKI HKF ⊢
      have HJZ := Lib.hid (HJE.out _ _ _ i6 HOW.out)
      have HKZ := Lib.hid (i4.trans HKG.out)
      have hzZ : W2.heap.size + 2 ≤ Z.heap.size := Nat.le_trans hsz HKG.out.size
      clear c1 c2 c3 c4 f3 f4 i1 i2 i3 i4 i6
      have y0 := HZY.out.cell
      have y1 : Z.cell? ⟨bt, 0, none⟩ = some (.int .i64 ((pre.length : Int) + 1)) := by have := HZT.out.cell; rw [List.length_append] at this; exact this
      have y2 := HZL.out.cell
      have HPP := Lib.hid (show lvI C 0 s pre ++ [(pre.length + 1, mx)] = lvI C 0 s (pre ++ [a]) by rw [lvI_snoc, HN.out, Nat.zero_add])
      have HPQ := Lib.hid (show lvI C 0 s (pre ++ [a]) <+: lvI C 0 s am from lvI_pre HPR.out 0 s)
      obtain ⟨fn2, tmps2, assign2, body2, hy2, hR2⟩ := HY.out (lvI C 0 s pre) #[.int .i64 ((pre.length : Int) + 1), .int .i64 mx] (pre.length + 1, mx) Z HJZ.out (by omega) rfl (by rw [HPP.out]; exact HPQ.out)
      gi_wp2_with (fail)
      refine (show RoundIn (Fence.wide.inRound l) (d - 1 - 1 - 1) Try.prog lp fn2 tmps2 assign2 body2 Z _ from ⟨trivial, fun c cs _ => hR2.2 c cs (room_wide _)⟩ : RoundIn (Fence.wide.inRound l) (d - 1 - 1 - 1) Try.prog lp fn2 tmps2 assign2 body2 Z _).mono ?_
      rintro e W3 (⟨rfl, hJ3, hk3⟩ | ⟨rfl, hJx3, hk3⟩)
      · rw [HPP.out] at hJ3
        have HJ3 := Lib.hid hJ3
        have HF := Lib.hid (HKF.out.trans (kf_up hk3.from (by omega)))
        have HQ := Lib.hid (HKI.out.trans (hk3.inner (by omega)))
        have HE := Lib.hid (show LvJ Gd w lp W.heap.size bt bl C s J (pre ++ [a]) W3 from ⟨hk3.cells _ _ _ _ (.inr (by omega)) HZY.out, hk3.cells _ _ _ _ (.inr (by omega)) HZT.out, by rw [HN.out]; exact hk3.cells _ _ _ _ (.inr (by omega)) HZL.out, HKZ.out.trans hk3.good, by have := hk3.size; omega, hJ3⟩)
        clear hJ3 hk3 hy2 y0 y1 y2
        gi_wp2_with (fail)
        exact ⟨HF.out, HQ.out, HE.out⟩
      · rw [HPP.out] at hJx3
        have Hx := Lib.hid hJx3
        have HF := Lib.hid (HKF.out.trans (kf_up hk3 (by omega)))
        clear hJx3 hk3 hy2 y0 y1 y2
        gi_wp2_with (fail)
        exact ⟨HF.out, rfl, Hx.out⟩
    case done =>
      rintro D X rfl hI hdef
      have HDEF := Lib.hid hdef
      have Hx := Lib.hid (hJE _ _ _ hI.out (OwnIt.put (.deferred none) (by omega) hdef rfl))
      clear hI hdef
      gi_wp2_with (fail)
      refine ⟨by simp, .inl ⟨_, _, rfl, run_takeDeferred HDEF.out, ?_⟩⟩
      exact ⟨_, results_none rfl _ _ _, ⟨_, rfl⟩, .inl Hx.out⟩
    case stop =>
      rintro D c pre X rfl hpre ⟨rfl, hx⟩ hdef
      have HDEF := Lib.hid hdef
      have Hx := Lib.hid (hJxE _ _ _ hx (OwnIt.put (.deferred none) (by omega) hdef rfl))
      clear hx hdef
      gi_wp2_with (fail)
      refine ⟨by simp, .inl ⟨_, _, rfl, run_takeDeferred HDEF.out, ?_⟩⟩
      exact ⟨_, results_none rfl _ _ _, ⟨_, rfl⟩, .inr ⟨_, lvI_pre hpre 0 s, Hx.out⟩⟩
end Go.Proofs.Ythghinkicaafmaa
