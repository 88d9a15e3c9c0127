/-
  DERIVED. works: the examples of the chapter come out. (Written by gen/genTY.py.)
-/
import Derived.Test.YtfdkdloldjfnjaaGreatDoorYRJm
import Derived.Test.YtfdkdloldjfnjaaGreatDoorTP
set_option linter.unusedVariables false
set_option linter.unusedSimpArgs false
namespace Go.Proofs.YtfdkdloldjfnjaaGreatDoor
open Go.RowKit Go.Shelf
set_option maxRecDepth 100000

theorem Rv.open {w : World} {v : Value} {q : Rat} (h : Rv w v q) : ∃ A c B d, v = .agg #[.bool (qneg q), .slice A (nat q.num.natAbs).length c, .slice B (nat q.den).length d] := by
  obtain ⟨va, vb, h1, h2, h3⟩ := h.1
  obtain ⟨A, c, rfl⟩ := h2.shape
  obtain ⟨B, d, rfl⟩ := h3.shape
  exact ⟨A, c, B, d, h1⟩
/-- A box that holds the fraction of a number. -/
def Bq (W : World) (b : Nat) (q : Rat) (va vb : Value) : Prop := Rt W b (qneg q) va vb ∧ Rv W (.agg #[.bool (qneg q), va, vb]) q
theorem Bq.rv {W : World} {b : Nat} {q : Rat} {va vb : Value} (h : Bq W b q va vb) : Rv W (.agg #[.bool (qneg q), va, vb]) q := h.2
theorem Bq.on {W X : World} {b : Nat} {q : Rat} {va vb : Value} (h : Bq W b q va vb) (hb : Below W.heap.size W X) : Bq X b q va vb := ⟨h.1.on hb h.1.lt, h.2.on hb⟩
theorem Bq.new {w : World} {q : Rat} {va vb : Value} (h : Rv w (.agg #[.bool (qneg q), va, vb]) q) : Bq (w.alloc (.cells #[.bool (qneg q), va, vb] 25)) w.heap.size q va vb :=
  ⟨rt_new _ _ _ _ _ rfl, h.on ((Below.refl _ _).alloc (Nat.le_refl _) _)⟩
theorem Bq.cells {W : World} {b : Nat} {q : Rat} {va vb : Value} (h : Bq W b q va vb) : W.cell? ⟨b, 0, none⟩ = some (.bool (qneg q)) ∧ W.cell? ⟨b, 1, none⟩ = some va ∧ W.cell? ⟨b, 2, none⟩ = some vb := h.1.cells
theorem Bq.cellsA {W : World} {b : Nat} {q : Rat} {va vb : Value} (h : Bq W b q va vb) : (∀ o, (W.alloc o).cell? ⟨b, 0, none⟩ = some (.bool (qneg q))) ∧ (∀ o, (W.alloc o).cell? ⟨b, 1, none⟩ = some va) ∧ (∀ o, (W.alloc o).cell? ⟨b, 2, none⟩ = some vb) :=
  ⟨fun o => (h.on ((Below.refl _ _).alloc (Nat.le_refl _) o)).cells.1, fun o => (h.on ((Below.refl _ _).alloc (Nat.le_refl _) o)).cells.2.1, fun o => (h.on ((Below.refl _ _).alloc (Nat.le_refl _) o)).cells.2.2⟩
theorem sm_of {q : Rat} (h1 : q.num.natAbs < BB ^ 32) (h2 : q.den < BB ^ 32) : Sm q := ⟨nat_len_le.2 h1, nat_len_le.2 h2⟩
theorem txq_of {q : Rat} {s : Bool} {m n : Nat} (h1 : qneg q = s) (h2 : q.num.natAbs = m) (h3 : q.den = n) : txq q = txt s m n := by unfold txq; rw [h1, h2, h3]
theorem v_TextAt {x : Value} {p : Rat} {w : World} (ht : Env w) (hx : Rv w x p) {s : Bool} {m n : Nat} (h1 : qneg p = s) (h2 : p.num.natAbs = m) (h3 : p.den = n) {r : ByteArray} (hr : str (txt s m n) = r) :
    Calls Tryz.prog 20 #[x] w fun e w' => e = .returned (.string r) ∧ Below w.heap.size w w' := by
  have h := v_Text ht hx
  rw [txq_of h1 h2 h3] at h
  unfold StrPost at h
  rw [hr] at h
  exact h
theorem v_ReadAt {q : Rat} (hq : Sm q) {w : World} (ht : Env w) {s : Bool} {m n : Nat} (h1 : qneg q = s) (h2 : q.num.natAbs = m) (h3 : q.den = n) {r : ByteArray} (hr : str (txt s m n) = r) (hl : r.size < 4294967281) :
    Calls Tryz.prog 15 #[.string r] w (RatPost q w) := by
  have h := v_Read hq ht (by rw [txq_of h1 h2 h3]; rw [← hr, str_size] at hl; exact hl)
  rw [txq_of h1 h2 h3, hr] at h
  exact h
theorem v_CmpAt {x y : Value} {p q : Rat} {w : World} (ht : Env w) (hx : Rv w x p) (hy : Rv w y q) {c : Int} (hc : qcmp p q = c) : Calls Tryz.prog 32 #[x, y] w fun e w' => e = .returned (.tuple #[.int .i64 c, .int .i64 0]) ∧ Below w.heap.size w w' := hc ▸ v_Cmp ht hx hy
theorem v_NearestC {x : Value} {p y : Rat} {w : World} (ht : Env w) (hx : Rv w x p) (den : Nat) (h1 : 1 ≤ den) (h2 : den ≤ 1000) {s : Bool} {m n : Nat} (e1 : qneg p = s) (e2 : p.num.natAbs = m) (e3 : p.den = n)
    (hy : nearP s m n (arS den m n).p1 (arS den m n).q1 ((arS den m n).p0 + arK den m n * (arS den m n).p1) ((arS den m n).q0 + arK den m n * (arS den m n).q1) = (qneg y, y.num.natAbs, y.den)) (hs : Sm y) :
    Calls Tryz.prog 40 #[x, .int .i64 den] w (RatPost y w) := by
  have hf := hx.1
  have hv := hx.valid
  subst e1 e2 e3
  refine (c_NearestJ _ _ _ den h1 h2 x w ht.1 hf hv).mono ?_
  intro e w' h
  rw [hy] at h
  exact rat_of_some hs rfl rfl rfl h
theorem v_SimplestC {x y : Value} {p q z : Rat} {w : World} (ht : Env w) (hx : Rv w x p) (hy : Rv w y q) {m1 n1 m2 n2 : Nat} (e1 : qneg p = false) (e2 : p.num.natAbs = m1) (e3 : p.den = n1) (f1 : qneg q = false) (f2 : q.num.natAbs = m2) (f3 : q.den = n2)
    (hle : m1 * n2 ≤ m2 * n1) (ho : ¬ (0 : Int) < ordP (sumP false m1 n1 (negP false true m2) m2 n2)) (g1 : false = qneg z) (g2 : (ev (partsF (n1 + n2) m1 n1 m2 n2)).1 = z.num.natAbs) (g3 : (ev (partsF (n1 + n2) m1 n1 m2 n2)).2 = z.den) (hs : Sm z) :
    Calls Tryz.prog 38 #[x, y] w (RatPost z w) := by
  have hf := hx.1
  have hv := hx.valid
  have kf := hy.1
  have kv := hy.valid
  have hp := p.den_pos
  have hq := q.den_pos
  have s1 := hx.2
  have s2 := hy.2
  unfold Sm at s1 s2
  rw [e1, e2, e3] at hf hv
  rw [f1, f2, f3] at kf kv
  rw [e2, e3] at s1
  rw [f2, f3] at s2
  rw [e3] at hp
  rw [f3] at hq
  refine (c_SimplestP m1 n1 m2 n2 s1.1 s1.2 s2.1 s2.2 hp hq x y w ht.1 hf kf hv kv hle ho).mono ?_
  intro e w' h
  exact rat_of_some hs g1 g2 g3 h

def nH : Rat := ofq 1 2
def nT : Rat := ofq 2 6
def nR : Rat := quo true 3 2
def nF : Rat := (nR.floor : Rat)
def nZ : Rat := quo false 1 2
def nW : Rat := quo false 3 4
def nA : Rat := nH + nT
def nB : Rat := nT - nH
def nC : Rat := nH * nT
def nD : Rat := nH / nT
theorem smH : Sm nH := sm_of (by decide +kernel) (by decide +kernel)
theorem smT : Sm nT := sm_of (by decide +kernel) (by decide +kernel)
theorem smR : Sm nR := sm_of (by decide +kernel) (by decide +kernel)
theorem smF : Sm nF := sm_of (by decide +kernel) (by decide +kernel)
theorem smZ : Sm nZ := sm_of (by decide +kernel) (by decide +kernel)
theorem smW : Sm nW := sm_of (by decide +kernel) (by decide +kernel)
theorem smA : Sm nA := sm_of (by decide +kernel) (by decide +kernel)
theorem smB : Sm nB := sm_of (by decide +kernel) (by decide +kernel)
theorem smC : Sm nC := sm_of (by decide +kernel) (by decide +kernel)
theorem smD : Sm nD := sm_of (by decide +kernel) (by decide +kernel)
theorem txH : str (txt false 1 2) = ⟨#[49, 47, 50]⟩ := by
  unfold txt
  rw [Lib.decDigits_one (by omega), Lib.decDigits_one (by omega)]
  rfl
theorem qH : qneg nH = false ∧ nH.num.natAbs = 1 ∧ nH.den = 2 := ⟨by decide +kernel, by decide +kernel, by decide +kernel⟩
theorem txT : str (txt false 1 3) = ⟨#[49, 47, 51]⟩ := by
  unfold txt
  rw [Lib.decDigits_one (by omega), Lib.decDigits_one (by omega)]
  rfl
theorem qT : qneg nT = false ∧ nT.num.natAbs = 1 ∧ nT.den = 3 := ⟨by decide +kernel, by decide +kernel, by decide +kernel⟩
theorem txR : str (txt true 3 2) = ⟨#[45, 51, 47, 50]⟩ := by
  unfold txt
  rw [Lib.decDigits_one (by omega), Lib.decDigits_one (by omega)]
  rfl
theorem qR : qneg nR = true ∧ nR.num.natAbs = 3 ∧ nR.den = 2 := ⟨by decide +kernel, by decide +kernel, by decide +kernel⟩
theorem txF : str (txt true 2 1) = ⟨#[45, 50, 47, 49]⟩ := by
  unfold txt
  rw [Lib.decDigits_one (by omega), Lib.decDigits_one (by omega)]
  rfl
theorem qF : qneg nF = true ∧ nF.num.natAbs = 2 ∧ nF.den = 1 := ⟨by decide +kernel, by decide +kernel, by decide +kernel⟩
theorem txZ : str (txt false 1 2) = ⟨#[49, 47, 50]⟩ := by
  unfold txt
  rw [Lib.decDigits_one (by omega), Lib.decDigits_one (by omega)]
  rfl
theorem qZ : qneg nZ = false ∧ nZ.num.natAbs = 1 ∧ nZ.den = 2 := ⟨by decide +kernel, by decide +kernel, by decide +kernel⟩
theorem txW : str (txt false 3 4) = ⟨#[51, 47, 52]⟩ := by
  unfold txt
  rw [Lib.decDigits_one (by omega), Lib.decDigits_one (by omega)]
  rfl
theorem qW : qneg nW = false ∧ nW.num.natAbs = 3 ∧ nW.den = 4 := ⟨by decide +kernel, by decide +kernel, by decide +kernel⟩
theorem txA : str (txt false 5 6) = ⟨#[53, 47, 54]⟩ := by
  unfold txt
  rw [Lib.decDigits_one (by omega), Lib.decDigits_one (by omega)]
  rfl
theorem qA : qneg nA = false ∧ nA.num.natAbs = 5 ∧ nA.den = 6 := ⟨by decide +kernel, by decide +kernel, by decide +kernel⟩
theorem txB : str (txt true 1 6) = ⟨#[45, 49, 47, 54]⟩ := by
  unfold txt
  rw [Lib.decDigits_one (by omega), Lib.decDigits_one (by omega)]
  rfl
theorem qB : qneg nB = true ∧ nB.num.natAbs = 1 ∧ nB.den = 6 := ⟨by decide +kernel, by decide +kernel, by decide +kernel⟩
theorem txC : str (txt false 1 6) = ⟨#[49, 47, 54]⟩ := by
  unfold txt
  rw [Lib.decDigits_one (by omega), Lib.decDigits_one (by omega)]
  rfl
theorem qC : qneg nC = false ∧ nC.num.natAbs = 1 ∧ nC.den = 6 := ⟨by decide +kernel, by decide +kernel, by decide +kernel⟩
theorem txD : str (txt false 3 2) = ⟨#[51, 47, 50]⟩ := by
  unfold txt
  rw [Lib.decDigits_one (by omega), Lib.decDigits_one (by omega)]
  rfl
theorem qD : qneg nD = false ∧ nD.num.natAbs = 3 ∧ nD.den = 2 := ⟨by decide +kernel, by decide +kernel, by decide +kernel⟩
set_option maxHeartbeats 4000000 in
theorem c_works (w : World) (he : Env w) : Calls Tryz.prog 23 #[] w fun e w' => e = .returned (.bool true) ∧ Below w.heap.size w w' := by
  have HE := Lib.hid he
  have HB := Lib.hid (Below.refl w.heap.size w)
  clear he
  go_enter Tryz.func23, Tryz.ntmps23
  go_wp2_with (fail)
  go_at_call 13
  refine (show Calls Tryz.prog 13 _ _ (RatPost nH _) from v_Of 1 2 (by omega) (by omega) (by omega) (by omega) (by omega) _ HE.out).mono ?_
  rintro e w1 ⟨v1, rfl, hv1, hb1⟩
  obtain ⟨A1, c1, B1, d1, rfl⟩ := hv1.open
  replace HE := Lib.hid (HE.out.on hb1)
  replace HB := Lib.hid (below_join HB.out hb1 HB.out.size)
  clear hb1
  obtain ⟨W1, hW1⟩ : ∃ W, W = w1.alloc (.cells #[.bool (qneg nH), (.slice A1 (nat nH.num.natAbs).length c1), (.slice B1 (nat nH.den).length d1)] 25) := ⟨_, rfl⟩
  have hbW1 : Below w1.heap.size w1 W1 := by subst hW1; exact (Below.refl _ _).alloc (Nat.le_refl _) _
  have HXH := Lib.hid (show Bq W1 w1.heap.size nH (.slice A1 (nat nH.num.natAbs).length c1) (.slice B1 (nat nH.den).length d1) by subst hW1; exact Bq.new hv1)
  clear hv1
  go_wp2_with (fail)
  rw [← hW1]
  clear hW1
  replace HE := Lib.hid (HE.out.on hbW1)
  replace HB := Lib.hid (below_join HB.out hbW1 HB.out.size)
  clear hbW1
  go_at_call 13
  refine (show Calls Tryz.prog 13 _ _ (RatPost nT _) from v_Of 2 6 (by omega) (by omega) (by omega) (by omega) (by omega) _ HE.out).mono ?_
  rintro e w2 ⟨v2, rfl, hv2, hb2⟩
  obtain ⟨A2, c2, B2, d2, rfl⟩ := hv2.open
  replace HXH := Lib.hid (HXH.out.on hb2)
  replace HE := Lib.hid (HE.out.on hb2)
  replace HB := Lib.hid (below_join HB.out hb2 HB.out.size)
  clear hb2
  obtain ⟨W2, hW2⟩ : ∃ W, W = w2.alloc (.cells #[.bool (qneg nT), (.slice A2 (nat nT.num.natAbs).length c2), (.slice B2 (nat nT.den).length d2)] 25) := ⟨_, rfl⟩
  have hbW2 : Below w2.heap.size w2 W2 := by subst hW2; exact (Below.refl _ _).alloc (Nat.le_refl _) _
  have HXT := Lib.hid (show Bq W2 w2.heap.size nT (.slice A2 (nat nT.num.natAbs).length c2) (.slice B2 (nat nT.den).length d2) by subst hW2; exact Bq.new hv2)
  clear hv2
  obtain ⟨pH_2, rH_2, uH_2⟩ := HXH.out.cellsA
  go_wp2_with (fail)
  clear pH_2 rH_2 uH_2
  rw [← hW2]
  clear hW2
  replace HXH := Lib.hid (HXH.out.on hbW2)
  replace HE := Lib.hid (HE.out.on hbW2)
  replace HB := Lib.hid (below_join HB.out hbW2 HB.out.size)
  clear hbW2
  go_at_call 20
  refine (v_TextAt HE.out HXH.out.rv qH.1 qH.2.1 qH.2.2 txH).mono ?_
  rintro e w3 ⟨rfl, hb3⟩
  replace HXH := Lib.hid (HXH.out.on hb3)
  replace HXT := Lib.hid (HXT.out.on hb3)
  replace HE := Lib.hid (HE.out.on hb3)
  replace HB := Lib.hid (below_join HB.out hb3 HB.out.size)
  clear hb3
  obtain ⟨pH_3, rH_3, uH_3⟩ := HXH.out.cells
  obtain ⟨pT_3, rT_3, uT_3⟩ := HXT.out.cells
  go_wp2_with (fail)
  clear pH_3 rH_3 uH_3 pT_3 rT_3 uT_3
  go_at_call 18
  refine (v_Valid HE.out HXT.out.rv).mono ?_
  rintro e w4 ⟨rfl, hb4⟩
  replace HXH := Lib.hid (HXH.out.on hb4)
  replace HXT := Lib.hid (HXT.out.on hb4)
  replace HE := Lib.hid (HE.out.on hb4)
  replace HB := Lib.hid (below_join HB.out hb4 HB.out.size)
  clear hb4
  obtain ⟨pH_4, rH_4, uH_4⟩ := HXH.out.cells
  obtain ⟨pT_4, rT_4, uT_4⟩ := HXT.out.cells
  go_wp2_with (fail)
  clear pH_4 rH_4 uH_4 pT_4 rT_4 uT_4
  go_at_call 24
  refine (show Calls Tryz.prog 24 _ _ (RatPost nA _) from v_Add HE.out HXH.out.rv HXT.out.rv smA).mono ?_
  rintro e w5 ⟨v5, rfl, hv5, hb5⟩
  obtain ⟨A5, c5, B5, d5, rfl⟩ := hv5.open
  replace HXH := Lib.hid (HXH.out.on hb5)
  replace HXT := Lib.hid (HXT.out.on hb5)
  replace HE := Lib.hid (HE.out.on hb5)
  replace HB := Lib.hid (below_join HB.out hb5 HB.out.size)
  clear hb5
  obtain ⟨W5, hW5⟩ : ∃ W, W = w5.alloc (.cells #[.bool (qneg nA), (.slice A5 (nat nA.num.natAbs).length c5), (.slice B5 (nat nA.den).length d5)] 25) := ⟨_, rfl⟩
  have hbW5 : Below w5.heap.size w5 W5 := by subst hW5; exact (Below.refl _ _).alloc (Nat.le_refl _) _
  have HXA := Lib.hid (show Bq W5 w5.heap.size nA (.slice A5 (nat nA.num.natAbs).length c5) (.slice B5 (nat nA.den).length d5) by subst hW5; exact Bq.new hv5)
  clear hv5
  obtain ⟨pH_5, rH_5, uH_5⟩ := HXH.out.cellsA
  obtain ⟨pT_5, rT_5, uT_5⟩ := HXT.out.cellsA
  go_wp2_with (fail)
  clear pH_5 rH_5 uH_5 pT_5 rT_5 uT_5
  rw [← hW5]
  clear hW5
  replace HXH := Lib.hid (HXH.out.on hbW5)
  replace HXT := Lib.hid (HXT.out.on hbW5)
  replace HE := Lib.hid (HE.out.on hbW5)
  replace HB := Lib.hid (below_join HB.out hbW5 HB.out.size)
  clear hbW5
  go_at_call 25
  refine (show Calls Tryz.prog 25 _ _ (RatPost nB _) from v_Sub HE.out HXT.out.rv HXH.out.rv smB).mono ?_
  rintro e w6 ⟨v6, rfl, hv6, hb6⟩
  obtain ⟨A6, c6, B6, d6, rfl⟩ := hv6.open
  replace HXH := Lib.hid (HXH.out.on hb6)
  replace HXT := Lib.hid (HXT.out.on hb6)
  replace HXA := Lib.hid (HXA.out.on hb6)
  replace HE := Lib.hid (HE.out.on hb6)
  replace HB := Lib.hid (below_join HB.out hb6 HB.out.size)
  clear hb6
  obtain ⟨W6, hW6⟩ : ∃ W, W = w6.alloc (.cells #[.bool (qneg nB), (.slice A6 (nat nB.num.natAbs).length c6), (.slice B6 (nat nB.den).length d6)] 25) := ⟨_, rfl⟩
  have hbW6 : Below w6.heap.size w6 W6 := by subst hW6; exact (Below.refl _ _).alloc (Nat.le_refl _) _
  have HXB := Lib.hid (show Bq W6 w6.heap.size nB (.slice A6 (nat nB.num.natAbs).length c6) (.slice B6 (nat nB.den).length d6) by subst hW6; exact Bq.new hv6)
  clear hv6
  obtain ⟨pH_6, rH_6, uH_6⟩ := HXH.out.cellsA
  obtain ⟨pT_6, rT_6, uT_6⟩ := HXT.out.cellsA
  go_wp2_with (fail)
  clear pH_6 rH_6 uH_6 pT_6 rT_6 uT_6
  rw [← hW6]
  clear hW6
  replace HXH := Lib.hid (HXH.out.on hbW6)
  replace HXT := Lib.hid (HXT.out.on hbW6)
  replace HXA := Lib.hid (HXA.out.on hbW6)
  replace HE := Lib.hid (HE.out.on hbW6)
  replace HB := Lib.hid (below_join HB.out hbW6 HB.out.size)
  clear hbW6
  go_at_call 26
  refine (show Calls Tryz.prog 26 _ _ (RatPost nC _) from v_Mul HE.out HXH.out.rv HXT.out.rv smC).mono ?_
  rintro e w7 ⟨v7, rfl, hv7, hb7⟩
  obtain ⟨A7, c7, B7, d7, rfl⟩ := hv7.open
  replace HXH := Lib.hid (HXH.out.on hb7)
  replace HXT := Lib.hid (HXT.out.on hb7)
  replace HXA := Lib.hid (HXA.out.on hb7)
  replace HXB := Lib.hid (HXB.out.on hb7)
  replace HE := Lib.hid (HE.out.on hb7)
  replace HB := Lib.hid (below_join HB.out hb7 HB.out.size)
  clear hb7
  obtain ⟨W7, hW7⟩ : ∃ W, W = w7.alloc (.cells #[.bool (qneg nC), (.slice A7 (nat nC.num.natAbs).length c7), (.slice B7 (nat nC.den).length d7)] 25) := ⟨_, rfl⟩
  have hbW7 : Below w7.heap.size w7 W7 := by subst hW7; exact (Below.refl _ _).alloc (Nat.le_refl _) _
  have HXC := Lib.hid (show Bq W7 w7.heap.size nC (.slice A7 (nat nC.num.natAbs).length c7) (.slice B7 (nat nC.den).length d7) by subst hW7; exact Bq.new hv7)
  clear hv7
  obtain ⟨pH_7, rH_7, uH_7⟩ := HXH.out.cellsA
  obtain ⟨pT_7, rT_7, uT_7⟩ := HXT.out.cellsA
  go_wp2_with (fail)
  clear pH_7 rH_7 uH_7 pT_7 rT_7 uT_7
  rw [← hW7]
  clear hW7
  replace HXH := Lib.hid (HXH.out.on hbW7)
  replace HXT := Lib.hid (HXT.out.on hbW7)
  replace HXA := Lib.hid (HXA.out.on hbW7)
  replace HXB := Lib.hid (HXB.out.on hbW7)
  replace HE := Lib.hid (HE.out.on hbW7)
  replace HB := Lib.hid (below_join HB.out hbW7 HB.out.size)
  clear hbW7
  go_at_call 27
  refine (show Calls Tryz.prog 27 _ _ (RatPost nD _) from v_Div HE.out HXH.out.rv HXT.out.rv (by decide +kernel) smD).mono ?_
  rintro e w8 ⟨v8, rfl, hv8, hb8⟩
  obtain ⟨A8, c8, B8, d8, rfl⟩ := hv8.open
  replace HXH := Lib.hid (HXH.out.on hb8)
  replace HXT := Lib.hid (HXT.out.on hb8)
  replace HXA := Lib.hid (HXA.out.on hb8)
  replace HXB := Lib.hid (HXB.out.on hb8)
  replace HXC := Lib.hid (HXC.out.on hb8)
  replace HE := Lib.hid (HE.out.on hb8)
  replace HB := Lib.hid (below_join HB.out hb8 HB.out.size)
  clear hb8
  obtain ⟨W8, hW8⟩ : ∃ W, W = w8.alloc (.cells #[.bool (qneg nD), (.slice A8 (nat nD.num.natAbs).length c8), (.slice B8 (nat nD.den).length d8)] 25) := ⟨_, rfl⟩
  have hbW8 : Below w8.heap.size w8 W8 := by subst hW8; exact (Below.refl _ _).alloc (Nat.le_refl _) _
  have HXD := Lib.hid (show Bq W8 w8.heap.size nD (.slice A8 (nat nD.num.natAbs).length c8) (.slice B8 (nat nD.den).length d8) by subst hW8; exact Bq.new hv8)
  clear hv8
  obtain ⟨pA_8, rA_8, uA_8⟩ := HXA.out.cellsA
  go_wp2_with (fail)
  clear pA_8 rA_8 uA_8
  rw [← hW8]
  clear hW8
  replace HXH := Lib.hid (HXH.out.on hbW8)
  replace HXT := Lib.hid (HXT.out.on hbW8)
  replace HXA := Lib.hid (HXA.out.on hbW8)
  replace HXB := Lib.hid (HXB.out.on hbW8)
  replace HXC := Lib.hid (HXC.out.on hbW8)
  replace HE := Lib.hid (HE.out.on hbW8)
  replace HB := Lib.hid (below_join HB.out hbW8 HB.out.size)
  clear hbW8
  go_at_call 20
  refine (v_TextAt HE.out HXA.out.rv qA.1 qA.2.1 qA.2.2 txA).mono ?_
  rintro e w9 ⟨rfl, hb9⟩
  replace HXH := Lib.hid (HXH.out.on hb9)
  replace HXT := Lib.hid (HXT.out.on hb9)
  replace HXA := Lib.hid (HXA.out.on hb9)
  replace HXB := Lib.hid (HXB.out.on hb9)
  replace HXC := Lib.hid (HXC.out.on hb9)
  replace HXD := Lib.hid (HXD.out.on hb9)
  replace HE := Lib.hid (HE.out.on hb9)
  replace HB := Lib.hid (below_join HB.out hb9 HB.out.size)
  clear hb9
  obtain ⟨pB_9, rB_9, uB_9⟩ := HXB.out.cells
  go_wp2_with (fail)
  clear pB_9 rB_9 uB_9
  go_at_call 20
  refine (v_TextAt HE.out HXB.out.rv qB.1 qB.2.1 qB.2.2 txB).mono ?_
  rintro e w10 ⟨rfl, hb10⟩
  replace HXH := Lib.hid (HXH.out.on hb10)
  replace HXT := Lib.hid (HXT.out.on hb10)
  replace HXA := Lib.hid (HXA.out.on hb10)
  replace HXB := Lib.hid (HXB.out.on hb10)
  replace HXC := Lib.hid (HXC.out.on hb10)
  replace HXD := Lib.hid (HXD.out.on hb10)
  replace HE := Lib.hid (HE.out.on hb10)
  replace HB := Lib.hid (below_join HB.out hb10 HB.out.size)
  clear hb10
  obtain ⟨pC_10, rC_10, uC_10⟩ := HXC.out.cells
  go_wp2_with (fail)
  clear pC_10 rC_10 uC_10
  go_at_call 20
  refine (v_TextAt HE.out HXC.out.rv qC.1 qC.2.1 qC.2.2 txC).mono ?_
  rintro e w11 ⟨rfl, hb11⟩
  replace HXH := Lib.hid (HXH.out.on hb11)
  replace HXT := Lib.hid (HXT.out.on hb11)
  replace HXA := Lib.hid (HXA.out.on hb11)
  replace HXB := Lib.hid (HXB.out.on hb11)
  replace HXC := Lib.hid (HXC.out.on hb11)
  replace HXD := Lib.hid (HXD.out.on hb11)
  replace HE := Lib.hid (HE.out.on hb11)
  replace HB := Lib.hid (below_join HB.out hb11 HB.out.size)
  clear hb11
  obtain ⟨pD_11, rD_11, uD_11⟩ := HXD.out.cells
  go_wp2_with (fail)
  clear pD_11 rD_11 uD_11
  go_at_call 20
  refine (v_TextAt HE.out HXD.out.rv qD.1 qD.2.1 qD.2.2 txD).mono ?_
  rintro e w12 ⟨rfl, hb12⟩
  replace HXH := Lib.hid (HXH.out.on hb12)
  replace HXT := Lib.hid (HXT.out.on hb12)
  replace HXA := Lib.hid (HXA.out.on hb12)
  replace HXB := Lib.hid (HXB.out.on hb12)
  replace HXC := Lib.hid (HXC.out.on hb12)
  replace HXD := Lib.hid (HXD.out.on hb12)
  replace HE := Lib.hid (HE.out.on hb12)
  replace HB := Lib.hid (below_join HB.out hb12 HB.out.size)
  clear hb12
  obtain ⟨pH_12, rH_12, uH_12⟩ := HXH.out.cells
  obtain ⟨pT_12, rT_12, uT_12⟩ := HXT.out.cells
  go_wp2_with (fail)
  clear pH_12 rH_12 uH_12 pT_12 rT_12 uT_12
  go_at_call 32
  refine (v_CmpAt HE.out HXH.out.rv HXT.out.rv (show qcmp nH nT = 1 by decide +kernel)).mono ?_
  rintro e w13 ⟨rfl, hb13⟩
  replace HXH := Lib.hid (HXH.out.on hb13)
  replace HXT := Lib.hid (HXT.out.on hb13)
  replace HXA := Lib.hid (HXA.out.on hb13)
  replace HXB := Lib.hid (HXB.out.on hb13)
  replace HXC := Lib.hid (HXC.out.on hb13)
  replace HXD := Lib.hid (HXD.out.on hb13)
  replace HE := Lib.hid (HE.out.on hb13)
  replace HB := Lib.hid (below_join HB.out hb13 HB.out.size)
  clear hb13
  go_wp2_with (fail)
  go_at_call 15
  refine (v_ReadAt smR HE.out qR.1 qR.2.1 qR.2.2 txR (by decide)).mono ?_
  rintro e w14 ⟨v14, rfl, hv14, hb14⟩
  obtain ⟨A14, c14, B14, d14, rfl⟩ := hv14.open
  replace HXH := Lib.hid (HXH.out.on hb14)
  replace HXT := Lib.hid (HXT.out.on hb14)
  replace HXA := Lib.hid (HXA.out.on hb14)
  replace HXB := Lib.hid (HXB.out.on hb14)
  replace HXC := Lib.hid (HXC.out.on hb14)
  replace HXD := Lib.hid (HXD.out.on hb14)
  replace HE := Lib.hid (HE.out.on hb14)
  replace HB := Lib.hid (below_join HB.out hb14 HB.out.size)
  clear hb14
  obtain ⟨W14, hW14⟩ : ∃ W, W = w14.alloc (.cells #[.bool (qneg nR), (.slice A14 (nat nR.num.natAbs).length c14), (.slice B14 (nat nR.den).length d14)] 25) := ⟨_, rfl⟩
  have hbW14 : Below w14.heap.size w14 W14 := by subst hW14; exact (Below.refl _ _).alloc (Nat.le_refl _) _
  have HXR := Lib.hid (show Bq W14 w14.heap.size nR (.slice A14 (nat nR.num.natAbs).length c14) (.slice B14 (nat nR.den).length d14) by subst hW14; exact Bq.new hv14)
  clear hv14
  go_wp2_with (fail)
  rw [← hW14]
  clear hW14
  replace HXH := Lib.hid (HXH.out.on hbW14)
  replace HXT := Lib.hid (HXT.out.on hbW14)
  replace HXA := Lib.hid (HXA.out.on hbW14)
  replace HXB := Lib.hid (HXB.out.on hbW14)
  replace HXC := Lib.hid (HXC.out.on hbW14)
  replace HXD := Lib.hid (HXD.out.on hbW14)
  replace HE := Lib.hid (HE.out.on hbW14)
  replace HB := Lib.hid (below_join HB.out hbW14 HB.out.size)
  clear hbW14
  go_at_call 34
  refine (show Calls Tryz.prog 34 _ _ (RatPost nF _) from v_Floor HE.out HXR.out.rv smF).mono ?_
  rintro e w15 ⟨v15, rfl, hv15, hb15⟩
  obtain ⟨A15, c15, B15, d15, rfl⟩ := hv15.open
  replace HXH := Lib.hid (HXH.out.on hb15)
  replace HXT := Lib.hid (HXT.out.on hb15)
  replace HXA := Lib.hid (HXA.out.on hb15)
  replace HXB := Lib.hid (HXB.out.on hb15)
  replace HXC := Lib.hid (HXC.out.on hb15)
  replace HXD := Lib.hid (HXD.out.on hb15)
  replace HXR := Lib.hid (HXR.out.on hb15)
  replace HE := Lib.hid (HE.out.on hb15)
  replace HB := Lib.hid (below_join HB.out hb15 HB.out.size)
  clear hb15
  obtain ⟨W15, hW15⟩ : ∃ W, W = w15.alloc (.cells #[.bool (qneg nF), (.slice A15 (nat nF.num.natAbs).length c15), (.slice B15 (nat nF.den).length d15)] 25) := ⟨_, rfl⟩
  have hbW15 : Below w15.heap.size w15 W15 := by subst hW15; exact (Below.refl _ _).alloc (Nat.le_refl _) _
  have HXF := Lib.hid (show Bq W15 w15.heap.size nF (.slice A15 (nat nF.num.natAbs).length c15) (.slice B15 (nat nF.den).length d15) by subst hW15; exact Bq.new hv15)
  clear hv15
  go_wp2_with (fail)
  rw [← hW15]
  clear hW15
  replace HXH := Lib.hid (HXH.out.on hbW15)
  replace HXT := Lib.hid (HXT.out.on hbW15)
  replace HXA := Lib.hid (HXA.out.on hbW15)
  replace HXB := Lib.hid (HXB.out.on hbW15)
  replace HXC := Lib.hid (HXC.out.on hbW15)
  replace HXD := Lib.hid (HXD.out.on hbW15)
  replace HXR := Lib.hid (HXR.out.on hbW15)
  replace HE := Lib.hid (HE.out.on hbW15)
  replace HB := Lib.hid (below_join HB.out hbW15 HB.out.size)
  clear hbW15
  go_at_call 36
  refine (v_Int (z := -2) HE.out (show Rv _ _ ((-2 : Int) : Rat) from (show nF = ((-2 : Int) : Rat) by decide +kernel) ▸ HXF.out.rv) (by omega) (by omega)).mono ?_
  rintro e w16 ⟨rfl, hb16⟩
  replace HXH := Lib.hid (HXH.out.on hb16)
  replace HXT := Lib.hid (HXT.out.on hb16)
  replace HXA := Lib.hid (HXA.out.on hb16)
  replace HXB := Lib.hid (HXB.out.on hb16)
  replace HXC := Lib.hid (HXC.out.on hb16)
  replace HXD := Lib.hid (HXD.out.on hb16)
  replace HXR := Lib.hid (HXR.out.on hb16)
  replace HXF := Lib.hid (HXF.out.on hb16)
  replace HE := Lib.hid (HE.out.on hb16)
  replace HB := Lib.hid (below_join HB.out hb16 HB.out.size)
  clear hb16
  obtain ⟨pF_16, rF_16, uF_16⟩ := HXF.out.cells
  go_wp2_with (fail)
  clear pF_16 rF_16 uF_16
  go_at_call 20
  refine (v_TextAt HE.out HXF.out.rv qF.1 qF.2.1 qF.2.2 txF).mono ?_
  rintro e w17 ⟨rfl, hb17⟩
  replace HXH := Lib.hid (HXH.out.on hb17)
  replace HXT := Lib.hid (HXT.out.on hb17)
  replace HXA := Lib.hid (HXA.out.on hb17)
  replace HXB := Lib.hid (HXB.out.on hb17)
  replace HXC := Lib.hid (HXC.out.on hb17)
  replace HXD := Lib.hid (HXD.out.on hb17)
  replace HXR := Lib.hid (HXR.out.on hb17)
  replace HXF := Lib.hid (HXF.out.on hb17)
  replace HE := Lib.hid (HE.out.on hb17)
  replace HB := Lib.hid (below_join HB.out hb17 HB.out.size)
  clear hb17
  obtain ⟨pH_17, rH_17, uH_17⟩ := HXH.out.cells
  obtain ⟨pT_17, rT_17, uT_17⟩ := HXT.out.cells
  go_wp2_with (fail)
  clear pH_17 rH_17 uH_17 pT_17 rT_17 uT_17
  go_at_call 38
  refine (v_SimplestC HE.out HXT.out.rv HXH.out.rv qT.1 qT.2.1 qT.2.2 qH.1 qH.2.1 qH.2.2 (by omega) (by decide +kernel) qZ.1.symm (by decide +kernel) (by decide +kernel) smZ).mono ?_
  rintro e w18 ⟨v18, rfl, hv18, hb18⟩
  obtain ⟨A18, c18, B18, d18, rfl⟩ := hv18.open
  replace HXH := Lib.hid (HXH.out.on hb18)
  replace HXT := Lib.hid (HXT.out.on hb18)
  replace HXA := Lib.hid (HXA.out.on hb18)
  replace HXB := Lib.hid (HXB.out.on hb18)
  replace HXC := Lib.hid (HXC.out.on hb18)
  replace HXD := Lib.hid (HXD.out.on hb18)
  replace HXR := Lib.hid (HXR.out.on hb18)
  replace HXF := Lib.hid (HXF.out.on hb18)
  replace HE := Lib.hid (HE.out.on hb18)
  replace HB := Lib.hid (below_join HB.out hb18 HB.out.size)
  clear hb18
  obtain ⟨W18, hW18⟩ : ∃ W, W = w18.alloc (.cells #[.bool (qneg nZ), (.slice A18 (nat nZ.num.natAbs).length c18), (.slice B18 (nat nZ.den).length d18)] 25) := ⟨_, rfl⟩
  have hbW18 : Below w18.heap.size w18 W18 := by subst hW18; exact (Below.refl _ _).alloc (Nat.le_refl _) _
  have HXZ := Lib.hid (show Bq W18 w18.heap.size nZ (.slice A18 (nat nZ.num.natAbs).length c18) (.slice B18 (nat nZ.den).length d18) by subst hW18; exact Bq.new hv18)
  clear hv18
  obtain ⟨pA_18, rA_18, uA_18⟩ := HXA.out.cellsA
  go_wp2_with (fail)
  clear pA_18 rA_18 uA_18
  rw [← hW18]
  clear hW18
  replace HXH := Lib.hid (HXH.out.on hbW18)
  replace HXT := Lib.hid (HXT.out.on hbW18)
  replace HXA := Lib.hid (HXA.out.on hbW18)
  replace HXB := Lib.hid (HXB.out.on hbW18)
  replace HXC := Lib.hid (HXC.out.on hbW18)
  replace HXD := Lib.hid (HXD.out.on hbW18)
  replace HXR := Lib.hid (HXR.out.on hbW18)
  replace HXF := Lib.hid (HXF.out.on hbW18)
  replace HE := Lib.hid (HE.out.on hbW18)
  replace HB := Lib.hid (below_join HB.out hbW18 HB.out.size)
  clear hbW18
  go_at_call 40
  refine (v_NearestC HE.out HXA.out.rv 4 (by omega) (by omega) qA.1 qA.2.1 qA.2.2 (by decide +kernel) smW).mono ?_
  rintro e w19 ⟨v19, rfl, hv19, hb19⟩
  obtain ⟨A19, c19, B19, d19, rfl⟩ := hv19.open
  replace HXH := Lib.hid (HXH.out.on hb19)
  replace HXT := Lib.hid (HXT.out.on hb19)
  replace HXA := Lib.hid (HXA.out.on hb19)
  replace HXB := Lib.hid (HXB.out.on hb19)
  replace HXC := Lib.hid (HXC.out.on hb19)
  replace HXD := Lib.hid (HXD.out.on hb19)
  replace HXR := Lib.hid (HXR.out.on hb19)
  replace HXF := Lib.hid (HXF.out.on hb19)
  replace HXZ := Lib.hid (HXZ.out.on hb19)
  replace HE := Lib.hid (HE.out.on hb19)
  replace HB := Lib.hid (below_join HB.out hb19 HB.out.size)
  clear hb19
  obtain ⟨W19, hW19⟩ : ∃ W, W = w19.alloc (.cells #[.bool (qneg nW), (.slice A19 (nat nW.num.natAbs).length c19), (.slice B19 (nat nW.den).length d19)] 25) := ⟨_, rfl⟩
  have hbW19 : Below w19.heap.size w19 W19 := by subst hW19; exact (Below.refl _ _).alloc (Nat.le_refl _) _
  have HXW := Lib.hid (show Bq W19 w19.heap.size nW (.slice A19 (nat nW.num.natAbs).length c19) (.slice B19 (nat nW.den).length d19) by subst hW19; exact Bq.new hv19)
  clear hv19
  obtain ⟨pZ_19, rZ_19, uZ_19⟩ := HXZ.out.cellsA
  go_wp2_with (fail)
  clear pZ_19 rZ_19 uZ_19
  rw [← hW19]
  clear hW19
  replace HXH := Lib.hid (HXH.out.on hbW19)
  replace HXT := Lib.hid (HXT.out.on hbW19)
  replace HXA := Lib.hid (HXA.out.on hbW19)
  replace HXB := Lib.hid (HXB.out.on hbW19)
  replace HXC := Lib.hid (HXC.out.on hbW19)
  replace HXD := Lib.hid (HXD.out.on hbW19)
  replace HXR := Lib.hid (HXR.out.on hbW19)
  replace HXF := Lib.hid (HXF.out.on hbW19)
  replace HXZ := Lib.hid (HXZ.out.on hbW19)
  replace HE := Lib.hid (HE.out.on hbW19)
  replace HB := Lib.hid (below_join HB.out hbW19 HB.out.size)
  clear hbW19
  go_at_call 20
  refine (v_TextAt HE.out HXZ.out.rv qZ.1 qZ.2.1 qZ.2.2 txZ).mono ?_
  rintro e w20 ⟨rfl, hb20⟩
  replace HXH := Lib.hid (HXH.out.on hb20)
  replace HXT := Lib.hid (HXT.out.on hb20)
  replace HXA := Lib.hid (HXA.out.on hb20)
  replace HXB := Lib.hid (HXB.out.on hb20)
  replace HXC := Lib.hid (HXC.out.on hb20)
  replace HXD := Lib.hid (HXD.out.on hb20)
  replace HXR := Lib.hid (HXR.out.on hb20)
  replace HXF := Lib.hid (HXF.out.on hb20)
  replace HXZ := Lib.hid (HXZ.out.on hb20)
  replace HXW := Lib.hid (HXW.out.on hb20)
  replace HE := Lib.hid (HE.out.on hb20)
  replace HB := Lib.hid (below_join HB.out hb20 HB.out.size)
  clear hb20
  obtain ⟨pW_20, rW_20, uW_20⟩ := HXW.out.cells
  go_wp2_with (fail)
  clear pW_20 rW_20 uW_20
  go_at_call 20
  refine (v_TextAt HE.out HXW.out.rv qW.1 qW.2.1 qW.2.2 txW).mono ?_
  rintro e w21 ⟨rfl, hb21⟩
  replace HXH := Lib.hid (HXH.out.on hb21)
  replace HXT := Lib.hid (HXT.out.on hb21)
  replace HXA := Lib.hid (HXA.out.on hb21)
  replace HXB := Lib.hid (HXB.out.on hb21)
  replace HXC := Lib.hid (HXC.out.on hb21)
  replace HXD := Lib.hid (HXD.out.on hb21)
  replace HXR := Lib.hid (HXR.out.on hb21)
  replace HXF := Lib.hid (HXF.out.on hb21)
  replace HXZ := Lib.hid (HXZ.out.on hb21)
  replace HXW := Lib.hid (HXW.out.on hb21)
  replace HE := Lib.hid (HE.out.on hb21)
  replace HB := Lib.hid (below_join HB.out hb21 HB.out.size)
  clear hb21
  go_wp2_with (fail)
  go_ret
  exact ⟨rfl, HB.out⟩
end Go.Proofs.YtfdkdloldjfnjaaGreatDoor
