/-
  DERIVED. The law RatioTexts. (Written by gen/genUG.py.)
-/
import Derived.Test.YtloaepaomokaoaaDoorTY
import Derived.Test.YtloaepaomokaoaaDoorUF
set_option linter.unusedVariables false
set_option linter.unusedSimpArgs false
namespace Go.Proofs.YtloaepaomokaoaaDoor
open Go.RowKit
set_option maxRecDepth 100000

/-- Limbs that are valid are those of a number. -/
theorem raw_valid {s : Bool} {a b : List Nat} (ha : Lb a) (hb : Lb b) (hv : validB s a b = true) : ∃ q : Rat, Sm q ∧ s = qneg q ∧ a = nat q.num.natAbs ∧ b = nat q.den := by
  have h1 : vnB a = true := by unfold validB at hv; simp only [Bool.and_eq_true] at hv; exact hv.1
  have h2 : vnB b = true := by unfold validB at hv; simp only [Bool.and_eq_true] at hv; exact hv.2.1
  have ea := nat_val (can_of_vn ha h1)
  have eb := nat_val (can_of_vn hb h2)
  rw [← ea, ← eb] at hv
  obtain ⟨e1, e2, e3, hs⟩ := valid_rat hv
  exact ⟨_, hs, e1, by rw [← e2, ea], by rw [← e3, eb]⟩
theorem Rc.lb {w : World} {v : Value} {s : Bool} {a b : List Nat} (h : Rc w v s a b) : Lb a ∧ Lb b := by
  obtain ⟨va, vb, -, h1, -, h2, -⟩ := h
  exact ⟨h1.2, h2.2⟩
theorem Rc.fr0 {w : World} {v : Value} {s : Bool} {a b : List Nat} (h : Rc w v s a b) (ha : a.length ≤ 100000) (hb : b.length ≤ 100000) : Fr0 w v s a b := by
  obtain ⟨va, vb, e, h1, -, h2, -⟩ := h
  exact ⟨va, vb, e, h1.1, h2.1, h1.2, h2.2, ha, hb⟩
theorem Rc.rv {w : World} {v : Value} {s : Bool} {a b : List Nat} (h : Rc w v s a b) {q : Rat} (hq : Sm q) (e1 : s = qneg q) (e2 : a = nat q.num.natAbs) (e3 : b = nat q.den) : Rv w v q := by
  obtain ⟨va, vb, e, h1, -, h2, -⟩ := h
  subst e1 e2 e3
  exact ⟨⟨va, vb, e, h1.1, h2.1⟩, hq⟩
/-- A text cut to its first bytes. -/
theorem cut_text (t : ByteArray) : ∃ (k : Nat) (l : List UInt8), min ((t.size : Nat) : Int) 700 = ((k : Nat) : Int) ∧ k ≤ t.size ∧ l.length ≤ 700 ∧ ∀ W, (Instr.slice 9 (.string t) none (some (.int .i64 (k : Int))) none).run Tryd.prog W = .ok (.string (str l)) W := by
  refine ⟨min t.size 700, (t.extract 0 (min t.size 700)).data.toList, by omega, by omega, ?_, fun W => ?_⟩
  · have : (t.extract 0 (min t.size 700)).size ≤ 700 := by simp; omega
    show (t.extract 0 (min t.size 700)).data.toList.length ≤ 700
    rw [Array.length_toList]
    exact this
  · rw [run_slice_string_to_if W 9 t .i64 _ Tryd.underlying9, if_pos (by omega), str_of]
    simp
theorem read_some {l : List UInt8} (hl : l.length < 4294967281) {w : World} (he : Env w) {q : Rat} (hq : Sm q) (h : txq q = l) : Calls Tryd.prog 6 #[.string (str l)] w (RatPost q w) := by
  subst h
  exact v_Read hq he hl
theorem read_none {l : List UInt8} (hl : l.length < 4294967281) {w : World} (he : Env w) (h : readP l = none) : Calls Tryd.prog 6 #[.string (str l)] w fun e w' => e = .returned (.tuple #[.agg #[.bool false, .slice none 0 0, .slice none 0 0], .int .i64 4]) ∧ Below w.heap.size w w' := by
  refine (c_Read l hl w he.1 he.2.2).mono ?_
  rintro e w' ⟨v, y, rfl, hb, h1, -⟩
  obtain ⟨rfl, rfl⟩ := h1 h
  exact ⟨rfl, hb⟩
theorem read_cases (l : List UInt8) : readP l = none ∨ ∃ q : Rat, Sm q ∧ txq q = l := by
  rcases h : readP l with _ | ⟨s, m, n⟩
  · exact .inl rfl
  · obtain ⟨h1, h2⟩ := txt_read h
    obtain ⟨e1, e2, e3, hs⟩ := valid_rat h2
    exact .inr ⟨_, hs, by unfold txq; rw [← e1, ← e2, ← e3]; exact h1⟩

theorem txq_short {q : Rat} (h : Sm q) : (txq q).length < 4294967281 := by
  have h1 := dec_length 308 _ (lim_pow h.1)
  have h2 := dec_length 308 _ (lim_pow h.2)
  unfold txq txt
  simp only [List.length_append, List.length_cons]
  have : (if qneg q = true then ([45] : List UInt8) else []).length ≤ 1 := by split <;> simp
  omega
set_option maxHeartbeats 8000000 in
theorem texts_ne (s : Bool) (a b : List Nat) (x : Value) (t : ByteArray) (ht : t.size ≤ maxLen) (k : Nat) (l : List UInt8) (hk : min ((t.size : Nat) : Int) 700 = ((k : Nat) : Int)) (hkt : k ≤ t.size) (hl : l.length < 4294967281)
    (hsl : ∀ W, (Instr.slice 9 (.string t) none (some (.int .i64 (k : Int))) none).run Tryd.prog W = .ok (.string (str l)) W)
    (hv : validB s (a.take 40) (b.take 40) = false)
    (hrd : readP l = none)
    (w : World) (he : Env w) (hx : Rc w x s a b) :
    Calls Tryd.prog 3 #[x, .string t] w fun e w' => e = .returned (.bool true) ∧ Below w.heap.size w w' := by
  have HXC := Lib.hid hx
  obtain ⟨va, vb, rfl, h1, -, h2, -⟩ := hx
  obtain ⟨A1, c1, rfl, -, -⟩ := h1.nilcap
  obtain ⟨A2, c2, rfl, -, -⟩ := h2.nilcap
  have HE0 := Lib.hid he
  obtain ⟨W, hW⟩ : ∃ W, W = w.alloc (.cells #[.bool s, .slice A1 a.length c1, .slice A2 b.length c2] 25) := ⟨_, rfl⟩
  have B0 : Below w.heap.size w W := by subst hW; exact (Below.refl _ _).alloc (Nat.le_refl _) _
  have HBW := Lib.hid B0
  have hz : w.heap.size < W.heap.size := by subst hW; simp
  have HR := Lib.hid (show Rt W w.heap.size s (.slice A1 a.length c1) (.slice A2 b.length c2) by subst hW; exact rt_new' _ _ _ _)
  have HOWN := Lib.hid (fun (X : World) (hX : Below w.heap.size w X) => c_own (HXC.out.on hX))
  have htk : (t.size : Int) ≤ 9223372036854775807 := by unfold maxLen at ht; omega
  clear B0 h1 h2 he
  skip
  skip
  go_enter Tryd.func3, Tryd.ntmps3
  go_wp2_with (fail)
  rw [← hW]
  clear hW
  obtain ⟨x0, x1, x2⟩ := HR.out.cells
  obtain ⟨la, hla⟩ : ∃ la, la = a.take 40 := ⟨_, rfl⟩
  obtain ⟨lb, hlb⟩ : ∃ lb, lb = b.take 40 := ⟨_, rfl⟩
  have hla40 : la.length ≤ 40 := by subst hla; simp; omega
  have hlb40 : lb.length ≤ 40 := by subst hlb; simp; omega
  rw [← hla, ← hlb] at HOWN
  rw [← hla, ← hlb] at hv
  skip
  clear hla hlb
  skip
  skip
  apply wp_only8 (fun E1 j1 E2 j2 E3 j3 E4 j4 V => Rt V w.heap.size s (.slice E1 la.length j1) (.slice E2 lb.length j2) ∧ Rc V (.agg #[.bool s, .slice E1 la.length j1, .slice E2 lb.length j2]) s la lb ∧ Env V ∧ Below w.heap.size w V)
  case h =>
   go_region_with (first
    | (go_at_call 4; (with_reducible refine (HOWN.out _ HBW.out.drew).mono ?_); rintro e wa ⟨ra, rfl, ⟨v1, v2, rfl, ga1, gn1, ga2, gn2⟩, hba0⟩; obtain ⟨E1, j1, rfl, -, -⟩ := ga1.nilcap; obtain ⟨E2, j2, rfl, -, -⟩ := ga2.nilcap; have hba := Below.undrew hba0; have HBa := Lib.hid hba; have HG1 := Lib.hid ga1; have HG2 := Lib.hid ga2; have HN1 := Lib.hid gn1; have HN2 := Lib.hid gn2; have HRa := Lib.hid (HR.out.on hba hz); clear ga1 ga2 gn1 gn2 hba hba0; obtain ⟨y0, y1, y2⟩ := HRa.out.cells; obtain ⟨f0, f1, f2⟩ := HRa.out.frozen)
    | fail)
   all_goals (
    have hbv := below_store3 (below_join HBW.out HBa.out HBW.out.size) (Nat.le_refl _) (.bool s) (.slice E1 la.length j1) (.slice E2 lb.length j2)
    go_simp
    obtain ⟨E3, j3, E4, j4, -⟩ : ∃ (E3 : Option Addr) (j3 : Nat) (E4 : Option Addr) (j4 : Nat), True := ⟨none, 0, none, 0, trivial⟩
    exact only8_intro E1 j1 E2 j2 E3 j3 E4 j4 rfl ⟨row_store3 HRa.out _ _ _, ⟨_, _, rfl, ⟨natSl_storeZ HG1.out.1 HRa.out _ _ _, HG1.out.2⟩, HN1.out, ⟨natSl_storeZ HG2.out.1 HRa.out _ _ _, HG2.out.2⟩, HN2.out⟩, HE0.out.on hbv, hbv⟩)
  case k =>
    intro E1 j1 E2 j2 _ _ _ _ V ⟨hr, hc, hev, hbv⟩
    have HR1 := Lib.hid hr
    have HC := Lib.hid hc
    have HE := Lib.hid hev
    have HB := Lib.hid hbv
    clear hr hc hev hbv x0 x1 x2 HR HOWN HXC HBW HE0
    obtain ⟨x0, x1, x2⟩ := HR1.out.cells
    go_wp2_with (fail)
    go_at_call 5
    refine (c_ValidF (HC.out.fr0 (by omega) (by omega)) false hv HE.out.1).mono ?_
    rintro e w5 ⟨rfl, b5⟩
    replace HE := Lib.hid (HE.out.on b5)
    replace HB := Lib.hid (below_join HB.out b5 HB.out.size)
    clear b5 x0 x1 x2
    go_wp2_with (fail)
    go_at_call 6
    refine (read_none hl HE.out hrd).mono ?_
    rintro e w6 ⟨rfl, b6⟩
    obtain ⟨W7, hW7⟩ : ∃ W, W = w6.alloc (.cells #[.bool false, .slice none 0 0, .slice none 0 0] 25) := ⟨_, rfl⟩
    have b7 : Below w6.heap.size w6 W7 := by subst hW7; exact (Below.refl _ _).alloc (Nat.le_refl _) _
    replace HE := Lib.hid ((HE.out.on b6).on b7)
    replace HB := Lib.hid (below_join (below_join HB.out b6 HB.out.size) b7 (Nat.le_trans HB.out.size b6.size))
    clear b6 b7
    go_wp2_with (fail)
    rw [← hW7]
    clear hW7
    go_at_call 9
    refine (c_works _ HE.out).mono ?_
    rintro e wz ⟨rfl, bz⟩
    go_wp2_with (fail)
    go_ret
    exact ⟨rfl, below_join HB.out bz HB.out.size⟩
set_option maxHeartbeats 8000000 in
theorem texts_nr (s : Bool) (a b : List Nat) (x : Value) (t : ByteArray) (ht : t.size ≤ maxLen) (k : Nat) (l : List UInt8) (hk : min ((t.size : Nat) : Int) 700 = ((k : Nat) : Int)) (hkt : k ≤ t.size) (hl : l.length < 4294967281)
    (hsl : ∀ W, (Instr.slice 9 (.string t) none (some (.int .i64 (k : Int))) none).run Tryd.prog W = .ok (.string (str l)) W)
    (hv : validB s (a.take 40) (b.take 40) = false)
    (p : Rat) (hp : Sm p) (hpl : txq p = l)
    (w : World) (he : Env w) (hx : Rc w x s a b) :
    Calls Tryd.prog 3 #[x, .string t] w fun e w' => e = .returned (.bool true) ∧ Below w.heap.size w w' := by
  have HXC := Lib.hid hx
  obtain ⟨va, vb, rfl, h1, -, h2, -⟩ := hx
  obtain ⟨A1, c1, rfl, -, -⟩ := h1.nilcap
  obtain ⟨A2, c2, rfl, -, -⟩ := h2.nilcap
  have HE0 := Lib.hid he
  obtain ⟨W, hW⟩ : ∃ W, W = w.alloc (.cells #[.bool s, .slice A1 a.length c1, .slice A2 b.length c2] 25) := ⟨_, rfl⟩
  have B0 : Below w.heap.size w W := by subst hW; exact (Below.refl _ _).alloc (Nat.le_refl _) _
  have HBW := Lib.hid B0
  have hz : w.heap.size < W.heap.size := by subst hW; simp
  have HR := Lib.hid (show Rt W w.heap.size s (.slice A1 a.length c1) (.slice A2 b.length c2) by subst hW; exact rt_new' _ _ _ _)
  have HOWN := Lib.hid (fun (X : World) (hX : Below w.heap.size w X) => c_own (HXC.out.on hX))
  have htk : (t.size : Int) ≤ 9223372036854775807 := by unfold maxLen at ht; omega
  clear B0 h1 h2 he
  skip
  skip
  go_enter Tryd.func3, Tryd.ntmps3
  go_wp2_with (fail)
  rw [← hW]
  clear hW
  obtain ⟨x0, x1, x2⟩ := HR.out.cells
  obtain ⟨la, hla⟩ : ∃ la, la = a.take 40 := ⟨_, rfl⟩
  obtain ⟨lb, hlb⟩ : ∃ lb, lb = b.take 40 := ⟨_, rfl⟩
  have hla40 : la.length ≤ 40 := by subst hla; simp; omega
  have hlb40 : lb.length ≤ 40 := by subst hlb; simp; omega
  rw [← hla, ← hlb] at HOWN
  rw [← hla, ← hlb] at hv
  skip
  clear hla hlb
  skip
  skip
  apply wp_only8 (fun E1 j1 E2 j2 E3 j3 E4 j4 V => Rt V w.heap.size s (.slice E1 la.length j1) (.slice E2 lb.length j2) ∧ Rc V (.agg #[.bool s, .slice E1 la.length j1, .slice E2 lb.length j2]) s la lb ∧ Env V ∧ Below w.heap.size w V)
  case h =>
   go_region_with (first
    | (go_at_call 4; (with_reducible refine (HOWN.out _ HBW.out.drew).mono ?_); rintro e wa ⟨ra, rfl, ⟨v1, v2, rfl, ga1, gn1, ga2, gn2⟩, hba0⟩; obtain ⟨E1, j1, rfl, -, -⟩ := ga1.nilcap; obtain ⟨E2, j2, rfl, -, -⟩ := ga2.nilcap; have hba := Below.undrew hba0; have HBa := Lib.hid hba; have HG1 := Lib.hid ga1; have HG2 := Lib.hid ga2; have HN1 := Lib.hid gn1; have HN2 := Lib.hid gn2; have HRa := Lib.hid (HR.out.on hba hz); clear ga1 ga2 gn1 gn2 hba hba0; obtain ⟨y0, y1, y2⟩ := HRa.out.cells; obtain ⟨f0, f1, f2⟩ := HRa.out.frozen)
    | fail)
   all_goals (
    have hbv := below_store3 (below_join HBW.out HBa.out HBW.out.size) (Nat.le_refl _) (.bool s) (.slice E1 la.length j1) (.slice E2 lb.length j2)
    go_simp
    obtain ⟨E3, j3, E4, j4, -⟩ : ∃ (E3 : Option Addr) (j3 : Nat) (E4 : Option Addr) (j4 : Nat), True := ⟨none, 0, none, 0, trivial⟩
    exact only8_intro E1 j1 E2 j2 E3 j3 E4 j4 rfl ⟨row_store3 HRa.out _ _ _, ⟨_, _, rfl, ⟨natSl_storeZ HG1.out.1 HRa.out _ _ _, HG1.out.2⟩, HN1.out, ⟨natSl_storeZ HG2.out.1 HRa.out _ _ _, HG2.out.2⟩, HN2.out⟩, HE0.out.on hbv, hbv⟩)
  case k =>
    intro E1 j1 E2 j2 _ _ _ _ V ⟨hr, hc, hev, hbv⟩
    have HR1 := Lib.hid hr
    have HC := Lib.hid hc
    have HE := Lib.hid hev
    have HB := Lib.hid hbv
    clear hr hc hev hbv x0 x1 x2 HR HOWN HXC HBW HE0
    obtain ⟨x0, x1, x2⟩ := HR1.out.cells
    go_wp2_with (fail)
    go_at_call 5
    refine (c_ValidF (HC.out.fr0 (by omega) (by omega)) false hv HE.out.1).mono ?_
    rintro e w5 ⟨rfl, b5⟩
    replace HE := Lib.hid (HE.out.on b5)
    replace HB := Lib.hid (below_join HB.out b5 HB.out.size)
    clear b5 x0 x1 x2
    go_wp2_with (fail)
    go_at_call 6
    refine (read_some hl HE.out hp hpl).mono ?_
    rintro e w6 ⟨v6, rfl, hv6, b6⟩
    obtain ⟨E5, j5, E6, j6, rfl⟩ := hv6.open
    have HV6 := Lib.hid hv6
    replace HE := Lib.hid (HE.out.on b6)
    replace HB := Lib.hid (below_join HB.out b6 HB.out.size)
    clear b6 hv6
    obtain ⟨W7, hW7⟩ : ∃ W, W = w6.alloc (.cells #[.bool (qneg p), .slice E5 (nat p.num.natAbs).length j5, .slice E6 (nat p.den).length j6] 25) := ⟨_, rfl⟩
    have b7 : Below w6.heap.size w6 W7 := by subst hW7; exact (Below.refl _ _).alloc (Nat.le_refl _) _
    have HQ7 := Lib.hid (show Rt W7 w6.heap.size (qneg p) (.slice E5 (nat p.num.natAbs).length j5) (.slice E6 (nat p.den).length j6) by subst hW7; exact rt_new' _ _ _ _)
    go_wp2_with (fail)
    rw [← hW7]
    clear hW7
    replace HV6 := Lib.hid (HV6.out.on b7)
    replace HE := Lib.hid (HE.out.on b7)
    replace HB := Lib.hid (below_join HB.out b7 HB.out.size)
    clear b7
    go_at_call 7
    have HTX := Lib.hid (v_Text HE.out HV6.out)
    rw [hpl] at HTX
    refine HTX.out.mono ?_
    rintro e w8 ⟨rfl, b8⟩
    replace HQ7 := Lib.hid (HQ7.out.on b8 HQ7.out.lt)
    replace HV6 := Lib.hid (HV6.out.on b8)
    replace HE := Lib.hid (HE.out.on b8)
    replace HB := Lib.hid (below_join HB.out b8 HB.out.size)
    clear b8 HTX
    obtain ⟨y0, y1, y2⟩ := HQ7.out.cells
    go_wp2_with (fail)
    go_at_call 5
    refine (v_Valid HE.out HV6.out).mono ?_
    rintro e w9 ⟨rfl, b9⟩
    replace HE := Lib.hid (HE.out.on b9)
    replace HB := Lib.hid (below_join HB.out b9 HB.out.size)
    clear b9 y0 y1 y2
    go_wp2_with (fail)
    go_at_call 9
    refine (c_works _ HE.out).mono ?_
    rintro e wz ⟨rfl, bz⟩
    go_wp2_with (fail)
    go_ret
    exact ⟨rfl, below_join HB.out bz HB.out.size⟩
set_option maxHeartbeats 8000000 in
theorem texts_ve (s : Bool) (a b : List Nat) (x : Value) (t : ByteArray) (ht : t.size ≤ maxLen) (k : Nat) (l : List UInt8) (hk : min ((t.size : Nat) : Int) 700 = ((k : Nat) : Int)) (hkt : k ≤ t.size) (hl : l.length < 4294967281)
    (hsl : ∀ W, (Instr.slice 9 (.string t) none (some (.int .i64 (k : Int))) none).run Tryd.prog W = .ok (.string (str l)) W)
    (q : Rat) (hq : Sm q) (e1 : s = qneg q) (e2 : a.take 40 = nat q.num.natAbs) (e3 : b.take 40 = nat q.den)
    (hrd : readP l = none)
    (w : World) (he : Env w) (hx : Rc w x s a b) :
    Calls Tryd.prog 3 #[x, .string t] w fun e w' => e = .returned (.bool true) ∧ Below w.heap.size w w' := by
  have HXC := Lib.hid hx
  obtain ⟨va, vb, rfl, h1, -, h2, -⟩ := hx
  obtain ⟨A1, c1, rfl, -, -⟩ := h1.nilcap
  obtain ⟨A2, c2, rfl, -, -⟩ := h2.nilcap
  have HE0 := Lib.hid he
  obtain ⟨W, hW⟩ : ∃ W, W = w.alloc (.cells #[.bool s, .slice A1 a.length c1, .slice A2 b.length c2] 25) := ⟨_, rfl⟩
  have B0 : Below w.heap.size w W := by subst hW; exact (Below.refl _ _).alloc (Nat.le_refl _) _
  have HBW := Lib.hid B0
  have hz : w.heap.size < W.heap.size := by subst hW; simp
  have HR := Lib.hid (show Rt W w.heap.size s (.slice A1 a.length c1) (.slice A2 b.length c2) by subst hW; exact rt_new' _ _ _ _)
  have HOWN := Lib.hid (fun (X : World) (hX : Below w.heap.size w X) => c_own (HXC.out.on hX))
  have htk : (t.size : Int) ≤ 9223372036854775807 := by unfold maxLen at ht; omega
  clear B0 h1 h2 he
  have E1 := Lib.hid e1
  clear e1
  go_enter Tryd.func3, Tryd.ntmps3
  go_wp2_with (fail)
  rw [← hW]
  clear hW
  obtain ⟨x0, x1, x2⟩ := HR.out.cells
  obtain ⟨la, hla⟩ : ∃ la, la = a.take 40 := ⟨_, rfl⟩
  obtain ⟨lb, hlb⟩ : ∃ lb, lb = b.take 40 := ⟨_, rfl⟩
  have hla40 : la.length ≤ 40 := by subst hla; simp; omega
  have hlb40 : lb.length ≤ 40 := by subst hlb; simp; omega
  rw [← hla, ← hlb] at HOWN
  rw [← hla] at e2
  rw [← hlb] at e3
  clear hla hlb
  have E123 := Lib.hid (And.intro E1.out (And.intro e2 e3))
  clear e2 e3
  apply wp_only8 (fun E1 j1 E2 j2 E3 j3 E4 j4 V => Rt V w.heap.size s (.slice E1 la.length j1) (.slice E2 lb.length j2) ∧ Rc V (.agg #[.bool s, .slice E1 la.length j1, .slice E2 lb.length j2]) s la lb ∧ Env V ∧ Below w.heap.size w V)
  case h =>
   go_region_with (first
    | (go_at_call 4; (with_reducible refine (HOWN.out _ HBW.out.drew).mono ?_); rintro e wa ⟨ra, rfl, ⟨v1, v2, rfl, ga1, gn1, ga2, gn2⟩, hba0⟩; obtain ⟨E1, j1, rfl, -, -⟩ := ga1.nilcap; obtain ⟨E2, j2, rfl, -, -⟩ := ga2.nilcap; have hba := Below.undrew hba0; have HBa := Lib.hid hba; have HG1 := Lib.hid ga1; have HG2 := Lib.hid ga2; have HN1 := Lib.hid gn1; have HN2 := Lib.hid gn2; have HRa := Lib.hid (HR.out.on hba hz); clear ga1 ga2 gn1 gn2 hba hba0; obtain ⟨y0, y1, y2⟩ := HRa.out.cells; obtain ⟨f0, f1, f2⟩ := HRa.out.frozen)
    | fail)
   all_goals (
    have hbv := below_store3 (below_join HBW.out HBa.out HBW.out.size) (Nat.le_refl _) (.bool s) (.slice E1 la.length j1) (.slice E2 lb.length j2)
    go_simp
    obtain ⟨E3, j3, E4, j4, -⟩ : ∃ (E3 : Option Addr) (j3 : Nat) (E4 : Option Addr) (j4 : Nat), True := ⟨none, 0, none, 0, trivial⟩
    exact only8_intro E1 j1 E2 j2 E3 j3 E4 j4 rfl ⟨row_store3 HRa.out _ _ _, ⟨_, _, rfl, ⟨natSl_storeZ HG1.out.1 HRa.out _ _ _, HG1.out.2⟩, HN1.out, ⟨natSl_storeZ HG2.out.1 HRa.out _ _ _, HG2.out.2⟩, HN2.out⟩, HE0.out.on hbv, hbv⟩)
  case k =>
    intro E1 j1 E2 j2 _ _ _ _ V ⟨hr, hc, hev, hbv⟩
    have HR1 := Lib.hid hr
    have HC := Lib.hid hc
    have HE := Lib.hid hev
    have HB := Lib.hid hbv
    clear hr hc hev hbv x0 x1 x2 HR HOWN HXC HBW HE0
    obtain ⟨x0, x1, x2⟩ := HR1.out.cells
    go_wp2_with (fail)
    go_at_call 5
    have HV0 := Lib.hid (HC.out.rv hq E123.out.1 E123.out.2.1 E123.out.2.2)
    refine (v_Valid HE.out HV0.out).mono ?_
    rintro e w1 ⟨rfl, b1⟩
    replace HR1 := Lib.hid (HR1.out.on b1 HR1.out.lt)
    replace HV0 := Lib.hid (HV0.out.on b1)
    replace HE := Lib.hid (HE.out.on b1)
    replace HB := Lib.hid (below_join HB.out b1 HB.out.size)
    clear b1 x0 x1 x2 HC
    obtain ⟨x0, x1, x2⟩ := HR1.out.cells
    go_wp2_with (fail)
    go_at_call 7
    refine (v_Text HE.out HV0.out).mono ?_
    rintro e w2 ⟨rfl, b2⟩
    replace HR1 := Lib.hid (HR1.out.on b2 HR1.out.lt)
    replace HV0 := Lib.hid (HV0.out.on b2)
    replace HE := Lib.hid (HE.out.on b2)
    replace HB := Lib.hid (below_join HB.out b2 HB.out.size)
    clear b2 x0 x1 x2
    go_wp2_with (fail)
    go_at_call 6
    refine (v_Read hq HE.out (txq_short hq)).mono ?_
    rintro e w3 ⟨v3, rfl, hv3, b3⟩
    obtain ⟨E3, j3, E4, j4, rfl⟩ := hv3.open
    have HV3 := Lib.hid hv3
    replace HR1 := Lib.hid (HR1.out.on b3 HR1.out.lt)
    replace HV0 := Lib.hid (HV0.out.on b3)
    replace HE := Lib.hid (HE.out.on b3)
    replace HB := Lib.hid (below_join HB.out b3 HB.out.size)
    clear b3 hv3
    obtain ⟨W4, hW4⟩ : ∃ W, W = w3.alloc (.cells #[.bool (qneg q), .slice E3 (nat q.num.natAbs).length j3, .slice E4 (nat q.den).length j4] 25) := ⟨_, rfl⟩
    have b4 : Below w3.heap.size w3 W4 := by subst hW4; exact (Below.refl _ _).alloc (Nat.le_refl _) _
    have z0 : ∀ o, (w3.alloc o).cell? ⟨w.heap.size, 0, none⟩ = some (.bool s) := fun o => (HR1.out.on ((Below.refl _ _).alloc (Nat.le_refl _) o) HR1.out.lt).cells.1
    have z1 : ∀ o, (w3.alloc o).cell? ⟨w.heap.size, 1, none⟩ = some (.slice E1 la.length j1) := fun o => (HR1.out.on ((Below.refl _ _).alloc (Nat.le_refl _) o) HR1.out.lt).cells.2.1
    have z2 : ∀ o, (w3.alloc o).cell? ⟨w.heap.size, 2, none⟩ = some (.slice E2 lb.length j2) := fun o => (HR1.out.on ((Below.refl _ _).alloc (Nat.le_refl _) o) HR1.out.lt).cells.2.2
    go_wp2_with (fail)
    rw [← hW4]
    clear hW4 z0 z1 z2
    replace HV3 := Lib.hid (HV3.out.on b4)
    replace HR1 := Lib.hid (HR1.out.on b4 HR1.out.lt)
    replace HV0 := Lib.hid (HV0.out.on b4)
    replace HE := Lib.hid (HE.out.on b4)
    replace HB := Lib.hid (below_join HB.out b4 HB.out.size)
    clear b4
    go_at_call 8
    refine (c_equal HV3.out HV0.out).mono ?_
    rintro e w5 ⟨rfl, b5⟩
    replace HE := Lib.hid (HE.out.on b5)
    replace HB := Lib.hid (below_join HB.out b5 HB.out.size)
    clear b5
    go_wp2_with (fail)
    go_at_call 6
    refine (read_none hl HE.out hrd).mono ?_
    rintro e w6 ⟨rfl, b6⟩
    obtain ⟨W7, hW7⟩ : ∃ W, W = w6.alloc (.cells #[.bool false, .slice none 0 0, .slice none 0 0] 25) := ⟨_, rfl⟩
    have b7 : Below w6.heap.size w6 W7 := by subst hW7; exact (Below.refl _ _).alloc (Nat.le_refl _) _
    replace HE := Lib.hid ((HE.out.on b6).on b7)
    replace HB := Lib.hid (below_join (below_join HB.out b6 HB.out.size) b7 (Nat.le_trans HB.out.size b6.size))
    clear b6 b7
    go_wp2_with (fail)
    rw [← hW7]
    clear hW7
    go_at_call 9
    refine (c_works _ HE.out).mono ?_
    rintro e wz ⟨rfl, bz⟩
    go_wp2_with (fail)
    go_ret
    exact ⟨rfl, below_join HB.out bz HB.out.size⟩
set_option maxHeartbeats 8000000 in
theorem texts_vr (s : Bool) (a b : List Nat) (x : Value) (t : ByteArray) (ht : t.size ≤ maxLen) (k : Nat) (l : List UInt8) (hk : min ((t.size : Nat) : Int) 700 = ((k : Nat) : Int)) (hkt : k ≤ t.size) (hl : l.length < 4294967281)
    (hsl : ∀ W, (Instr.slice 9 (.string t) none (some (.int .i64 (k : Int))) none).run Tryd.prog W = .ok (.string (str l)) W)
    (q : Rat) (hq : Sm q) (e1 : s = qneg q) (e2 : a.take 40 = nat q.num.natAbs) (e3 : b.take 40 = nat q.den)
    (p : Rat) (hp : Sm p) (hpl : txq p = l)
    (w : World) (he : Env w) (hx : Rc w x s a b) :
    Calls Tryd.prog 3 #[x, .string t] w fun e w' => e = .returned (.bool true) ∧ Below w.heap.size w w' := by
  have HXC := Lib.hid hx
  obtain ⟨va, vb, rfl, h1, -, h2, -⟩ := hx
  obtain ⟨A1, c1, rfl, -, -⟩ := h1.nilcap
  obtain ⟨A2, c2, rfl, -, -⟩ := h2.nilcap
  have HE0 := Lib.hid he
  obtain ⟨W, hW⟩ : ∃ W, W = w.alloc (.cells #[.bool s, .slice A1 a.length c1, .slice A2 b.length c2] 25) := ⟨_, rfl⟩
  have B0 : Below w.heap.size w W := by subst hW; exact (Below.refl _ _).alloc (Nat.le_refl _) _
  have HBW := Lib.hid B0
  have hz : w.heap.size < W.heap.size := by subst hW; simp
  have HR := Lib.hid (show Rt W w.heap.size s (.slice A1 a.length c1) (.slice A2 b.length c2) by subst hW; exact rt_new' _ _ _ _)
  have HOWN := Lib.hid (fun (X : World) (hX : Below w.heap.size w X) => c_own (HXC.out.on hX))
  have htk : (t.size : Int) ≤ 9223372036854775807 := by unfold maxLen at ht; omega
  clear B0 h1 h2 he
  have E1 := Lib.hid e1
  clear e1
  go_enter Tryd.func3, Tryd.ntmps3
  go_wp2_with (fail)
  rw [← hW]
  clear hW
  obtain ⟨x0, x1, x2⟩ := HR.out.cells
  obtain ⟨la, hla⟩ : ∃ la, la = a.take 40 := ⟨_, rfl⟩
  obtain ⟨lb, hlb⟩ : ∃ lb, lb = b.take 40 := ⟨_, rfl⟩
  have hla40 : la.length ≤ 40 := by subst hla; simp; omega
  have hlb40 : lb.length ≤ 40 := by subst hlb; simp; omega
  rw [← hla, ← hlb] at HOWN
  rw [← hla] at e2
  rw [← hlb] at e3
  clear hla hlb
  have E123 := Lib.hid (And.intro E1.out (And.intro e2 e3))
  clear e2 e3
  apply wp_only8 (fun E1 j1 E2 j2 E3 j3 E4 j4 V => Rt V w.heap.size s (.slice E1 la.length j1) (.slice E2 lb.length j2) ∧ Rc V (.agg #[.bool s, .slice E1 la.length j1, .slice E2 lb.length j2]) s la lb ∧ Env V ∧ Below w.heap.size w V)
  case h =>
   go_region_with (first
    | (go_at_call 4; (with_reducible refine (HOWN.out _ HBW.out.drew).mono ?_); rintro e wa ⟨ra, rfl, ⟨v1, v2, rfl, ga1, gn1, ga2, gn2⟩, hba0⟩; obtain ⟨E1, j1, rfl, -, -⟩ := ga1.nilcap; obtain ⟨E2, j2, rfl, -, -⟩ := ga2.nilcap; have hba := Below.undrew hba0; have HBa := Lib.hid hba; have HG1 := Lib.hid ga1; have HG2 := Lib.hid ga2; have HN1 := Lib.hid gn1; have HN2 := Lib.hid gn2; have HRa := Lib.hid (HR.out.on hba hz); clear ga1 ga2 gn1 gn2 hba hba0; obtain ⟨y0, y1, y2⟩ := HRa.out.cells; obtain ⟨f0, f1, f2⟩ := HRa.out.frozen)
    | fail)
   all_goals (
    have hbv := below_store3 (below_join HBW.out HBa.out HBW.out.size) (Nat.le_refl _) (.bool s) (.slice E1 la.length j1) (.slice E2 lb.length j2)
    go_simp
    obtain ⟨E3, j3, E4, j4, -⟩ : ∃ (E3 : Option Addr) (j3 : Nat) (E4 : Option Addr) (j4 : Nat), True := ⟨none, 0, none, 0, trivial⟩
    exact only8_intro E1 j1 E2 j2 E3 j3 E4 j4 rfl ⟨row_store3 HRa.out _ _ _, ⟨_, _, rfl, ⟨natSl_storeZ HG1.out.1 HRa.out _ _ _, HG1.out.2⟩, HN1.out, ⟨natSl_storeZ HG2.out.1 HRa.out _ _ _, HG2.out.2⟩, HN2.out⟩, HE0.out.on hbv, hbv⟩)
  case k =>
    intro E1 j1 E2 j2 _ _ _ _ V ⟨hr, hc, hev, hbv⟩
    have HR1 := Lib.hid hr
    have HC := Lib.hid hc
    have HE := Lib.hid hev
    have HB := Lib.hid hbv
    clear hr hc hev hbv x0 x1 x2 HR HOWN HXC HBW HE0
    obtain ⟨x0, x1, x2⟩ := HR1.out.cells
    go_wp2_with (fail)
    go_at_call 5
    have HV0 := Lib.hid (HC.out.rv hq E123.out.1 E123.out.2.1 E123.out.2.2)
    refine (v_Valid HE.out HV0.out).mono ?_
    rintro e w1 ⟨rfl, b1⟩
    replace HR1 := Lib.hid (HR1.out.on b1 HR1.out.lt)
    replace HV0 := Lib.hid (HV0.out.on b1)
    replace HE := Lib.hid (HE.out.on b1)
    replace HB := Lib.hid (below_join HB.out b1 HB.out.size)
    clear b1 x0 x1 x2 HC
    obtain ⟨x0, x1, x2⟩ := HR1.out.cells
    go_wp2_with (fail)
    go_at_call 7
    refine (v_Text HE.out HV0.out).mono ?_
    rintro e w2 ⟨rfl, b2⟩
    replace HR1 := Lib.hid (HR1.out.on b2 HR1.out.lt)
    replace HV0 := Lib.hid (HV0.out.on b2)
    replace HE := Lib.hid (HE.out.on b2)
    replace HB := Lib.hid (below_join HB.out b2 HB.out.size)
    clear b2 x0 x1 x2
    go_wp2_with (fail)
    go_at_call 6
    refine (v_Read hq HE.out (txq_short hq)).mono ?_
    rintro e w3 ⟨v3, rfl, hv3, b3⟩
    obtain ⟨E3, j3, E4, j4, rfl⟩ := hv3.open
    have HV3 := Lib.hid hv3
    replace HR1 := Lib.hid (HR1.out.on b3 HR1.out.lt)
    replace HV0 := Lib.hid (HV0.out.on b3)
    replace HE := Lib.hid (HE.out.on b3)
    replace HB := Lib.hid (below_join HB.out b3 HB.out.size)
    clear b3 hv3
    obtain ⟨W4, hW4⟩ : ∃ W, W = w3.alloc (.cells #[.bool (qneg q), .slice E3 (nat q.num.natAbs).length j3, .slice E4 (nat q.den).length j4] 25) := ⟨_, rfl⟩
    have b4 : Below w3.heap.size w3 W4 := by subst hW4; exact (Below.refl _ _).alloc (Nat.le_refl _) _
    have z0 : ∀ o, (w3.alloc o).cell? ⟨w.heap.size, 0, none⟩ = some (.bool s) := fun o => (HR1.out.on ((Below.refl _ _).alloc (Nat.le_refl _) o) HR1.out.lt).cells.1
    have z1 : ∀ o, (w3.alloc o).cell? ⟨w.heap.size, 1, none⟩ = some (.slice E1 la.length j1) := fun o => (HR1.out.on ((Below.refl _ _).alloc (Nat.le_refl _) o) HR1.out.lt).cells.2.1
    have z2 : ∀ o, (w3.alloc o).cell? ⟨w.heap.size, 2, none⟩ = some (.slice E2 lb.length j2) := fun o => (HR1.out.on ((Below.refl _ _).alloc (Nat.le_refl _) o) HR1.out.lt).cells.2.2
    go_wp2_with (fail)
    rw [← hW4]
    clear hW4 z0 z1 z2
    replace HV3 := Lib.hid (HV3.out.on b4)
    replace HR1 := Lib.hid (HR1.out.on b4 HR1.out.lt)
    replace HV0 := Lib.hid (HV0.out.on b4)
    replace HE := Lib.hid (HE.out.on b4)
    replace HB := Lib.hid (below_join HB.out b4 HB.out.size)
    clear b4
    go_at_call 8
    refine (c_equal HV3.out HV0.out).mono ?_
    rintro e w5 ⟨rfl, b5⟩
    replace HE := Lib.hid (HE.out.on b5)
    replace HB := Lib.hid (below_join HB.out b5 HB.out.size)
    clear b5
    go_wp2_with (fail)
    go_at_call 6
    refine (read_some hl HE.out hp hpl).mono ?_
    rintro e w6 ⟨v6, rfl, hv6, b6⟩
    obtain ⟨E5, j5, E6, j6, rfl⟩ := hv6.open
    have HV6 := Lib.hid hv6
    replace HE := Lib.hid (HE.out.on b6)
    replace HB := Lib.hid (below_join HB.out b6 HB.out.size)
    clear b6 hv6
    obtain ⟨W7, hW7⟩ : ∃ W, W = w6.alloc (.cells #[.bool (qneg p), .slice E5 (nat p.num.natAbs).length j5, .slice E6 (nat p.den).length j6] 25) := ⟨_, rfl⟩
    have b7 : Below w6.heap.size w6 W7 := by subst hW7; exact (Below.refl _ _).alloc (Nat.le_refl _) _
    have HQ7 := Lib.hid (show Rt W7 w6.heap.size (qneg p) (.slice E5 (nat p.num.natAbs).length j5) (.slice E6 (nat p.den).length j6) by subst hW7; exact rt_new' _ _ _ _)
    go_wp2_with (fail)
    rw [← hW7]
    clear hW7
    replace HV6 := Lib.hid (HV6.out.on b7)
    replace HE := Lib.hid (HE.out.on b7)
    replace HB := Lib.hid (below_join HB.out b7 HB.out.size)
    clear b7
    go_at_call 7
    have HTX := Lib.hid (v_Text HE.out HV6.out)
    rw [hpl] at HTX
    refine HTX.out.mono ?_
    rintro e w8 ⟨rfl, b8⟩
    replace HQ7 := Lib.hid (HQ7.out.on b8 HQ7.out.lt)
    replace HV6 := Lib.hid (HV6.out.on b8)
    replace HE := Lib.hid (HE.out.on b8)
    replace HB := Lib.hid (below_join HB.out b8 HB.out.size)
    clear b8 HTX
    obtain ⟨y0, y1, y2⟩ := HQ7.out.cells
    go_wp2_with (fail)
    go_at_call 5
    refine (v_Valid HE.out HV6.out).mono ?_
    rintro e w9 ⟨rfl, b9⟩
    replace HE := Lib.hid (HE.out.on b9)
    replace HB := Lib.hid (below_join HB.out b9 HB.out.size)
    clear b9 y0 y1 y2
    go_wp2_with (fail)
    go_at_call 9
    refine (c_works _ HE.out).mono ?_
    rintro e wz ⟨rfl, bz⟩
    go_wp2_with (fail)
    go_ret
    exact ⟨rfl, below_join HB.out bz HB.out.size⟩
theorem txq_len {q : Rat} (h : Sm q) : True := trivial
theorem w_RatioTexts (s : Bool) (a b : List Nat) (x : Value) (t : ByteArray) (ht : t.size ≤ maxLen) (w : World) (he : Env w) (hx : Rc w x s a b) :
    Calls Tryd.prog 3 #[x, .string t] w fun e w' => e = .returned (.bool true) ∧ Below w.heap.size w w' := by
  obtain ⟨k, l, hk, hkt, hl, hsl⟩ := cut_text t
  have hl' : l.length < 4294967281 := by omega
  have hla := lb_take hx.lb.1 40
  have hlb := lb_take hx.lb.2 40
  rcases hv : validB s (a.take 40) (b.take 40) with _ | _
  · rcases read_cases l with hr | ⟨p, hp, hpl⟩
    · exact texts_ne s a b x t ht k l hk hkt hl' hsl hv hr w he hx
    · exact texts_nr s a b x t ht k l hk hkt hl' hsl hv p hp hpl w he hx
  · obtain ⟨q, hq, e1, e2, e3⟩ := raw_valid hla hlb hv
    rcases read_cases l with hr | ⟨p, hp, hpl⟩
    · exact texts_ve s a b x t ht k l hk hkt hl' hsl q hq e1 e2 e3 hr w he hx
    · exact texts_vr s a b x t ht k l hk hkt hl' hsl q hq e1 e2 e3 p hp hpl w he hx
end Go.Proofs.YtloaepaomokaoaaDoor
