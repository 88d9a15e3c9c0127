/-
  DERIVED. own: a fraction of its own, cut to 40 limbs. (Written by gen/genUF.py.)
-/
import Derived.Test.YtfdkdloldjfnjaaGreatDoorUS
import Derived.Test.YtfdkdloldjfnjaaGreatDoorYUAm
import Derived.Laws.AppendOwnNone
import Derived.Deep.RegionHeld3
set_option linter.unusedVariables false
set_option linter.unusedSimpArgs false
namespace Go.Proofs.YtfdkdloldjfnjaaGreatDoor
open Go.RowKit
set_option maxRecDepth 100000

theorem own_nc {w : World} {base n : Nat} {v : Value} {l : List Value} (h : w.ownsRow base 51 1 v n l) : Nc v := by
  intro n' c' e
  obtain ⟨-, ⟨rfl, -⟩ | ⟨g, cap, cur, rfl, -⟩⟩ := h
  · injection e with _ _ e; exact e.symm
  · cases e
/-- Limbs are appended to nil: a copy. -/
theorem step_copyNat {w : World} {ops : Array Oper} {o : Oper} {a : Act} {K : Act → World → Prop} {Q : Exit → Act → World → Prop} {E : Prop} (hg : o.guard = none) (s x : Operand) (ho : o.op = .call { callee := .builtin .append, args := #[s, x], argTypes := #[23, 23] })
    (hs : a.eval s = .slice none 0 0) (A : Option Addr) (m c : Nat) (hx : a.eval x = .slice A m c) (hA : A = none → m = 0 ∧ c = 0) (l : List Nat) (hl : l.length = m) (hm : m ≤ 100000)
    (hc : ∀ ad, A = some ad → ∀ (j : Nat) (u : Value), (u32s l)[j]? = some u → w.cell? (ad.add j) = some u) (base : Nat) (hbase : base ≤ w.heap.size)
    (h : ∀ v' w', NatSl w' (fun i => base ≤ i ∧ i < w'.heap.size) v' l → Nc v' → Below w.heap.size w w' → K (a.put o.dst v') w') :
    if Region.wanted o (yielded ops a.tmps) = true then Oper.wp Tryz.prog o a w K Q else E := by
  have hw : Region.wanted o (yielded ops a.tmps) = true := by simp [Region.wanted, hg]
  rw [if_pos hw]
  obtain ⟨i0, hi0, hz0, hz1, hz2⟩ := info_parts u32_info
  cases A with
  | none =>
    obtain ⟨rfl, rfl⟩ := hA rfl
    have : l = [] := List.eq_nil_of_length_eq_zero hl
    subst this
    have hrun := run_append_owned_none (P := Tryz.prog) (w := w) base 23 o.type 51 i0 1 Tryz.underlying23 hi0 (.slice none 0 0) 0 [] (World.ownsRow_nil _ _ _ _)
    unfold Oper.wp
    simp [execOp, ho, resolve, invoke, builtin, hs, hx, hrun, Result.andThen]
    exact h _ _ (NatSl.nil _ _) (fun _ _ e => by injection e with _ _ e; exact e.symm) (Below.refl _ _)
  | some ad =>
    refine wp_append_own w s x 23 ho base 51 i0 (.int .u32 0) 1 4 Tryz.underlying23 hi0 hz0 hz1 hz2 rfl (by omega) _ 0 [] hs (World.ownsRow_nil _ _ _ _) ad m c (u32s l) hx (by simp [u32s, hl]) (hc ad rfl) ?_ (by unfold maxLen; omega) (by omega) hbase ?_
    · intro u hu
      obtain ⟨y, -, rfl⟩ := List.mem_map.1 hu
      rfl
    · intro v' w' h1 h2 _
      rw [Nat.zero_add, List.nil_append] at h1
      exact h v' w' (own_natSl h1 hl) (own_nc h1) ((Below.refl _ w).grown h2 (Nat.le_refl _) (fun k hk => by cases hk))
theorem Ls.takeCells {w W : World} {A : Option Addr} {n c k : Nat} {l : List Nat} (h : Ls w (.slice A n c) l) (hb : Below w.heap.size w W) (ad : Addr) (hA : A = some ad) (j : Nat) (u : Value) (hj : (u32s (l.take k))[j]? = some u) : W.cell? (ad.add j) = some u := by
  obtain ⟨B, d, h1, h2, h3, h4⟩ := h.1
  injection h1 with e1 e2 e3
  subst e1 hA
  rw [u32s_get] at hj
  obtain ⟨x, hx, rfl⟩ := Option.map_eq_some_iff.1 hj
  have hlt := (List.getElem?_eq_some_iff.1 hx).1
  rw [List.length_take] at hlt
  obtain ⟨b, o, h5, h6, h7⟩ := h4 (by omega)
  injection h5 with h5
  subst h5
  rw [List.getElem?_take_of_lt (by omega)] at hx
  have e : (⟨b, o, none⟩ : Addr).add j = ⟨b, o + j, none⟩ := by unfold Addr.add; split <;> simp_all
  rw [e]
  exact (hb.cell (p := ⟨b, o + j, none⟩) h6).trans (h7 j x hx)
theorem take_len (l : List Nat) (k : Nat) (h : k ≤ l.length) : (l.take k).length = k := by simp; omega
def OwnPost (s : Bool) (a b : List Nat) (w : World) (e : Ending) (w' : World) : Prop := ∃ v1 v2, e = .returned (.agg #[.bool s, v1, v2]) ∧ Ls w' v1 (a.take 40) ∧ Nc v1 ∧ Ls w' v2 (b.take 40) ∧ Nc v2 ∧ Below w.heap.size w w'
theorem take_min (l : List Nat) : l.take (min l.length 40) = l.take 40 := by
  rcases Nat.lt_or_ge l.length 40 with h | h
  · rw [Nat.min_eq_left (by omega), List.take_of_length_le (Nat.le_refl _), List.take_of_length_le (by omega)]
  · rw [Nat.min_eq_right h]
theorem ls_nil_len {w : World} {l : List Nat} (h : Ls w (.slice none 0 0) l) : l.length = 0 := by
  obtain ⟨A, c, h1, -⟩ := h.1
  injection h1 with _ h1
  exact h1.symm
theorem cut40 (n : Nat) : ∃ k, min ((n : Nat) : Int) 40 = ((k : Nat) : Int) ∧ k = min n 40 := ⟨min n 40, by omega, rfl⟩
theorem below_cellv {w W : World} {p : Addr} {v : Value} (h : w.cell? p = some v) (hb : Below w.heap.size w W) (hp : p.block < w.heap.size) : W.cell? p = some v := (hb.cell hp).trans h

set_option maxHeartbeats 4000000 in
theorem c_own_ss (s : Bool) (a b : List Nat) (a1 : Addr) (ca : Nat) (a2 : Addr) (cb : Nat) (w : World) (ha : Ls w (.slice (some a1) a.length ca) a) (hb : Ls w (.slice (some a2) b.length cb) b) (hca : a.length ≤ ca) (hcm : ca ≤ maxLen) (hcb : b.length ≤ cb) (hcn : cb ≤ maxLen) :
    Calls Tryz.prog 12 #[.agg #[.bool s, .slice (some a1) a.length ca, .slice (some a2) b.length cb]] w (OwnPost s a b w) := by
  obtain ⟨W, hW⟩ : ∃ W, W = (w.alloc (.cells #[.bool s, .slice (some a1) a.length ca, .slice (some a2) b.length cb] 25)).alloc (.cells #[.bool false, .slice none 0 0, .slice none 0 0] 25) := ⟨_, rfl⟩
  have B0 : Below w.heap.size w W := by subst hW; exact below_two _ _ _
  have hz : w.heap.size + 1 < W.heap.size := by subst hW; simp
  have hz1 : w.heap.size < W.heap.size := by omega
  have HX := Lib.hid (show Rt W w.heap.size s (.slice (some a1) a.length ca) (.slice (some a2) b.length cb) by subst hW; exact two_new _ _ _ _ _)
  have HR := Lib.hid (show Res3 (w.heap.size + 1) W from ⟨_, _, _, by subst hW; exact resz_two _ _⟩)
  have HB := Lib.hid B0
  have HA1 := Lib.hid ha
  have HB1 := Lib.hid hb
  clear B0 ha hb
  obtain ⟨ka, hka, hkk⟩ := cut40 a.length
  have hka1 : ka ≤ a.length := by omega
  have hka2 : ka ≤ 40 := by omega
  have HKA := Lib.hid hkk
  clear hkk
  have hka3 : ka ≤ ca := by omega
  obtain ⟨kb, hkb, hkl⟩ := cut40 b.length
  have hkb1 : kb ≤ b.length := by omega
  have hkb2 : kb ≤ 40 := by omega
  have HKB := Lib.hid hkl
  clear hkl
  have hkb3 : kb ≤ cb := by omega
  go_enter Tryz.func12, Tryz.ntmps12
  go_wp2_with (fail)
  rw [← hW]
  clear hW
  go_region_held3 (fun X => X.cell? ⟨w.heap.size, 0, none⟩ = some (.bool s) ∧ X.cell? ⟨w.heap.size, 1, none⟩ = some (.slice (some a1) a.length ca) ∧ X.cell? ⟨w.heap.size, 2, none⟩ = some (.slice (some a2) b.length cb))
    (first | exact HXb.out.cells | exact ⟨cell_store3 HXb.out.cells.1 (by omega) _ _ _, cell_store3 HXb.out.cells.2.1 (by omega) _ _ _, cell_store3 HXb.out.cells.2.2 (by omega) _ _ _⟩ | exact HXa.out.cells | exact HX.out.cells)
    (first
      | (refine step_copyNat (by rfl) (.tmp 7) (.tmp 14) (by rfl) (by rfl) (some a1) ka ca (by rfl) (fun h => by cases h) (a.take ka) (take_len a ka (by omega)) (by omega) (HA1.out.takeCells (w := w) HB.out.drew) W.heap.size (Nat.le_refl _) ?_; rintro va ya hna hca' nba; obtain ⟨E1, j1, rfl⟩ := hna.shape; have hba := Below.undrew nba; have HNa := Lib.hid hna; have HCa := Lib.hid hca'; have HXa := Lib.hid (HX.out.on hba hz1); have HRa := Lib.hid (HR.out.on hba hz); have HBa := Lib.hid (below_join HB.out hba HB.out.size); have hza := hba.size; clear hna hca' nba hba)
      | (refine step_copyNat (by rfl) (.tmp 16) (.tmp 23) (by rfl) (by rfl) (some a2) kb cb (by rfl) (fun h => by cases h) (b.take kb) (take_len b kb (by omega)) (by omega) (HB1.out.takeCells (w := w) HBa.out) W.heap.size hza ?_; rintro vb yb hnb hcb' nbb; obtain ⟨E2, j2, rfl⟩ := hnb.shape; have HNb := Lib.hid hnb; have HCb := Lib.hid hcb'; have HNa2 := Lib.hid (natSl_on HNa.out nbb); have HXb := Lib.hid (HXa.out.on nbb (Nat.lt_of_lt_of_le hz1 hza)); have HRb := HRa.out.on nbb (Nat.lt_of_lt_of_le hz hza); have HBb := Lib.hid (below_join HBa.out nbb HBa.out.size); have hzb := nbb.size; clear hnb hcb' nbb; obtain ⟨z0, z1, z2, hres⟩ := HRb; obtain ⟨e0, e1, e2⟩ := three_cells hres; obtain ⟨f0, f1, f2⟩ := three_frozen hres; have HRES := Lib.hid hres; clear hres)
      | fail)
  go_wp2_with (fail)
  all_goals (
    have eA : a.take ka = a.take 40 := by (rw [HKA.out]; exact take_min a)
    have eB : b.take kb = b.take 40 := by (rw [HKB.out]; exact take_min b)
    have g1 := HNa2.out
    have g2 := HNb.out
    have c1 := HCa.out
    have c2 := HCb.out
    rw [take_len a ka (by omega)] at g1 c1
    rw [take_len b kb (by omega)] at g2 c2
    rw [eA] at g1
    rw [eB] at g2
    refine ret3 (b := w.heap.size + 1) rfl rfl rfl (row_store3 HRES.out _ _ _) ⟨_, _, rfl, ⟨natSl_store3 g1 (by omega) _ _ _, lb_take HA1.out.2 _⟩, c1, ⟨natSl_store3 g2 (by omega) _ _ _, lb_take HB1.out.2 _⟩, c2, below_store3 HBb.out (by omega) _ _ _⟩)
set_option maxHeartbeats 4000000 in
theorem c_own_ns (s : Bool) (a b : List Nat) (a2 : Addr) (cb : Nat) (w : World) (ha : Ls w (.slice none 0 0) a) (hb : Ls w (.slice (some a2) b.length cb) b) (hcb : b.length ≤ cb) (hcn : cb ≤ maxLen) :
    Calls Tryz.prog 12 #[.agg #[.bool s, .slice none 0 0, .slice (some a2) b.length cb]] w (OwnPost s a b w) := by
  obtain ⟨W, hW⟩ : ∃ W, W = (w.alloc (.cells #[.bool s, .slice none 0 0, .slice (some a2) b.length cb] 25)).alloc (.cells #[.bool false, .slice none 0 0, .slice none 0 0] 25) := ⟨_, rfl⟩
  have B0 : Below w.heap.size w W := by subst hW; exact below_two _ _ _
  have hz : w.heap.size + 1 < W.heap.size := by subst hW; simp
  have hz1 : w.heap.size < W.heap.size := by omega
  have HX := Lib.hid (show Rt W w.heap.size s (.slice none 0 0) (.slice (some a2) b.length cb) by subst hW; exact two_new _ _ _ _ _)
  have HR := Lib.hid (show Res3 (w.heap.size + 1) W from ⟨_, _, _, by subst hW; exact resz_two _ _⟩)
  have HB := Lib.hid B0
  have HA1 := Lib.hid ha
  have HB1 := Lib.hid hb
  have ha0 : a.length = 0 := ls_nil_len ha
  clear B0 ha hb
  have hm0 : min (0 : Int) 40 = 0 := by decide
  obtain ⟨kb, hkb, hkl⟩ := cut40 b.length
  have hkb1 : kb ≤ b.length := by omega
  have hkb2 : kb ≤ 40 := by omega
  have HKB := Lib.hid hkl
  clear hkl
  have hkb3 : kb ≤ cb := by omega
  go_enter Tryz.func12, Tryz.ntmps12
  go_wp2_with (fail)
  rw [← hW]
  clear hW
  go_region_held3 (fun X => X.cell? ⟨w.heap.size, 0, none⟩ = some (.bool s) ∧ X.cell? ⟨w.heap.size, 1, none⟩ = some (.slice none 0 0) ∧ X.cell? ⟨w.heap.size, 2, none⟩ = some (.slice (some a2) b.length cb))
    (first | exact HXb.out.cells | exact ⟨cell_store3 HXb.out.cells.1 (by omega) _ _ _, cell_store3 HXb.out.cells.2.1 (by omega) _ _ _, cell_store3 HXb.out.cells.2.2 (by omega) _ _ _⟩ | exact HXa.out.cells | exact HX.out.cells)
    (first
      | (refine step_copyNat (by rfl) (.tmp 7) (.tmp 14) (by rfl) (by rfl) none 0 0 (by rfl) (fun _ => ⟨rfl, rfl⟩) (a.take 0) (take_len a 0 (by simp)) (by omega) (HA1.out.takeCells (w := w) HB.out.drew) W.heap.size (Nat.le_refl _) ?_; rintro va ya hna hca' nba; obtain ⟨E1, j1, rfl⟩ := hna.shape; have hba := Below.undrew nba; have HNa := Lib.hid hna; have HCa := Lib.hid hca'; have HXa := Lib.hid (HX.out.on hba hz1); have HRa := Lib.hid (HR.out.on hba hz); have HBa := Lib.hid (below_join HB.out hba HB.out.size); have hza := hba.size; clear hna hca' nba hba)
      | (refine step_copyNat (by rfl) (.tmp 16) (.tmp 23) (by rfl) (by rfl) (some a2) kb cb (by rfl) (fun h => by cases h) (b.take kb) (take_len b kb (by omega)) (by omega) (HB1.out.takeCells (w := w) HBa.out) W.heap.size hza ?_; rintro vb yb hnb hcb' nbb; obtain ⟨E2, j2, rfl⟩ := hnb.shape; have HNb := Lib.hid hnb; have HCb := Lib.hid hcb'; have HNa2 := Lib.hid (natSl_on HNa.out nbb); have HXb := Lib.hid (HXa.out.on nbb (Nat.lt_of_lt_of_le hz1 hza)); have HRb := HRa.out.on nbb (Nat.lt_of_lt_of_le hz hza); have HBb := Lib.hid (below_join HBa.out nbb HBa.out.size); have hzb := nbb.size; clear hnb hcb' nbb; obtain ⟨z0, z1, z2, hres⟩ := HRb; obtain ⟨e0, e1, e2⟩ := three_cells hres; obtain ⟨f0, f1, f2⟩ := three_frozen hres; have HRES := Lib.hid hres; clear hres)
      | fail)
  go_wp2_with (fail)
  all_goals (
    have eA : a.take 0 = a.take 40 := by (have h0 : a = [] := List.eq_nil_of_length_eq_zero (by have := ha0; omega)); rw [h0]; rfl
    have eB : b.take kb = b.take 40 := by (rw [HKB.out]; exact take_min b)
    have g1 := HNa2.out
    have g2 := HNb.out
    have c1 := HCa.out
    have c2 := HCb.out
    rw [take_len a 0 (by simp)] at g1 c1
    rw [take_len b kb (by omega)] at g2 c2
    rw [eA] at g1
    rw [eB] at g2
    refine ret3 (b := w.heap.size + 1) rfl rfl rfl (row_store3 HRES.out _ _ _) ⟨_, _, rfl, ⟨natSl_store3 g1 (by omega) _ _ _, lb_take HA1.out.2 _⟩, c1, ⟨natSl_store3 g2 (by omega) _ _ _, lb_take HB1.out.2 _⟩, c2, below_store3 HBb.out (by omega) _ _ _⟩)
set_option maxHeartbeats 4000000 in
theorem c_own_sn (s : Bool) (a b : List Nat) (a1 : Addr) (ca : Nat) (w : World) (ha : Ls w (.slice (some a1) a.length ca) a) (hb : Ls w (.slice none 0 0) b) (hca : a.length ≤ ca) (hcm : ca ≤ maxLen) :
    Calls Tryz.prog 12 #[.agg #[.bool s, .slice (some a1) a.length ca, .slice none 0 0]] w (OwnPost s a b w) := by
  obtain ⟨W, hW⟩ : ∃ W, W = (w.alloc (.cells #[.bool s, .slice (some a1) a.length ca, .slice none 0 0] 25)).alloc (.cells #[.bool false, .slice none 0 0, .slice none 0 0] 25) := ⟨_, rfl⟩
  have B0 : Below w.heap.size w W := by subst hW; exact below_two _ _ _
  have hz : w.heap.size + 1 < W.heap.size := by subst hW; simp
  have hz1 : w.heap.size < W.heap.size := by omega
  have HX := Lib.hid (show Rt W w.heap.size s (.slice (some a1) a.length ca) (.slice none 0 0) by subst hW; exact two_new _ _ _ _ _)
  have HR := Lib.hid (show Res3 (w.heap.size + 1) W from ⟨_, _, _, by subst hW; exact resz_two _ _⟩)
  have HB := Lib.hid B0
  have HA1 := Lib.hid ha
  have HB1 := Lib.hid hb
  have hb0 : b.length = 0 := ls_nil_len hb
  clear B0 ha hb
  have hm0 : min (0 : Int) 40 = 0 := by decide
  obtain ⟨ka, hka, hkk⟩ := cut40 a.length
  have hka1 : ka ≤ a.length := by omega
  have hka2 : ka ≤ 40 := by omega
  have HKA := Lib.hid hkk
  clear hkk
  have hka3 : ka ≤ ca := by omega
  go_enter Tryz.func12, Tryz.ntmps12
  go_wp2_with (fail)
  rw [← hW]
  clear hW
  go_region_held3 (fun X => X.cell? ⟨w.heap.size, 0, none⟩ = some (.bool s) ∧ X.cell? ⟨w.heap.size, 1, none⟩ = some (.slice (some a1) a.length ca) ∧ X.cell? ⟨w.heap.size, 2, none⟩ = some (.slice none 0 0))
    (first | exact HXb.out.cells | exact ⟨cell_store3 HXb.out.cells.1 (by omega) _ _ _, cell_store3 HXb.out.cells.2.1 (by omega) _ _ _, cell_store3 HXb.out.cells.2.2 (by omega) _ _ _⟩ | exact HXa.out.cells | exact HX.out.cells)
    (first
      | (refine step_copyNat (by rfl) (.tmp 7) (.tmp 14) (by rfl) (by rfl) (some a1) ka ca (by rfl) (fun h => by cases h) (a.take ka) (take_len a ka (by omega)) (by omega) (HA1.out.takeCells (w := w) HB.out.drew) W.heap.size (Nat.le_refl _) ?_; rintro va ya hna hca' nba; obtain ⟨E1, j1, rfl⟩ := hna.shape; have hba := Below.undrew nba; have HNa := Lib.hid hna; have HCa := Lib.hid hca'; have HXa := Lib.hid (HX.out.on hba hz1); have HRa := Lib.hid (HR.out.on hba hz); have HBa := Lib.hid (below_join HB.out hba HB.out.size); have hza := hba.size; clear hna hca' nba hba)
      | (refine step_copyNat (by rfl) (.tmp 16) (.tmp 23) (by rfl) (by rfl) none 0 0 (by rfl) (fun _ => ⟨rfl, rfl⟩) (b.take 0) (take_len b 0 (by simp)) (by omega) (HB1.out.takeCells (w := w) HBa.out) W.heap.size hza ?_; rintro vb yb hnb hcb' nbb; obtain ⟨E2, j2, rfl⟩ := hnb.shape; have HNb := Lib.hid hnb; have HCb := Lib.hid hcb'; have HNa2 := Lib.hid (natSl_on HNa.out nbb); have HXb := Lib.hid (HXa.out.on nbb (Nat.lt_of_lt_of_le hz1 hza)); have HRb := HRa.out.on nbb (Nat.lt_of_lt_of_le hz hza); have HBb := Lib.hid (below_join HBa.out nbb HBa.out.size); have hzb := nbb.size; clear hnb hcb' nbb; obtain ⟨z0, z1, z2, hres⟩ := HRb; obtain ⟨e0, e1, e2⟩ := three_cells hres; obtain ⟨f0, f1, f2⟩ := three_frozen hres; have HRES := Lib.hid hres; clear hres)
      | fail)
  go_wp2_with (fail)
  all_goals (
    have eA : a.take ka = a.take 40 := by (rw [HKA.out]; exact take_min a)
    have eB : b.take 0 = b.take 40 := by (have h0 : b = [] := List.eq_nil_of_length_eq_zero (by have := hb0; omega)); rw [h0]; rfl
    have g1 := HNa2.out
    have g2 := HNb.out
    have c1 := HCa.out
    have c2 := HCb.out
    rw [take_len a ka (by omega)] at g1 c1
    rw [take_len b 0 (by simp)] at g2 c2
    rw [eA] at g1
    rw [eB] at g2
    refine ret3 (b := w.heap.size + 1) rfl rfl rfl (row_store3 HRES.out _ _ _) ⟨_, _, rfl, ⟨natSl_store3 g1 (by omega) _ _ _, lb_take HA1.out.2 _⟩, c1, ⟨natSl_store3 g2 (by omega) _ _ _, lb_take HB1.out.2 _⟩, c2, below_store3 HBb.out (by omega) _ _ _⟩)
set_option maxHeartbeats 4000000 in
theorem c_own_nn (s : Bool) (a b : List Nat) (w : World) (ha : Ls w (.slice none 0 0) a) (hb : Ls w (.slice none 0 0) b)  :
    Calls Tryz.prog 12 #[.agg #[.bool s, .slice none 0 0, .slice none 0 0]] w (OwnPost s a b w) := by
  obtain ⟨W, hW⟩ : ∃ W, W = (w.alloc (.cells #[.bool s, .slice none 0 0, .slice none 0 0] 25)).alloc (.cells #[.bool false, .slice none 0 0, .slice none 0 0] 25) := ⟨_, rfl⟩
  have B0 : Below w.heap.size w W := by subst hW; exact below_two _ _ _
  have hz : w.heap.size + 1 < W.heap.size := by subst hW; simp
  have hz1 : w.heap.size < W.heap.size := by omega
  have HX := Lib.hid (show Rt W w.heap.size s (.slice none 0 0) (.slice none 0 0) by subst hW; exact two_new _ _ _ _ _)
  have HR := Lib.hid (show Res3 (w.heap.size + 1) W from ⟨_, _, _, by subst hW; exact resz_two _ _⟩)
  have HB := Lib.hid B0
  have HA1 := Lib.hid ha
  have HB1 := Lib.hid hb
  have ha0 : a.length = 0 := ls_nil_len ha
  have hb0 : b.length = 0 := ls_nil_len hb
  clear B0 ha hb
  have hm0 : min (0 : Int) 40 = 0 := by decide
  skip
  go_enter Tryz.func12, Tryz.ntmps12
  go_wp2_with (fail)
  rw [← hW]
  clear hW
  go_region_held3 (fun X => X.cell? ⟨w.heap.size, 0, none⟩ = some (.bool s) ∧ X.cell? ⟨w.heap.size, 1, none⟩ = some (.slice none 0 0) ∧ X.cell? ⟨w.heap.size, 2, none⟩ = some (.slice none 0 0))
    (first | exact HXb.out.cells | exact ⟨cell_store3 HXb.out.cells.1 (by omega) _ _ _, cell_store3 HXb.out.cells.2.1 (by omega) _ _ _, cell_store3 HXb.out.cells.2.2 (by omega) _ _ _⟩ | exact HXa.out.cells | exact HX.out.cells)
    (first
      | (refine step_copyNat (by rfl) (.tmp 7) (.tmp 14) (by rfl) (by rfl) none 0 0 (by rfl) (fun _ => ⟨rfl, rfl⟩) (a.take 0) (take_len a 0 (by simp)) (by omega) (HA1.out.takeCells (w := w) HB.out.drew) W.heap.size (Nat.le_refl _) ?_; rintro va ya hna hca' nba; obtain ⟨E1, j1, rfl⟩ := hna.shape; have hba := Below.undrew nba; have HNa := Lib.hid hna; have HCa := Lib.hid hca'; have HXa := Lib.hid (HX.out.on hba hz1); have HRa := Lib.hid (HR.out.on hba hz); have HBa := Lib.hid (below_join HB.out hba HB.out.size); have hza := hba.size; clear hna hca' nba hba)
      | (refine step_copyNat (by rfl) (.tmp 16) (.tmp 23) (by rfl) (by rfl) none 0 0 (by rfl) (fun _ => ⟨rfl, rfl⟩) (b.take 0) (take_len b 0 (by simp)) (by omega) (HB1.out.takeCells (w := w) HBa.out) W.heap.size hza ?_; rintro vb yb hnb hcb' nbb; obtain ⟨E2, j2, rfl⟩ := hnb.shape; have HNb := Lib.hid hnb; have HCb := Lib.hid hcb'; have HNa2 := Lib.hid (natSl_on HNa.out nbb); have HXb := Lib.hid (HXa.out.on nbb (Nat.lt_of_lt_of_le hz1 hza)); have HRb := HRa.out.on nbb (Nat.lt_of_lt_of_le hz hza); have HBb := Lib.hid (below_join HBa.out nbb HBa.out.size); have hzb := nbb.size; clear hnb hcb' nbb; obtain ⟨z0, z1, z2, hres⟩ := HRb; obtain ⟨e0, e1, e2⟩ := three_cells hres; obtain ⟨f0, f1, f2⟩ := three_frozen hres; have HRES := Lib.hid hres; clear hres)
      | fail)
  go_wp2_with (fail)
  all_goals (
    have eA : a.take 0 = a.take 40 := by (have h0 : a = [] := List.eq_nil_of_length_eq_zero (by have := ha0; omega)); rw [h0]; rfl
    have eB : b.take 0 = b.take 40 := by (have h0 : b = [] := List.eq_nil_of_length_eq_zero (by have := hb0; omega)); rw [h0]; rfl
    have g1 := HNa2.out
    have g2 := HNb.out
    have c1 := HCa.out
    have c2 := HCb.out
    rw [take_len a 0 (by simp)] at g1 c1
    rw [take_len b 0 (by simp)] at g2 c2
    rw [eA] at g1
    rw [eB] at g2
    refine ret3 (b := w.heap.size + 1) rfl rfl rfl (row_store3 HRES.out _ _ _) ⟨_, _, rfl, ⟨natSl_store3 g1 (by omega) _ _ _, lb_take HA1.out.2 _⟩, c1, ⟨natSl_store3 g2 (by omega) _ _ _, lb_take HB1.out.2 _⟩, c2, below_store3 HBb.out (by omega) _ _ _⟩)
theorem c_own {s : Bool} {a b : List Nat} {v : Value} {w : World} (h : Rc w v s a b) : Calls Tryz.prog 12 #[v] w fun e w' => ∃ r, e = .returned r ∧ Rc w' r s (a.take 40) (b.take 40) ∧ Below w.heap.size w w' := by
  obtain ⟨va, vb, rfl, h1, h2, h3, h4⟩ := h
  obtain ⟨A, ca, rfl, k1, k2⟩ := h1.nilcap
  obtain ⟨B, cb, rfl, k3, k4⟩ := h3.nilcap
  have fin : ∀ {e : Ending} {w' : World}, OwnPost s a b w e w' → ∃ r, e = .returned r ∧ Rc w' r s (a.take 40) (b.take 40) ∧ Below w.heap.size w w' := by
    rintro e w' ⟨v1, v2, he, g1, g2, g3, g4, g5⟩
    exact ⟨_, he, ⟨v1, v2, rfl, g1, g2, g3, g4⟩, g5⟩
  cases A with
  | none =>
    obtain rfl := h2 _ _ rfl
    have e1 : a.length = 0 := by omega
    rw [e1] at h1 ⊢
    cases B with
    | none =>
      obtain rfl := h4 _ _ rfl
      have e2 : b.length = 0 := by omega
      rw [e2] at h3 ⊢
      exact (c_own_nn s a b w h1 h3).mono fun _ _ h => fin h
    | some a2 => exact (c_own_ns s a b a2 cb w h1 h3 k3 k4).mono fun _ _ h => fin h
  | some a1 =>
    cases B with
    | none =>
      obtain rfl := h4 _ _ rfl
      have e2 : b.length = 0 := by omega
      rw [e2] at h3 ⊢
      exact (c_own_sn s a b a1 ca w h1 h3 k1 k2).mono fun _ _ h => fin h
    | some a2 => exact (c_own_ss s a b a1 ca a2 cb w h1 h3 k1 k2 k3 k4).mono fun _ _ h => fin h
end Go.Proofs.YtfdkdloldjfnjaaGreatDoor
