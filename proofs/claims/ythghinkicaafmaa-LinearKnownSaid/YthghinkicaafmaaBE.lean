/-
  DERIVED. The law LinearClosed: plain facts and the start (stage 6).
-/
import Derived.Test.YthghinkicaafmaaBD
namespace Go.Proofs.Ythghinkicaafmaa
open Go.RowKit
set_option maxRecDepth 100000

theorem own_ptSl {w : World} {base : Nat} {v : Value} {l : List (Int × Int × Int)} (h : w.ownsRow base 41 3 v l.length (cellsP l)) : PtSl w v l := by
  have hc := h
  obtain ⟨k1, ⟨e, e2⟩ | ⟨g, cap, cur, e, k3, k4, k5, k6, k7, k8⟩⟩ := h
  · subst e
    obtain rfl : l = [] := List.eq_nil_of_length_eq_zero e2
    exact ⟨none, 0, rfl, Nat.le_refl _, Nat.zero_le _, fun h => absurd h (Nat.lt_irrefl _)⟩
  · subst e
    refine ⟨some ⟨g, 0, none⟩, cap, rfl, k5, k6, fun _ => ⟨g, 0, rfl, (Array.getElem?_eq_some_iff.1 k4).1, fun j x hj => ?_⟩⟩
    have hj' := (List.getElem?_eq_some_iff.1 hj).1
    obtain ⟨c1, c2, c3⟩ := cellsP_get l j x hj
    rw [Nat.zero_add]
    exact ⟨(hc.cellAt (j * 3) (by omega)).trans c1, (hc.cellAt (j * 3 + 1) (by omega)).trans c2, (hc.cellAt (j * 3 + 2) (by omega)).trans c3⟩
theorem MdO.pt {w w' : World} {l : List (Int × Int × Int)} {la lb : List Int} {P I : Value} (h : MdO w w' l la lb P I) : PtSl w' P l := by
  obtain ⟨m1, m2, b, u1, u2, -, -, -, -, h5, -⟩ := h.own
  exact own_ptSl h5
theorem MdO.li {w w' : World} {l : List (Int × Int × Int)} {la lb : List Int} {P I : Value} (h : MdO w w' l la lb P I) : LiSl w' I [la, lb] := by
  obtain ⟨m1, m2, b, u1, u2, -, -, -, -, -, -, h7, -, h9, -, rfl, h12⟩ := h.own
  refine liSl_lit (us := [u1, u2]) [la, lb] h12 rfl (fun j u l hu hl => ?_) (by decide : 2 ≤ 100000)
  match j, hu, hl with
  | 0, hu, hl => simp at hu hl; subst hu hl; exact own_intSl h7
  | 1, hu, hl => simp at hu hl; subst hu hl; exact own_intSl h9
theorem ldL_ok {l : List Nat} (h : ∀ x ∈ l, x ≤ 255) : liOk (ldL l) = true := by
  unfold liOk
  rw [Bool.and_eq_true, decide_eq_true_eq, List.all_eq_true]
  refine ⟨by have := ldL_len l; omega, fun x hx => ?_⟩
  unfold ldL at hx
  obtain ⟨y, hy, rfl⟩ := List.mem_map.1 hx
  have := h y (List.mem_of_mem_take hy)
  rw [nmOk_iff]
  omega
theorem U8Sl.small {w : World} {v : Value} {l : List Nat} (h : U8Sl w v l) : ∀ x ∈ l, x ≤ 255 := by
  obtain ⟨A, c, -, -, -, -, h5, -⟩ := h
  exact h5
theorem flt_small {c s n : Int} {q0 q1 r0 r1 : Int} {la lb : List Int} (hc : 0 ≤ c ∧ c ≤ 100000000) (hs : 0 ≤ s ∧ s ≤ 100000000) (hn : 0 ≤ n ∧ n ≤ 1000) (hq : 0 ≤ q0 ∧ q0 ≤ 3 ∧ 0 ≤ q1 ∧ q1 ≤ 3) (hr : 0 ≤ r0 ∧ r0 ≤ 1000 ∧ 0 ≤ r1 ∧ r1 ≤ 1000) (h1 : liOk la = true) (h2 : liOk lb = true) :
    fltL c (mdP q0 q1 r0 r1) s [la, lb] n = 0 := by
  have hl : lnOk c (mdP q0 q1 r0 r1) = true := by
    rw [lnOk_iff]
    refine ⟨hc, (by decide : 2 ≤ 16), ?_⟩
    unfold mdP
    rw [List.all_cons, List.all_cons, List.all_nil, Bool.and_true, Bool.and_eq_true, ptOk_iff, ptOk_iff]
    simp only []
    omega
  have hi : inOk [la, lb] = true := by
    unfold inOk
    rw [Bool.and_eq_true, decide_eq_true_eq]
    exact ⟨(by decide : 2 ≤ 16), by rw [List.all_cons, List.all_cons, List.all_nil, h1, h2]; rfl⟩
  unfold fltL
  rw [if_pos hl, hi, if_pos]
  simp only [Bool.true_and, Bool.and_eq_true, decide_eq_true_eq]
  omega
theorem amts_take_succ {ps : List (Int × Int × Int)} {ins : List (List Int)} {n k : Nat} (h : k < n) : (amts ps ins n).take (k + 1) = (amts ps ins n).take k ++ [arr ps ins (k : Int)] := take_snoc (amts_get ps ins h)
theorem sfx_bnd {C M : Int} (hC : 0 ≤ C ∧ C ≤ 100000000) {l : List Int} (h : ∀ a ∈ l, 0 ≤ a ∧ a ≤ M) : 0 ≤ (sfx C l).1 ∧ (sfx C l).1 ≤ M * (l.length : Int) ∧ -100000000 * (l.length : Int) ≤ (sfx C l).2 ∧ (sfx C l).2 ≤ M * (l.length : Int) := by
  induction l with
  | nil => simp [sfx]
  | cons a l ih =>
    obtain ⟨h1, h2, h3, h4⟩ := ih (fun x hx => h x (List.mem_cons_of_mem _ hx))
    have ha := h a (by simp)
    have hM : 0 ≤ M := by omega
    rw [sfx_cons, List.length_cons, show ((l.length + 1 : Nat) : Int) = (l.length : Int) + 1 by omega, Int.mul_add, Int.mul_add, Int.mul_one]
    simp only []
    have hMl : 0 ≤ M * (l.length : Int) := Int.mul_nonneg hM (by omega)
    omega
theorem tmod_small {n m : Nat} (_hm : 0 < m) : ((n : Int).tmod (m : Int)) = ((n % m : Nat) : Int) := by
  rw [Int.tmod_eq_emod_of_nonneg (by omega)]; rfl
end Go.Proofs.Ythghinkicaafmaa
