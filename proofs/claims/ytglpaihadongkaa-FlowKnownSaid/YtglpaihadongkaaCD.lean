/-
  DERIVED. From a row's claim to the walks: small numbers and edges that come in (stage 5).
-/
import Derived.Test.YtglpaihadongkaaBZ
import Derived.Test.YtglpaihadongkaaRows
import Derived.Handed
import Derived.OpenShut
import Derived.Deep.Fields
import Derived.Deep.Slices
import Derived.ChangeSame
import Derived.ChangeSlices
namespace Go.Proofs.Ytglpaihadongkaa
open Go.ChangeShapes Go.WideShapes Go.Deep Go.RowKit
set_option maxRecDepth 100000

theorem cell_lt3 {w : World} {b o : Nat} {v : Value} (h : w.cell? ⟨b, o, none⟩ = some v) : b < w.heap.size := by
  unfold World.cell? at h
  cases hb : w.heap[b]? with
  | none => simp [hb] at h
  | some ob => exact (Array.getElem?_eq_some_iff.1 hb).1
section
variable {H : Type} {enc : TypeId × Value → H} {W : World} {base : Nat} {spare : Nat → Bool} {held : Bool} {r : Go.Reach} {b0 : Nat} {v : Value} {d : DataW H} {p : List MemPlace}
theorem u8_wf {n : Int} (h : (Lit.int .u8 n).wf = true) : ∃ m : Nat, n = (m : Int) ∧ m ≤ 255 := by
  have h2 : (decide ((0 : Int) ≤ n) && decide (n ≤ 255)) = true := h
  simp only [Bool.and_eq_true, decide_eq_true_eq] at h2
  exact ⟨n.toNat, by omega, by omega⟩
theorem open_u8 (h : DataW.Trod enc Try.prog W base spare held 5 v d p) (hv : Value.okWide Try.prog W r b0 5 v) : ∃ n : Nat, v = .int .u8 (n : Int) ∧ n ≤ 255 := by
  obtain ⟨m, rfl⟩ := okWide_int Try.underlying5 hv
  obtain ⟨fuel, hf⟩ := h
  obtain ⟨n, g, -, hw⟩ := DataW.trod_int Try.underlying5 (by simpa [Value.cells] using hf)
  simp at g
  subst g
  obtain ⟨a, rfl, ha⟩ := u8_wf hw
  exact ⟨a, rfl, ha⟩
theorem u16_wf {n : Int} (h : (Lit.int .u16 n).wf = true) : ∃ m : Nat, n = (m : Int) ∧ m ≤ 65535 := by
  have h2 : (decide ((0 : Int) ≤ n) && decide (n ≤ 65535)) = true := h
  simp only [Bool.and_eq_true, decide_eq_true_eq] at h2
  exact ⟨n.toNat, by omega, by omega⟩
theorem open_u16 (h : DataW.Trod enc Try.prog W base spare held 45 v d p) (hv : Value.okWide Try.prog W r b0 45 v) : ∃ n : Nat, v = .int .u16 (n : Int) ∧ n ≤ 65535 := by
  obtain ⟨m, rfl⟩ := okWide_int Try.underlying45 hv
  obtain ⟨fuel, hf⟩ := h
  obtain ⟨n, g, -, hw⟩ := DataW.trod_int Try.underlying45 (by simpa [Value.cells] using hf)
  simp at g
  subst g
  obtain ⟨a, rfl, ha⟩ := u16_wf hw
  exact ⟨a, rfl, ha⟩
theorem cells_u8 : Try.prog.cellsOf 5 = 1 := by kernel_rfl
theorem cells_ed : Try.prog.cellsOf 76 = 3 := by kernel_rfl
theorem open_one {fuel : Nat} {x : DataW H × List MemPlace} {u : Value} (hf : DataW.trod enc Try.prog W base spare held fuel 5 [u] = some x) : ∃ n : Nat, u = .int .u8 (n : Int) ∧ n ≤ 255 := by
  obtain ⟨n, g, -, hw⟩ := DataW.trod_int Try.underlying5 hf
  simp at g
  subst g
  obtain ⟨a, rfl, ha⟩ := u8_wf hw
  exact ⟨a, rfl, ha⟩
theorem plain_add (b o j : Nat) : (⟨b, o, none⟩ : Addr).add j = ⟨b, o + j, none⟩ := by unfold Addr.add; split <;> simp_all
theorem add_spot {w : World} {a : Addr} {v : Value} (h : w.cell? (a.add 0) = some v) : ∃ b o, a = ⟨b, o, none⟩ ∧ b < w.heap.size := by
  obtain ⟨b, off, spot⟩ := a
  have hsp : spot = none := by simpa [Addr.add] using World.cell?_spot h
  subst hsp
  rw [plain_add] at h
  exact ⟨b, off, rfl, cell_lt3 h⟩
theorem open_eds (h : DataW.Trod enc Try.prog W base spare held 44 v d p) (hv : Value.okWide Try.prog W r b0 44 v) : ∃ ps, EdSl W v ps := by
  obtain ⟨a0, len0, cap0, rfl⟩ := okWide_slice Try.underlying44 hv
  obtain ⟨fuel, hf⟩ := h
  rcases open_slice Try.underlying44 (by simpa [Value.cells] using hf) with ⟨h0, _⟩ | ⟨a, len, cap, m, n, D, Pl, hcs, hb, hl, hm, hmm, hx, hi⟩
  · simp at h0
    obtain ⟨rfl, rfl, rfl⟩ := h0
    exact ⟨[], none, 0, rfl, Nat.le_refl _, Nat.zero_le _, fun x hx => absurd hx List.not_mem_nil, fun h => absurd h (Nat.lt_irrefl _)⟩
  · simp at hcs
    obtain ⟨rfl, rfl, rfl⟩ := hcs
    have hel : ∀ i, i < len0 → ∃ y : Nat × Nat × Nat, (y.1 ≤ 255 ∧ y.2.1 ≤ 255 ∧ y.2.2 ≤ 255) ∧ W.cell? (a.add (i * 3)) = some (.int .u8 (y.1 : Int)) ∧ W.cell? (a.add (i * 3 + 1)) = some (.int .u8 (y.2.1 : Int)) ∧ W.cell? (a.add (i * 3 + 2)) = some (.int .u8 (y.2.2 : Int)) := by
      intro i him
      obtain ⟨cs', hc, ht'⟩ := hi i (by rw [hmm]; split <;> omega)
      rw [cells_ed] at hc
      obtain ⟨_, hcl, hat⟩ := World.cells?_some hc
      obtain ⟨xs, k, -, -, -, hxl, hg⟩ := DataW.trod_struct Try.underlying76 ht'
      have hxl' : xs.length = 3 := hxl
      have g0 : DataW.trod enc Try.prog W base spare held k 5 ((cs'.drop 0).take (Try.prog.cellsOf 5)) = xs[0]? := hg 0 _ rfl
      have g1 : DataW.trod enc Try.prog W base spare held k 5 ((cs'.drop 1).take (Try.prog.cellsOf 5)) = xs[1]? := hg 1 _ rfl
      have g2 : DataW.trod enc Try.prog W base spare held k 5 ((cs'.drop 2).take (Try.prog.cellsOf 5)) = xs[2]? := hg 2 _ rfl
      rw [List.getElem?_eq_getElem (by omega)] at g0 g1 g2
      rw [cells_u8] at g0 g1 g2
      match cs', hcl with
      | [c0, c1, c2], _ =>
        obtain ⟨p0, rfl, q0⟩ := open_one (u := c0) g0
        obtain ⟨p1, rfl, q1⟩ := open_one (u := c1) g1
        obtain ⟨p2, rfl, q2⟩ := open_one (u := c2) g2
        have e0 := hat 0 (by omega)
        have e1 := hat 1 (by omega)
        have e2 := hat 2 (by omega)
        rw [Go.Deep.add_add] at e0 e1 e2
        exact ⟨(p0, p1, p2), ⟨q0, q1, q2⟩, by simpa using e0, by simpa using e1, by simpa using e2⟩
    obtain ⟨F, hF⟩ := choose_lt hel
    refine ⟨(List.range len0).map F, some a, cap0, by simp, by simpa using hl, hm, fun q hq => ?_, fun h0 => ?_⟩
    · obtain ⟨i, hi, rfl⟩ := List.mem_map.1 hq
      exact (hF i (List.mem_range.1 hi)).1
    have h0' : 0 < len0 := by simpa using h0
    obtain ⟨b, off, rfl, hlt⟩ := add_spot (hF 0 h0').2.1
    refine ⟨b, off, rfl, hlt, fun j q hj => ?_⟩
    have hjl : j < len0 := by have := (List.getElem?_eq_some_iff.1 hj).1; simpa using this
    rw [List.getElem?_map, List.getElem?_range hjl] at hj
    injection hj with hj
    subst hj
    obtain ⟨-, e0, e1, e2⟩ := hF j hjl
    rw [plain_add] at e0 e1 e2
    exact ⟨e0, e1, e2⟩
end
end Go.Proofs.Ytglpaihadongkaa
