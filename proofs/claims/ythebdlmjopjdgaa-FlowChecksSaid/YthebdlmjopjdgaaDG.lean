/-
  DERIVED. From a row's claim to the walks: nets and lists of numbers that come in (stage 5).
-/
import Derived.Test.YthebdlmjopjdgaaDF
import Derived.Test.YthebdlmjopjdgaaCD
namespace Go.Proofs.Ythebdlmjopjdgaa
open Go.ChangeShapes Go.WideShapes Go.Deep Go.RowKit
set_option maxRecDepth 100000
set_option linter.unusedSimpArgs false
set_option linter.unusedVariables false

theorem cells_it : Try.prog.cellsOf 3 = 1 := by kernel_rfl
theorem cells_ac : Try.prog.cellsOf 39 = 3 := by kernel_rfl
theorem cells_as : Try.prog.cellsOf 22 = 1 := by kernel_rfl
theorem cells_nt : Try.prog.cellsOf 24 = 2 := by kernel_rfl
section
variable {H : Type} {enc : TypeId × Value → H} {W : World} {base : Nat} {spare : Nat → Bool} {held : Bool} {r : Go.Reach} {b0 : Nat} {v : Value} {d : DataW H} {p : List MemPlace}
theorem open_is {fuel : Nat} {x : DataW H × List MemPlace} (hf : DataW.trod enc Try.prog W base spare held fuel 25 [v] = some x) : ∃ l, IntSl W v l := by
  rcases open_ints Try.underlying25 Try.underlying3 (by kernel_rfl) hf with ⟨h0, -⟩ | ⟨a, len, cap, zs, hcs, hb, hl, hm, hz, -, hc, hwf⟩
  · simp at h0
    subst h0
    exact ⟨[], IntSl.nil W⟩
  · simp at hcs
    subst hcs
    have hlz : len ≤ zs.length := by rw [hz]; split <;> omega
    have hlen : (zs.take len).length = len := by simp; omega
    refine ⟨zs.take len, some a, cap, by rw [hlen], by rw [hlen]; exact hl, hm, (by intro h; cases h), fun h0 => ?_⟩
    rw [hlen] at h0
    have hc0 := hc 0 (by omega)
    obtain ⟨b, off, rfl, hlt⟩ := add_spot hc0
    refine ⟨b, off, rfl, hlt, fun j x hj => ?_⟩
    have hjl : j < len := by
      have := (List.getElem?_eq_some_iff.1 hj).1
      omega
    rw [List.getElem?_take_of_lt hjl] at hj
    have h1 := hc j (by omega)
    rw [plain_add, List.getD_eq_getElem?_getD, hj] at h1
    exact h1
theorem open_one64 {fuel : Nat} {x : DataW H × List MemPlace} {u : Value} (hf : DataW.trod enc Try.prog W base spare held fuel 3 [u] = some x) : ∃ n : Int, u = .int .i64 n := by
  obtain ⟨n, g, -, -⟩ := DataW.trod_int Try.underlying3 hf
  simp at g
  exact ⟨n, g⟩
theorem open_arcs {fuel : Nat} {x : DataW H × List MemPlace} (hf : DataW.trod enc Try.prog W base spare held fuel 22 [v] = some x) : ∃ ps, PtSl W v ps ∧ ∀ m c, v = .slice none m c → c = 0 := by
  rcases open_slice Try.underlying22 hf with ⟨h0, _⟩ | ⟨a, len, cap, m, n, D, Pl, hcs, hb, hl, hm, hmm, hx, hi⟩
  · simp at h0
    subst h0
    exact ⟨[], ⟨none, 0, rfl, Nat.le_refl _, Nat.zero_le _, fun h => absurd h (Nat.lt_irrefl _)⟩, fun m c h => by injection h with h1 h2 h3; exact h3.symm⟩
  · simp at hcs
    subst hcs
    have hel : ∀ i, i < len → ∃ y : Int × Int × Int, W.cell? (a.add (i * 3)) = some (.int .i64 y.1) ∧ W.cell? (a.add (i * 3 + 1)) = some (.int .i64 y.2.1) ∧ W.cell? (a.add (i * 3 + 2)) = some (.int .i64 y.2.2) := by
      intro i him
      obtain ⟨cs', hc, ht'⟩ := hi i (by rw [hmm]; split <;> omega)
      rw [cells_ac] at hc
      obtain ⟨_, hcl, hat⟩ := World.cells?_some hc
      obtain ⟨xs, k, -, -, -, hxl, hg⟩ := DataW.trod_struct Try.underlying39 ht'
      have hxl' : xs.length = 3 := hxl
      have g0 : DataW.trod enc Try.prog W base spare held k 3 ((cs'.drop 0).take (Try.prog.cellsOf 3)) = xs[0]? := hg 0 _ rfl
      have g1 : DataW.trod enc Try.prog W base spare held k 3 ((cs'.drop 1).take (Try.prog.cellsOf 3)) = xs[1]? := hg 1 _ rfl
      have g2 : DataW.trod enc Try.prog W base spare held k 3 ((cs'.drop 2).take (Try.prog.cellsOf 3)) = xs[2]? := hg 2 _ rfl
      rw [List.getElem?_eq_getElem (by omega)] at g0 g1 g2
      rw [cells_it] at g0 g1 g2
      match cs', hcl with
      | [c0, c1, c2], _ =>
        obtain ⟨p0, rfl⟩ := open_one64 (u := c0) g0
        obtain ⟨p1, rfl⟩ := open_one64 (u := c1) g1
        obtain ⟨p2, rfl⟩ := open_one64 (u := c2) g2
        have e0 := hat 0 (by omega)
        have e1 := hat 1 (by omega)
        have e2 := hat 2 (by omega)
        rw [Go.Deep.add_add] at e0 e1 e2
        exact ⟨(p0, p1, p2), by simpa using e0, by simpa using e1, by simpa using e2⟩
    obtain ⟨F, hF⟩ := choose_lt hel
    refine ⟨(List.range len).map F, ⟨some a, cap, by simp, by simpa using hl, hm, fun h0 => ?_⟩, fun m c h => by cases h⟩
    have h0' : 0 < len := by simpa using h0
    obtain ⟨b, off, rfl, hlt⟩ := add_spot (hF 0 h0').1
    refine ⟨b, off, rfl, hlt, fun j q hj => ?_⟩
    have hjl : j < len := by have := (List.getElem?_eq_some_iff.1 hj).1; simpa using this
    rw [List.getElem?_map, List.getElem?_range hjl] at hj
    injection hj with hj
    subst hj
    obtain ⟨e0, e1, e2⟩ := hF j hjl
    rw [plain_add] at e0 e1 e2
    exact ⟨e0, e1, e2⟩
theorem open_ints_ (h : DataW.Trod enc Try.prog W base spare held 25 v d p) (hv : Value.okWide Try.prog W r b0 25 v) : ∃ l, IntSl W v l := by
  obtain ⟨a0, len0, cap0, rfl⟩ := okWide_slice Try.underlying25 hv
  obtain ⟨fuel, hf⟩ := h
  exact open_is (by simpa [Value.cells] using hf)
theorem open_int_ (h : DataW.Trod enc Try.prog W base spare held 3 v d p) (hv : Value.okWide Try.prog W r b0 3 v) : ∃ n : Int, v = .int .i64 n := by
  obtain ⟨m, rfl⟩ := okWide_int Try.underlying3 hv
  obtain ⟨fuel, hf⟩ := h
  obtain ⟨n, g, -, hw⟩ := DataW.trod_int Try.underlying3 (by simpa [Value.cells] using hf)
  simp at g
  subst g
  exact ⟨_, rfl⟩
theorem open_net (h : DataW.Trod enc Try.prog W base spare held 24 v d p) (hv : Value.okWide Try.prog W r b0 24 v) : ∃ (N : Int) (L : Value) (l : List (Int × Int × Int)), v = ntV N L ∧ PtSl W L l := by
  obtain ⟨⟨l⟩, rfl, hsz⟩ := okWide_struct Try.underlying24 hv
  obtain ⟨fuel, hf⟩ := h
  obtain ⟨xs, k, -, -, -, hl, hg⟩ := DataW.trod_struct Try.underlying24 hf
  have hlen : l.length = 2 := hsz.trans cells_nt
  have hxl : xs.length = 2 := hl
  have g0 : DataW.trod enc Try.prog W base spare held k 3 ((l.drop 0).take (Try.prog.cellsOf 3)) = xs[0]? := hg 0 _ rfl
  have g1 : DataW.trod enc Try.prog W base spare held k 22 ((l.drop 1).take (Try.prog.cellsOf 22)) = xs[1]? := hg 1 _ rfl
  rw [List.getElem?_eq_getElem (by omega)] at g0 g1
  rw [cells_it] at g0
  rw [cells_as] at g1
  match l, hlen with
  | [c0, c1], _ =>
    obtain ⟨N, rfl⟩ := open_one64 (u := c0) g0
    obtain ⟨ps, hps, -⟩ := open_arcs (v := c1) g1
    exact ⟨N, c1, ps, rfl, hps⟩
end
end Go.Proofs.Ythebdlmjopjdgaa
