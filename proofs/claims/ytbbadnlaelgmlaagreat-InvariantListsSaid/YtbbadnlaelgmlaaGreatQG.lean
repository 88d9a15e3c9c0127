/-
  DERIVED. Openers of the arguments: lists of broken invariants, a kind (stage 17).
-/
import Derived.Test.YtbbadnlaelgmlaaGreatQB
import Derived.Test.YtbbadnlaelgmlaaGreatPZB1
set_option linter.unusedVariables false
set_option linter.unusedSimpArgs false
namespace Go.Proofs.YtbbadnlaelgmlaaGreat
open Go.ChangeShapes Go.WideShapes Go.Deep Go.RowKit
set_option maxRecDepth 100000
set_option linter.unusedVariables false
set_option linter.unusedSimpArgs false

theorem cells_kd : Tryz.prog.cellsOf 42 = 1 := by kernel_rfl
section
variable {H : Type} {enc : TypeId × Value → H} {W : World} {base : Nat} {spare : Nat → Bool} {held : Bool} {r : Go.Reach} {b0 : Nat} {v : Value} {d : DataW H} {p : List MemPlace}
theorem open_oneK {fuel : Nat} {x : DataW H × List MemPlace} {u : Value} (hf : DataW.trod enc Tryz.prog W base spare held fuel 42 [u] = some x) : ∃ n : Nat, u = .int .u8 (n : Int) ∧ n < 256 := by
  obtain ⟨n, g, -, hw⟩ := DataW.trod_int Tryz.underlying42 hf
  simp at g
  obtain ⟨m, rfl, hm⟩ := u8_wf hw
  exact ⟨m, g, hm⟩
theorem open_kind (h : DataW.Trod enc Tryz.prog W base spare held 42 v d p) (hv : Value.okWide Tryz.prog W r b0 42 v) : ∃ n : Nat, v = .int .u8 (n : Int) ∧ n < 256 := by
  obtain ⟨m, rfl⟩ := okWide_int Tryz.underlying42 hv
  obtain ⟨fuel, hf⟩ := h
  exact open_oneK (by simpa [Value.cells] using hf)
theorem cells_Broken : Tryz.prog.cellsOf 44 = 3 := by kernel_rfl
theorem cells_sBroken : Tryz.prog.cellsOf 40 = 1 := by kernel_rfl
theorem open_sBroken {fuel : Nat} {x : DataW H × List MemPlace} (hf : DataW.trod enc Tryz.prog W base spare held fuel 40 [v] = some x) : ∃ (A : Option Addr) (c : Nat) (l : List Bn), v = .slice A l.length c ∧ Rv 3 bnF W A c l ∧ ∀ h ∈ l, h.kind < 256 := by
  rcases open_slice Tryz.underlying40 hf with ⟨h0, _⟩ | ⟨a, len, cap, m, n, D, Pl, hcs, hb, hl, hm, hmm, hx, hi⟩
  · simp at h0
    subst h0
    exact ⟨none, 0, [], rfl, Rv.nil _, by simp⟩
  · simp at hcs
    subst hcs
    have hel : ∀ i, i < len → ∃ y : Bn, (∀ q, q < 3 → W.cell? (a.add (i * 3 + q)) = some (bnF y q)) ∧ y.kind < 256 := by
      intro i him
      obtain ⟨cs', hc, ht'⟩ := hi i (by rw [hmm]; split <;> omega)
      rw [cells_Broken] at hc
      obtain ⟨_, hcl, hat⟩ := World.cells?_some hc
      obtain ⟨xs, k, -, -, -, hxl, hg⟩ := DataW.trod_struct Tryz.underlying44 ht'
      have hxl' : xs.length = 3 := hxl
      have g0 : DataW.trod enc Tryz.prog W base spare held k 42 ((cs'.drop 0).take (Tryz.prog.cellsOf 42)) = xs[0]? := hg 0 _ rfl
      have g1 : DataW.trod enc Tryz.prog W base spare held k 3 ((cs'.drop 1).take (Tryz.prog.cellsOf 3)) = xs[1]? := hg 1 _ rfl
      have g2 : DataW.trod enc Tryz.prog W base spare held k 3 ((cs'.drop 2).take (Tryz.prog.cellsOf 3)) = xs[2]? := hg 2 _ rfl
      rw [List.getElem?_eq_getElem (by omega)] at g0 g1 g2
      rw [cells_kd] at g0
      rw [cells_it] at g1 g2
      match cs', hcl with
      | [c0, c1, c2], _ =>
        obtain ⟨p0, rfl, hp⟩ := open_oneK (u := c0) g0
        obtain ⟨p1, rfl⟩ := open_one64 (u := c1) g1
        obtain ⟨p2, rfl⟩ := open_one64 (u := c2) g2
        have e0 := hat 0 (by omega)
        have e1 := hat 1 (by omega)
        have e2 := hat 2 (by omega)
        rw [Go.Deep.add_add] at e0 e1 e2
        refine ⟨⟨p0, p1, p2⟩, ⟨fun q hq => ?_, hp⟩⟩
        rcases (by omega : q = 0 ∨ q = 1 ∨ q = 2) with rfl | rfl | rfl
        · simpa [bnF] using e0
        · simpa [bnF] using e1
        · simpa [bnF] using e2
    have inh : Inhabited Bn := ⟨⟨0, 0, 0⟩⟩
    obtain ⟨G, hG⟩ := choose_lt hel
    refine ⟨some a, cap, (List.range len).map G, by simp, ⟨⟨by simpa using hl, hm, (by intro h; cases h), fun h0 => ?_⟩, fun h hh => ?_⟩⟩
    · have h0' : 0 < len := by simpa using h0
      obtain ⟨b, off, rfl, hlt⟩ := add_spot (by simpa using (hG 0 h0').1 0 (by omega))
      refine ⟨b, off, rfl, hlt, fun j q hj i hi2 => ?_⟩
      have hjl : j < len := by have := (List.getElem?_eq_some_iff.1 hj).1; simpa using this
      rw [List.getElem?_map, List.getElem?_range hjl] at hj
      injection hj with hj
      subst hj
      have e := (hG j hjl).1 i hi2
      rw [plain_add] at e
      rw [Nat.add_assoc]
      exact e
    · obtain ⟨i, hi2, rfl⟩ := List.mem_map.1 hh
      exact (hG i (List.mem_range.1 hi2)).2
theorem open_bns (h : DataW.Trod enc Tryz.prog W base spare held 40 v d p) (hv : Value.okWide Tryz.prog W r b0 40 v) : ∃ (A : Option Addr) (c : Nat) (l : List Bn), v = .slice A l.length c ∧ Rv 3 bnF W A c l := by
  obtain ⟨a0, len0, cap0, rfl⟩ := okWide_slice Tryz.underlying40 hv
  obtain ⟨fuel, hf⟩ := h
  obtain ⟨A, c, l, e, hr, -⟩ := open_sBroken (by simpa [Value.cells] using hf)
  exact ⟨A, c, l, e, hr⟩
end
end Go.Proofs.YtbbadnlaelgmlaaGreat
