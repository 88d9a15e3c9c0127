/-
  DERIVED. From a row's claim to the walks: arguments that come in (stage 6).
-/
import Derived.Test.YthghinkicaafmaaBZ
import Derived.Test.YthghinkicaafmaaBW
import Derived.Deep.Slices
namespace Go.Proofs.Ythghinkicaafmaa
open Go.ChangeShapes Go.WideShapes Go.Deep Go.RowKit
set_option maxRecDepth 100000

theorem cells_is : Try.prog.cellsOf 32 = 1 := by kernel_rfl
theorem cells_it : Try.prog.cellsOf 3 = 1 := by kernel_rfl
theorem cells_pt : Try.prog.cellsOf 41 = 3 := by kernel_rfl
theorem cells_ln : Try.prog.cellsOf 24 = 2 := by kernel_rfl
theorem cells_ps : Try.prog.cellsOf 22 = 1 := by kernel_rfl
theorem cells_ll : Try.prog.cellsOf 25 = 1 := by kernel_rfl
theorem cells_ar : Try.prog.cellsOf 27 = 7 := by kernel_rfl
theorem plain_add (b o j : Nat) : (⟨b, o, none⟩ : Addr).add j = ⟨b, o + j, none⟩ := by unfold Addr.add; split <;> simp_all
theorem add_spot {w : World} {a : Addr} {v : Value} (h : w.cell? (a.add 0) = some v) : ∃ b o, a = ⟨b, o, none⟩ ∧ b < w.heap.size := by
  obtain ⟨b, off, spot⟩ := a
  have hsp : spot = none := by simpa [Addr.add] using World.cell?_spot h
  subst hsp
  rw [plain_add] at h
  exact ⟨b, off, rfl, cell_lt3 h⟩
section
variable {H : Type} {enc : TypeId × Value → H} {W : World} {base : Nat} {spare : Nat → Bool} {held : Bool} {r : Reach} {b0 : Nat} {v : Value} {d : DataW H} {p : List MemPlace}
theorem open_is {fuel : Nat} {x : DataW H × List MemPlace} (hf : DataW.trod enc Try.prog W base spare held fuel 32 [v] = some x) : ∃ l, IntSl W v l := by
  rcases open_ints Try.underlying32 Try.underlying3 (by kernel_rfl) hf with ⟨h0, -⟩ | ⟨a, len, cap, zs, hcs, hb, hl, hm, hz, -, hc, hwf⟩
  · simp at h0
    subst h0
    exact ⟨[], IntSl.nil W⟩
  · simp at hcs
    subst hcs
    have hlz : len ≤ zs.length := by rw [hz]; split <;> omega
    have hlen : (zs.take len).length = len := by simp; omega
    refine ⟨zs.take len, some a, cap, by rw [hlen], by rw [hlen]; exact hl, hm, (by intro h; cases h), fun h0 => ?_⟩
    rw [hlen] at h0
    have hc0 := hc 0 (by omega)
    obtain ⟨b, off, rfl, hlt⟩ := add_spot hc0
    refine ⟨b, off, rfl, hlt, fun j x hj => ?_⟩
    have hjl : j < len := by
      have := (List.getElem?_eq_some_iff.1 hj).1
      omega
    rw [List.getElem?_take_of_lt hjl] at hj
    have h1 := hc j (by omega)
    rw [plain_add, List.getD_eq_getElem?_getD, hj] at h1
    exact h1
theorem open_one64 {fuel : Nat} {x : DataW H × List MemPlace} {u : Value} (hf : DataW.trod enc Try.prog W base spare held fuel 3 [u] = some x) : ∃ n : Int, u = .int .i64 n := by
  obtain ⟨n, g, -, -⟩ := DataW.trod_int Try.underlying3 hf
  simp at g
  exact ⟨n, g⟩
theorem open_li {fuel : Nat} {x : DataW H × List MemPlace} (hf : DataW.trod enc Try.prog W base spare held fuel 25 [v] = some x) : ∃ ls, LiSl W v ls := by
  rcases open_slice Try.underlying25 hf with ⟨h0, _⟩ | ⟨a, len, cap, m, n, D, Pl, hcs, hb, hl, hm, hmm, hx, hi⟩
  · simp at h0
    subst h0
    exact ⟨[], none, 0, rfl, Nat.le_refl _, Nat.zero_le _, fun h => absurd h (Nat.lt_irrefl _)⟩
  · simp at hcs
    subst hcs
    have hel : ∀ i, i < len → ∃ y : Value × List Int, W.cell? (a.add i) = some y.1 ∧ IntSl W y.1 y.2 := by
      intro i him
      obtain ⟨cs', hc, ht'⟩ := hi i (by rw [hmm]; split <;> omega)
      rw [cells_is] at hc
      obtain ⟨_, hcl, hat⟩ := World.cells?_some hc
      match cs', hcl with
      | [u], _ =>
        obtain ⟨l, hl⟩ := open_is ht'
        refine ⟨(u, l), ?_, hl⟩
        have := hat 0 (by omega)
        rw [Go.Deep.add_add] at this
        simpa using this
    haveI : Inhabited (Value × List Int) := ⟨(.slice none 0 0, [])⟩
    obtain ⟨F, hF⟩ := choose_lt hel
    refine ⟨(List.range len).map fun i => (F i).2, some a, cap, by simp, by simpa using hl, hm, fun h0 => ?_⟩
    have h0' : 0 < len := by simpa using h0
    obtain ⟨b, off, rfl, hlt⟩ := add_spot (hF 0 h0').1
    refine ⟨b, off, rfl, hlt, fun j l hj => ?_⟩
    have hjl : j < len := by have := (List.getElem?_eq_some_iff.1 hj).1; simpa using this
    rw [List.getElem?_map, List.getElem?_range hjl] at hj
    injection hj with hj
    subst hj
    have := hF j hjl
    rw [plain_add] at this
    exact ⟨_, this.1, this.2⟩
theorem open_pts {fuel : Nat} {x : DataW H × List MemPlace} (hf : DataW.trod enc Try.prog W base spare held fuel 22 [v] = some x) : ∃ ps, PtSl W v ps ∧ ∀ m c, v = .slice none m c → c = 0 := by
  rcases open_slice Try.underlying22 hf with ⟨h0, _⟩ | ⟨a, len, cap, m, n, D, Pl, hcs, hb, hl, hm, hmm, hx, hi⟩
  · simp at h0
    subst h0
    exact ⟨[], ⟨none, 0, rfl, Nat.le_refl _, Nat.zero_le _, fun h => absurd h (Nat.lt_irrefl _)⟩, fun m c h => by injection h with h1 h2 h3; exact h3.symm⟩
  · simp at hcs
    subst hcs
    have hel : ∀ i, i < len → ∃ y : Int × Int × Int, W.cell? (a.add (i * 3)) = some (.int .i64 y.1) ∧ W.cell? (a.add (i * 3 + 1)) = some (.int .i64 y.2.1) ∧ W.cell? (a.add (i * 3 + 2)) = some (.int .i64 y.2.2) := by
      intro i him
      obtain ⟨cs', hc, ht'⟩ := hi i (by rw [hmm]; split <;> omega)
      rw [cells_pt] at hc
      obtain ⟨_, hcl, hat⟩ := World.cells?_some hc
      obtain ⟨xs, k, -, -, -, hxl, hg⟩ := DataW.trod_struct Try.underlying41 ht'
      have hxl' : xs.length = 3 := hxl
      have g0 : DataW.trod enc Try.prog W base spare held k 3 ((cs'.drop 0).take (Try.prog.cellsOf 3)) = xs[0]? := hg 0 _ rfl
      have g1 : DataW.trod enc Try.prog W base spare held k 3 ((cs'.drop 1).take (Try.prog.cellsOf 3)) = xs[1]? := hg 1 _ rfl
      have g2 : DataW.trod enc Try.prog W base spare held k 3 ((cs'.drop 2).take (Try.prog.cellsOf 3)) = xs[2]? := hg 2 _ rfl
      rw [List.getElem?_eq_getElem (by omega)] at g0 g1 g2
      rw [cells_it] at g0 g1 g2
      match cs', hcl with
      | [c0, c1, c2], _ =>
        obtain ⟨p0, rfl⟩ := open_one64 (u := c0) g0
        obtain ⟨p1, rfl⟩ := open_one64 (u := c1) g1
        obtain ⟨p2, rfl⟩ := open_one64 (u := c2) g2
        have e0 := hat 0 (by omega)
        have e1 := hat 1 (by omega)
        have e2 := hat 2 (by omega)
        rw [Go.Deep.add_add] at e0 e1 e2
        exact ⟨(p0, p1, p2), by simpa using e0, by simpa using e1, by simpa using e2⟩
    obtain ⟨F, hF⟩ := choose_lt hel
    refine ⟨(List.range len).map F, ⟨some a, cap, by simp, by simpa using hl, hm, fun h0 => ?_⟩, fun m c h => by cases h⟩
    have h0' : 0 < len := by simpa using h0
    obtain ⟨b, off, rfl, hlt⟩ := add_spot (hF 0 h0').1
    refine ⟨b, off, rfl, hlt, fun j q hj => ?_⟩
    have hjl : j < len := by have := (List.getElem?_eq_some_iff.1 hj).1; simpa using this
    rw [List.getElem?_map, List.getElem?_range hjl] at hj
    injection hj with hj
    subst hj
    obtain ⟨e0, e1, e2⟩ := hF j hjl
    rw [plain_add] at e0 e1 e2
    exact ⟨e0, e1, e2⟩
theorem open_args (hv : Value.okWide Try.prog W r b0 27 v) (h : DataW.Trod enc Try.prog W base spare held 27 v d p) :
    ∃ (C s n t l : Int) (P I : Value) (ps : List (Int × Int × Int)) (ins : List (List Int)), v = argsV C P s I n t l ∧ PtSl W P ps ∧ (∀ m c, P = .slice none m c → c = 0) ∧ LiSl W I ins := by
  obtain ⟨⟨l⟩, rfl, hsz⟩ := okWide_struct Try.underlying27 hv
  obtain ⟨fuel, hf⟩ := h
  obtain ⟨xs, k, -, -, -, hl, hg⟩ := DataW.trod_struct Try.underlying27 hf
  have hlen : l.length = 7 := hsz.trans cells_ar
  have hxl : xs.length = 6 := hl
  have g0 : DataW.trod enc Try.prog W base spare held k 24 ((l.drop 0).take (Try.prog.cellsOf 24)) = xs[0]? := hg 0 _ rfl
  have g1 : DataW.trod enc Try.prog W base spare held k 3 ((l.drop 2).take (Try.prog.cellsOf 3)) = xs[1]? := hg 1 _ rfl
  have g2 : DataW.trod enc Try.prog W base spare held k 25 ((l.drop 3).take (Try.prog.cellsOf 25)) = xs[2]? := hg 2 _ rfl
  have g3 : DataW.trod enc Try.prog W base spare held k 3 ((l.drop 4).take (Try.prog.cellsOf 3)) = xs[3]? := hg 3 _ rfl
  have g4 : DataW.trod enc Try.prog W base spare held k 3 ((l.drop 5).take (Try.prog.cellsOf 3)) = xs[4]? := hg 4 _ rfl
  have g5 : DataW.trod enc Try.prog W base spare held k 3 ((l.drop 6).take (Try.prog.cellsOf 3)) = xs[5]? := hg 5 _ rfl
  rw [List.getElem?_eq_getElem (by omega)] at g0 g1 g2 g3 g4 g5
  rw [cells_it] at g1 g3 g4 g5
  rw [cells_ln] at g0
  rw [cells_ll] at g2
  match l, hlen with
  | [c0, c1, c2, c3, c4, c5, c6], _ =>
    obtain ⟨ys, k2, -, -, -, hyl, hgy⟩ := DataW.trod_struct Try.underlying24 g0
    have hyl' : ys.length = 2 := hyl
    have f0 : DataW.trod enc Try.prog W base spare held k2 3 (([c0, c1].drop 0).take (Try.prog.cellsOf 3)) = ys[0]? := hgy 0 _ rfl
    have f1 : DataW.trod enc Try.prog W base spare held k2 22 (([c0, c1].drop 1).take (Try.prog.cellsOf 22)) = ys[1]? := hgy 1 _ rfl
    rw [List.getElem?_eq_getElem (by omega)] at f0 f1
    rw [cells_it] at f0
    rw [cells_ps] at f1
    obtain ⟨C, rfl⟩ := open_one64 (u := c0) f0
    obtain ⟨ps, hps, hpn⟩ := open_pts (v := c1) f1
    obtain ⟨s, rfl⟩ := open_one64 (u := c2) g1
    obtain ⟨ins, hins⟩ := open_li (v := c3) g2
    obtain ⟨n, rfl⟩ := open_one64 (u := c4) g3
    obtain ⟨t, rfl⟩ := open_one64 (u := c5) g4
    obtain ⟨q, rfl⟩ := open_one64 (u := c6) g5
    exact ⟨C, s, n, t, q, c1, c3, ps, ins, rfl, hps, hpn, hins⟩
end
end Go.Proofs.Ythghinkicaafmaa
