/-
  DERIVED. From a row's claim to the walks: sites and numbers that come in (written by gen/site_CJ.py).
-/
import Derived.Test.YtplncglgolhfaaaCH
import Derived.Test.YtplncglgolhfaaaRows
import Derived.Handed
import Derived.OpenShut
import Derived.Deep.Fields
import Derived.Deep.Slices
import Derived.ChangeSame
import Derived.ChangeSlices
namespace Go.Proofs.Ytplncglgolhfaaa
open Go.ChangeShapes Go.WideShapes Go.Deep Go.RowKit
set_option maxRecDepth 100000
set_option linter.unusedSimpArgs false
set_option linter.unusedVariables false

theorem cell_lt3 {w : World} {b o : Nat} {v : Value} (h : w.cell? ⟨b, o, none⟩ = some v) : b < w.heap.size := by
  unfold World.cell? at h
  cases hb : w.heap[b]? with
  | none => simp [hb] at h
  | some ob => exact (Array.getElem?_eq_some_iff.1 hb).1
theorem u8_wf {n : Int} (h : (Lit.int .u8 n).wf = true) : ∃ m : Nat, n = (m : Int) ∧ m < 256 := by
  have h2 : (decide ((0 : Int) ≤ n) && decide (n ≤ 255)) = true := h
  simp only [Bool.and_eq_true, decide_eq_true_eq] at h2
  exact ⟨n.toNat, by omega, by omega⟩
theorem plain_add (b o j : Nat) : (⟨b, o, none⟩ : Addr).add j = ⟨b, o + j, none⟩ := by unfold Addr.add; split <;> simp_all
theorem add_spot {w : World} {a : Addr} {v : Value} (h : w.cell? (a.add 0) = some v) : ∃ b o, a = ⟨b, o, none⟩ ∧ b < w.heap.size := by
  obtain ⟨b, off, spot⟩ := a
  have hsp : spot = none := by simpa [Addr.add] using World.cell?_spot h
  subst hsp
  rw [plain_add] at h
  exact ⟨b, off, rfl, cell_lt3 h⟩
theorem cells_it : Try.prog.cellsOf 3 = 1 := by kernel_rfl
theorem cells_site : Try.prog.cellsOf 29 = 7 := by kernel_rfl
section
variable {H : Type} {enc : TypeId × Value → H} {W : World} {base : Nat} {spare : Nat → Bool} {held : Bool} {r : Go.Reach} {b0 : Nat} {v : Value} {d : DataW H} {p : List MemPlace}
theorem open_one64 {fuel : Nat} {x : DataW H × List MemPlace} {u : Value} (hf : DataW.trod enc Try.prog W base spare held fuel 3 [u] = some x) : ∃ n : Int, u = .int .i64 n := by
  obtain ⟨n, g, -, -⟩ := DataW.trod_int Try.underlying3 hf
  simp at g
  exact ⟨n, g⟩
theorem open_int_ (h : DataW.Trod enc Try.prog W base spare held 3 v d p) (hv : Value.okWide Try.prog W r b0 3 v) : ∃ n : Int, v = .int .i64 n := by
  obtain ⟨m, rfl⟩ := okWide_int Try.underlying3 hv
  exact ⟨m, rfl⟩
theorem open_dom (h : DataW.Trod enc Try.prog W base spare held 61 v d p) (hv : Value.okWide Try.prog W r b0 61 v) : ∃ n : Nat, v = .int .u8 (n : Int) ∧ n < 256 := by
  obtain ⟨m, rfl⟩ := okWide_int Try.underlying61 hv
  obtain ⟨fuel, hf⟩ := h
  obtain ⟨n, g, -, hw⟩ := DataW.trod_int Try.underlying61 (by simpa [Value.cells] using hf)
  simp at g
  subst g
  obtain ⟨a, rfl, ha⟩ := u8_wf hw
  exact ⟨a, rfl, ha⟩
theorem cells_Feed : Try.prog.cellsOf 90 = 1 := by kernel_rfl
theorem cells_sFeed : Try.prog.cellsOf 22 = 1 := by kernel_rfl
theorem open_sFeed {fuel : Nat} {x : DataW H × List MemPlace} (hf : DataW.trod enc Try.prog W base spare held fuel 22 [v] = some x) : ∃ (A : Option Addr) (c : Nat) (l : List Int), v = .slice A l.length c ∧ Rw 1 inF W A c l := by
  rcases open_slice Try.underlying22 hf with ⟨h0, _⟩ | ⟨a, len, cap, m, n, D, Pl, hcs, hb, hl, hm, hmm, hx, hi⟩
  · simp at h0
    subst h0
    exact ⟨none, 0, [], rfl, Rw.nil _ _⟩
  · simp at hcs
    subst hcs
    have hel : ∀ i, i < len → ∃ y : Int, ∀ q, q < 1 → W.cell? (a.add (i * 1 + q)) = some (.int .i64 (inF y q)) := by
      intro i him
      obtain ⟨cs', hc, ht'⟩ := hi i (by rw [hmm]; split <;> omega)
      rw [cells_Feed] at hc
      obtain ⟨_, hcl, hat⟩ := World.cells?_some hc
      obtain ⟨xs, k, -, -, -, hxl, hg⟩ := DataW.trod_struct Try.underlying90 ht'
      have hxl' : xs.length = 1 := hxl
      have g0 : DataW.trod enc Try.prog W base spare held k 3 ((cs'.drop 0).take (Try.prog.cellsOf 3)) = xs[0]? := hg 0 _ rfl
      rw [List.getElem?_eq_getElem (by omega)] at g0
      rw [cells_it] at g0
      match cs', hcl with
      | [c0], _ =>
        obtain ⟨p0, rfl⟩ := open_one64 (u := c0) g0
        have e0 := hat 0 (by omega)
        rw [Go.Deep.add_add] at e0
        refine ⟨p0, fun q hq => ?_⟩
        obtain rfl : q = 0 := by omega
        simpa [inF] using e0
    have inh : Inhabited Int := ⟨0⟩
    obtain ⟨G, hG⟩ := choose_lt hel
    refine ⟨some a, cap, (List.range len).map G, by simp, by simpa using hl, hm, fun h0 => ?_⟩
    have h0' : 0 < len := by simpa using h0
    obtain ⟨b, off, rfl, hlt⟩ := add_spot (by simpa using hG 0 h0' 0 (by omega))
    refine ⟨b, off, rfl, hlt, fun j q hj i hi2 => ?_⟩
    have hjl : j < len := by have := (List.getElem?_eq_some_iff.1 hj).1; simpa using this
    rw [List.getElem?_map, List.getElem?_range hjl] at hj
    injection hj with hj
    subst hj
    have e := hG j hjl i hi2
    rw [plain_add] at e
    rw [Nat.add_assoc]
    exact e
theorem cells_Breaker : Try.prog.cellsOf 92 = 4 := by kernel_rfl
theorem cells_sBreaker : Try.prog.cellsOf 23 = 1 := by kernel_rfl
theorem open_sBreaker {fuel : Nat} {x : DataW H × List MemPlace} (hf : DataW.trod enc Try.prog W base spare held fuel 23 [v] = some x) : ∃ (A : Option Addr) (c : Nat) (l : List Brk), v = .slice A l.length c ∧ Rw 4 brkF W A c l := by
  rcases open_slice Try.underlying23 hf with ⟨h0, _⟩ | ⟨a, len, cap, m, n, D, Pl, hcs, hb, hl, hm, hmm, hx, hi⟩
  · simp at h0
    subst h0
    exact ⟨none, 0, [], rfl, Rw.nil _ _⟩
  · simp at hcs
    subst hcs
    have hel : ∀ i, i < len → ∃ y : Brk, ∀ q, q < 4 → W.cell? (a.add (i * 4 + q)) = some (.int .i64 (brkF y q)) := by
      intro i him
      obtain ⟨cs', hc, ht'⟩ := hi i (by rw [hmm]; split <;> omega)
      rw [cells_Breaker] at hc
      obtain ⟨_, hcl, hat⟩ := World.cells?_some hc
      obtain ⟨xs, k, -, -, -, hxl, hg⟩ := DataW.trod_struct Try.underlying92 ht'
      have hxl' : xs.length = 4 := hxl
      have g0 : DataW.trod enc Try.prog W base spare held k 3 ((cs'.drop 0).take (Try.prog.cellsOf 3)) = xs[0]? := hg 0 _ rfl
      have g1 : DataW.trod enc Try.prog W base spare held k 3 ((cs'.drop 1).take (Try.prog.cellsOf 3)) = xs[1]? := hg 1 _ rfl
      have g2 : DataW.trod enc Try.prog W base spare held k 3 ((cs'.drop 2).take (Try.prog.cellsOf 3)) = xs[2]? := hg 2 _ rfl
      have g3 : DataW.trod enc Try.prog W base spare held k 3 ((cs'.drop 3).take (Try.prog.cellsOf 3)) = xs[3]? := hg 3 _ rfl
      rw [List.getElem?_eq_getElem (by omega)] at g0 g1 g2 g3
      rw [cells_it] at g0 g1 g2 g3
      match cs', hcl with
      | [c0, c1, c2, c3], _ =>
        obtain ⟨p0, rfl⟩ := open_one64 (u := c0) g0
        obtain ⟨p1, rfl⟩ := open_one64 (u := c1) g1
        obtain ⟨p2, rfl⟩ := open_one64 (u := c2) g2
        obtain ⟨p3, rfl⟩ := open_one64 (u := c3) g3
        have e0 := hat 0 (by omega)
        have e1 := hat 1 (by omega)
        have e2 := hat 2 (by omega)
        have e3 := hat 3 (by omega)
        rw [Go.Deep.add_add] at e0 e1 e2 e3
        refine ⟨⟨p0, p1, p2, p3⟩, fun q hq => ?_⟩
        rcases (by omega : q = 0 ∨ q = 1 ∨ q = 2 ∨ q = 3) with rfl | rfl | rfl | rfl
        · simpa [brkF] using e0
        · simpa [brkF] using e1
        · simpa [brkF] using e2
        · simpa [brkF] using e3
    have inh : Inhabited Brk := ⟨⟨0, 0, 0, 0⟩⟩
    obtain ⟨G, hG⟩ := choose_lt hel
    refine ⟨some a, cap, (List.range len).map G, by simp, by simpa using hl, hm, fun h0 => ?_⟩
    have h0' : 0 < len := by simpa using h0
    obtain ⟨b, off, rfl, hlt⟩ := add_spot (by simpa using hG 0 h0' 0 (by omega))
    refine ⟨b, off, rfl, hlt, fun j q hj i hi2 => ?_⟩
    have hjl : j < len := by have := (List.getElem?_eq_some_iff.1 hj).1; simpa using this
    rw [List.getElem?_map, List.getElem?_range hjl] at hj
    injection hj with hj
    subst hj
    have e := hG j hjl i hi2
    rw [plain_add] at e
    rw [Nat.add_assoc]
    exact e
theorem cells_Loop : Try.prog.cellsOf 94 = 2 := by kernel_rfl
theorem cells_sLoop : Try.prog.cellsOf 24 = 1 := by kernel_rfl
theorem open_sLoop {fuel : Nat} {x : DataW H × List MemPlace} (hf : DataW.trod enc Try.prog W base spare held fuel 24 [v] = some x) : ∃ (A : Option Addr) (c : Nat) (l : List Lp), v = .slice A l.length c ∧ Rw 2 lpF W A c l := by
  rcases open_slice Try.underlying24 hf with ⟨h0, _⟩ | ⟨a, len, cap, m, n, D, Pl, hcs, hb, hl, hm, hmm, hx, hi⟩
  · simp at h0
    subst h0
    exact ⟨none, 0, [], rfl, Rw.nil _ _⟩
  · simp at hcs
    subst hcs
    have hel : ∀ i, i < len → ∃ y : Lp, ∀ q, q < 2 → W.cell? (a.add (i * 2 + q)) = some (.int .i64 (lpF y q)) := by
      intro i him
      obtain ⟨cs', hc, ht'⟩ := hi i (by rw [hmm]; split <;> omega)
      rw [cells_Loop] at hc
      obtain ⟨_, hcl, hat⟩ := World.cells?_some hc
      obtain ⟨xs, k, -, -, -, hxl, hg⟩ := DataW.trod_struct Try.underlying94 ht'
      have hxl' : xs.length = 2 := hxl
      have g0 : DataW.trod enc Try.prog W base spare held k 3 ((cs'.drop 0).take (Try.prog.cellsOf 3)) = xs[0]? := hg 0 _ rfl
      have g1 : DataW.trod enc Try.prog W base spare held k 3 ((cs'.drop 1).take (Try.prog.cellsOf 3)) = xs[1]? := hg 1 _ rfl
      rw [List.getElem?_eq_getElem (by omega)] at g0 g1
      rw [cells_it] at g0 g1
      match cs', hcl with
      | [c0, c1], _ =>
        obtain ⟨p0, rfl⟩ := open_one64 (u := c0) g0
        obtain ⟨p1, rfl⟩ := open_one64 (u := c1) g1
        have e0 := hat 0 (by omega)
        have e1 := hat 1 (by omega)
        rw [Go.Deep.add_add] at e0 e1
        refine ⟨⟨p0, p1⟩, fun q hq => ?_⟩
        rcases (by omega : q = 0 ∨ q = 1) with rfl | rfl
        · simpa [lpF] using e0
        · simpa [lpF] using e1
    have inh : Inhabited Lp := ⟨⟨0, 0⟩⟩
    obtain ⟨G, hG⟩ := choose_lt hel
    refine ⟨some a, cap, (List.range len).map G, by simp, by simpa using hl, hm, fun h0 => ?_⟩
    have h0' : 0 < len := by simpa using h0
    obtain ⟨b, off, rfl, hlt⟩ := add_spot (by simpa using hG 0 h0' 0 (by omega))
    refine ⟨b, off, rfl, hlt, fun j q hj i hi2 => ?_⟩
    have hjl : j < len := by have := (List.getElem?_eq_some_iff.1 hj).1; simpa using this
    rw [List.getElem?_map, List.getElem?_range hjl] at hj
    injection hj with hj
    subst hj
    have e := hG j hjl i hi2
    rw [plain_add] at e
    rw [Nat.add_assoc]
    exact e
theorem cells_Rack : Try.prog.cellsOf 96 = 4 := by kernel_rfl
theorem cells_sRack : Try.prog.cellsOf 25 = 1 := by kernel_rfl
theorem open_sRack {fuel : Nat} {x : DataW H × List MemPlace} (hf : DataW.trod enc Try.prog W base spare held fuel 25 [v] = some x) : ∃ (A : Option Addr) (c : Nat) (l : List Rk), v = .slice A l.length c ∧ Rw 4 rkF W A c l := by
  rcases open_slice Try.underlying25 hf with ⟨h0, _⟩ | ⟨a, len, cap, m, n, D, Pl, hcs, hb, hl, hm, hmm, hx, hi⟩
  · simp at h0
    subst h0
    exact ⟨none, 0, [], rfl, Rw.nil _ _⟩
  · simp at hcs
    subst hcs
    have hel : ∀ i, i < len → ∃ y : Rk, ∀ q, q < 4 → W.cell? (a.add (i * 4 + q)) = some (.int .i64 (rkF y q)) := by
      intro i him
      obtain ⟨cs', hc, ht'⟩ := hi i (by rw [hmm]; split <;> omega)
      rw [cells_Rack] at hc
      obtain ⟨_, hcl, hat⟩ := World.cells?_some hc
      obtain ⟨xs, k, -, -, -, hxl, hg⟩ := DataW.trod_struct Try.underlying96 ht'
      have hxl' : xs.length = 4 := hxl
      have g0 : DataW.trod enc Try.prog W base spare held k 3 ((cs'.drop 0).take (Try.prog.cellsOf 3)) = xs[0]? := hg 0 _ rfl
      have g1 : DataW.trod enc Try.prog W base spare held k 3 ((cs'.drop 1).take (Try.prog.cellsOf 3)) = xs[1]? := hg 1 _ rfl
      have g2 : DataW.trod enc Try.prog W base spare held k 3 ((cs'.drop 2).take (Try.prog.cellsOf 3)) = xs[2]? := hg 2 _ rfl
      have g3 : DataW.trod enc Try.prog W base spare held k 3 ((cs'.drop 3).take (Try.prog.cellsOf 3)) = xs[3]? := hg 3 _ rfl
      rw [List.getElem?_eq_getElem (by omega)] at g0 g1 g2 g3
      rw [cells_it] at g0 g1 g2 g3
      match cs', hcl with
      | [c0, c1, c2, c3], _ =>
        obtain ⟨p0, rfl⟩ := open_one64 (u := c0) g0
        obtain ⟨p1, rfl⟩ := open_one64 (u := c1) g1
        obtain ⟨p2, rfl⟩ := open_one64 (u := c2) g2
        obtain ⟨p3, rfl⟩ := open_one64 (u := c3) g3
        have e0 := hat 0 (by omega)
        have e1 := hat 1 (by omega)
        have e2 := hat 2 (by omega)
        have e3 := hat 3 (by omega)
        rw [Go.Deep.add_add] at e0 e1 e2 e3
        refine ⟨⟨p0, p1, p2, p3⟩, fun q hq => ?_⟩
        rcases (by omega : q = 0 ∨ q = 1 ∨ q = 2 ∨ q = 3) with rfl | rfl | rfl | rfl
        · simpa [rkF] using e0
        · simpa [rkF] using e1
        · simpa [rkF] using e2
        · simpa [rkF] using e3
    have inh : Inhabited Rk := ⟨⟨0, 0, 0, 0⟩⟩
    obtain ⟨G, hG⟩ := choose_lt hel
    refine ⟨some a, cap, (List.range len).map G, by simp, by simpa using hl, hm, fun h0 => ?_⟩
    have h0' : 0 < len := by simpa using h0
    obtain ⟨b, off, rfl, hlt⟩ := add_spot (by simpa using hG 0 h0' 0 (by omega))
    refine ⟨b, off, rfl, hlt, fun j q hj i hi2 => ?_⟩
    have hjl : j < len := by have := (List.getElem?_eq_some_iff.1 hj).1; simpa using this
    rw [List.getElem?_map, List.getElem?_range hjl] at hj
    injection hj with hj
    subst hj
    have e := hG j hjl i hi2
    rw [plain_add] at e
    rw [Nat.add_assoc]
    exact e
theorem cells_Link : Try.prog.cellsOf 113 = 3 := by kernel_rfl
theorem cells_sLink : Try.prog.cellsOf 26 = 1 := by kernel_rfl
theorem open_sLink {fuel : Nat} {x : DataW H × List MemPlace} (hf : DataW.trod enc Try.prog W base spare held fuel 26 [v] = some x) : ∃ (A : Option Addr) (c : Nat) (l : List Lk), v = .slice A l.length c ∧ Rw 3 lkF W A c l := by
  rcases open_slice Try.underlying26 hf with ⟨h0, _⟩ | ⟨a, len, cap, m, n, D, Pl, hcs, hb, hl, hm, hmm, hx, hi⟩
  · simp at h0
    subst h0
    exact ⟨none, 0, [], rfl, Rw.nil _ _⟩
  · simp at hcs
    subst hcs
    have hel : ∀ i, i < len → ∃ y : Lk, ∀ q, q < 3 → W.cell? (a.add (i * 3 + q)) = some (.int .i64 (lkF y q)) := by
      intro i him
      obtain ⟨cs', hc, ht'⟩ := hi i (by rw [hmm]; split <;> omega)
      rw [cells_Link] at hc
      obtain ⟨_, hcl, hat⟩ := World.cells?_some hc
      obtain ⟨xs, k, -, -, -, hxl, hg⟩ := DataW.trod_struct Try.underlying113 ht'
      have hxl' : xs.length = 3 := hxl
      have g0 : DataW.trod enc Try.prog W base spare held k 3 ((cs'.drop 0).take (Try.prog.cellsOf 3)) = xs[0]? := hg 0 _ rfl
      have g1 : DataW.trod enc Try.prog W base spare held k 3 ((cs'.drop 1).take (Try.prog.cellsOf 3)) = xs[1]? := hg 1 _ rfl
      have g2 : DataW.trod enc Try.prog W base spare held k 3 ((cs'.drop 2).take (Try.prog.cellsOf 3)) = xs[2]? := hg 2 _ rfl
      rw [List.getElem?_eq_getElem (by omega)] at g0 g1 g2
      rw [cells_it] at g0 g1 g2
      match cs', hcl with
      | [c0, c1, c2], _ =>
        obtain ⟨p0, rfl⟩ := open_one64 (u := c0) g0
        obtain ⟨p1, rfl⟩ := open_one64 (u := c1) g1
        obtain ⟨p2, rfl⟩ := open_one64 (u := c2) g2
        have e0 := hat 0 (by omega)
        have e1 := hat 1 (by omega)
        have e2 := hat 2 (by omega)
        rw [Go.Deep.add_add] at e0 e1 e2
        refine ⟨⟨p0, p1, p2⟩, fun q hq => ?_⟩
        rcases (by omega : q = 0 ∨ q = 1 ∨ q = 2) with rfl | rfl | rfl
        · simpa [lkF] using e0
        · simpa [lkF] using e1
        · simpa [lkF] using e2
    have inh : Inhabited Lk := ⟨⟨0, 0, 0⟩⟩
    obtain ⟨G, hG⟩ := choose_lt hel
    refine ⟨some a, cap, (List.range len).map G, by simp, by simpa using hl, hm, fun h0 => ?_⟩
    have h0' : 0 < len := by simpa using h0
    obtain ⟨b, off, rfl, hlt⟩ := add_spot (by simpa using hG 0 h0' 0 (by omega))
    refine ⟨b, off, rfl, hlt, fun j q hj i hi2 => ?_⟩
    have hjl : j < len := by have := (List.getElem?_eq_some_iff.1 hj).1; simpa using this
    rw [List.getElem?_map, List.getElem?_range hjl] at hj
    injection hj with hj
    subst hj
    have e := hG j hjl i hi2
    rw [plain_add] at e
    rw [Nat.add_assoc]
    exact e
theorem cells_Host : Try.prog.cellsOf 98 = 4 := by kernel_rfl
theorem cells_sHost : Try.prog.cellsOf 27 = 1 := by kernel_rfl
theorem open_sHost {fuel : Nat} {x : DataW H × List MemPlace} (hf : DataW.trod enc Try.prog W base spare held fuel 27 [v] = some x) : ∃ (A : Option Addr) (c : Nat) (l : List Hs), v = .slice A l.length c ∧ Rw 4 hsF W A c l := by
  rcases open_slice Try.underlying27 hf with ⟨h0, _⟩ | ⟨a, len, cap, m, n, D, Pl, hcs, hb, hl, hm, hmm, hx, hi⟩
  · simp at h0
    subst h0
    exact ⟨none, 0, [], rfl, Rw.nil _ _⟩
  · simp at hcs
    subst hcs
    have hel : ∀ i, i < len → ∃ y : Hs, ∀ q, q < 4 → W.cell? (a.add (i * 4 + q)) = some (.int .i64 (hsF y q)) := by
      intro i him
      obtain ⟨cs', hc, ht'⟩ := hi i (by rw [hmm]; split <;> omega)
      rw [cells_Host] at hc
      obtain ⟨_, hcl, hat⟩ := World.cells?_some hc
      obtain ⟨xs, k, -, -, -, hxl, hg⟩ := DataW.trod_struct Try.underlying98 ht'
      have hxl' : xs.length = 4 := hxl
      have g0 : DataW.trod enc Try.prog W base spare held k 3 ((cs'.drop 0).take (Try.prog.cellsOf 3)) = xs[0]? := hg 0 _ rfl
      have g1 : DataW.trod enc Try.prog W base spare held k 3 ((cs'.drop 1).take (Try.prog.cellsOf 3)) = xs[1]? := hg 1 _ rfl
      have g2 : DataW.trod enc Try.prog W base spare held k 3 ((cs'.drop 2).take (Try.prog.cellsOf 3)) = xs[2]? := hg 2 _ rfl
      have g3 : DataW.trod enc Try.prog W base spare held k 3 ((cs'.drop 3).take (Try.prog.cellsOf 3)) = xs[3]? := hg 3 _ rfl
      rw [List.getElem?_eq_getElem (by omega)] at g0 g1 g2 g3
      rw [cells_it] at g0 g1 g2 g3
      match cs', hcl with
      | [c0, c1, c2, c3], _ =>
        obtain ⟨p0, rfl⟩ := open_one64 (u := c0) g0
        obtain ⟨p1, rfl⟩ := open_one64 (u := c1) g1
        obtain ⟨p2, rfl⟩ := open_one64 (u := c2) g2
        obtain ⟨p3, rfl⟩ := open_one64 (u := c3) g3
        have e0 := hat 0 (by omega)
        have e1 := hat 1 (by omega)
        have e2 := hat 2 (by omega)
        have e3 := hat 3 (by omega)
        rw [Go.Deep.add_add] at e0 e1 e2 e3
        refine ⟨⟨p0, p1, p2, p3⟩, fun q hq => ?_⟩
        rcases (by omega : q = 0 ∨ q = 1 ∨ q = 2 ∨ q = 3) with rfl | rfl | rfl | rfl
        · simpa [hsF] using e0
        · simpa [hsF] using e1
        · simpa [hsF] using e2
        · simpa [hsF] using e3
    have inh : Inhabited Hs := ⟨⟨0, 0, 0, 0⟩⟩
    obtain ⟨G, hG⟩ := choose_lt hel
    refine ⟨some a, cap, (List.range len).map G, by simp, by simpa using hl, hm, fun h0 => ?_⟩
    have h0' : 0 < len := by simpa using h0
    obtain ⟨b, off, rfl, hlt⟩ := add_spot (by simpa using hG 0 h0' 0 (by omega))
    refine ⟨b, off, rfl, hlt, fun j q hj i hi2 => ?_⟩
    have hjl : j < len := by have := (List.getElem?_eq_some_iff.1 hj).1; simpa using this
    rw [List.getElem?_map, List.getElem?_range hjl] at hj
    injection hj with hj
    subst hj
    have e := hG j hjl i hi2
    rw [plain_add] at e
    rw [Nat.add_assoc]
    exact e
theorem open_site (h : DataW.Trod enc Try.prog W base spare held 29 v d p) (hv : Value.okWide Try.prog W r b0 29 v) : ∃ (q : SP) (s : SiteD), v = siV q s ∧ SiAt W q s := by
  obtain ⟨⟨l⟩, rfl, hsz⟩ := okWide_struct Try.underlying29 hv
  obtain ⟨fuel, hf⟩ := h
  obtain ⟨xs, k, -, -, -, hl, hg⟩ := DataW.trod_struct Try.underlying29 hf
  have hlen : l.length = 7 := hsz.trans cells_site
  have hxl : xs.length = 7 := hl
  have g0 : DataW.trod enc Try.prog W base spare held k 22 ((l.drop 0).take (Try.prog.cellsOf 22)) = xs[0]? := hg 0 _ rfl
  have g1 : DataW.trod enc Try.prog W base spare held k 23 ((l.drop 1).take (Try.prog.cellsOf 23)) = xs[1]? := hg 1 _ rfl
  have g2 : DataW.trod enc Try.prog W base spare held k 24 ((l.drop 2).take (Try.prog.cellsOf 24)) = xs[2]? := hg 2 _ rfl
  have g3 : DataW.trod enc Try.prog W base spare held k 25 ((l.drop 3).take (Try.prog.cellsOf 25)) = xs[3]? := hg 3 _ rfl
  have g4 : DataW.trod enc Try.prog W base spare held k 3 ((l.drop 4).take (Try.prog.cellsOf 3)) = xs[4]? := hg 4 _ rfl
  have g5 : DataW.trod enc Try.prog W base spare held k 26 ((l.drop 5).take (Try.prog.cellsOf 26)) = xs[5]? := hg 5 _ rfl
  have g6 : DataW.trod enc Try.prog W base spare held k 27 ((l.drop 6).take (Try.prog.cellsOf 27)) = xs[6]? := hg 6 _ rfl
  rw [List.getElem?_eq_getElem (by omega)] at g0 g1 g2 g3 g4 g5 g6
  rw [cells_sFeed] at g0
  rw [cells_sBreaker] at g1
  rw [cells_sLoop] at g2
  rw [cells_sRack] at g3
  rw [cells_it] at g4
  rw [cells_sLink] at g5
  rw [cells_sHost] at g6
  match l, hlen with
  | [c0, c1, c2, c3, c4, c5, c6], _ =>
    obtain ⟨A1, k1, l1, rfl, h1⟩ := open_sFeed (v := c0) g0
    obtain ⟨A2, k2, l2, rfl, h2⟩ := open_sBreaker (v := c1) g1
    obtain ⟨A3, k3, l3, rfl, h3⟩ := open_sLoop (v := c2) g2
    obtain ⟨A4, k4, l4, rfl, h4⟩ := open_sRack (v := c3) g3
    obtain ⟨n, rfl⟩ := open_one64 (u := c4) g4
    obtain ⟨A5, k5, l5, rfl, h5⟩ := open_sLink (v := c5) g5
    obtain ⟨A6, k6, l6, rfl, h6⟩ := open_sHost (v := c6) g6
    exact ⟨⟨A1, k1, A2, k2, A3, k3, A4, k4, A5, k5, A6, k6⟩, ⟨l1, l2, l3, l4, n, l5, l6⟩, rfl, h1, h2, h3, h4, h5, h6⟩
end
end Go.Proofs.Ytplncglgolhfaaa
