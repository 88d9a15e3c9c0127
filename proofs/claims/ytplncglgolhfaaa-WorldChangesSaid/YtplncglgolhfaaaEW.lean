/-
  DERIVED. From a row's claim to the walks: wishes, worlds, replicas and host states that come in (written by gen/world_EW.py).
-/
import Derived.Test.YtplncglgolhfaaaCJ
import Derived.Test.YtplncglgolhfaaaEA
namespace Go.Proofs.Ytplncglgolhfaaa
open Go.ChangeShapes Go.WideShapes Go.Deep Go.RowKit
set_option maxRecDepth 100000
set_option linter.unusedSimpArgs false
set_option linter.unusedVariables false

theorem cells_ph : Try.prog.cellsOf 49 = 1 := by kernel_rfl
theorem cells_dm : Try.prog.cellsOf 61 = 1 := by kernel_rfl
theorem cells_world : Try.prog.cellsOf 36 = 2 := by kernel_rfl
theorem cells_wish : Try.prog.cellsOf 32 = 1 := by kernel_rfl
theorem cells_sint : Try.prog.cellsOf 44 = 1 := by kernel_rfl
section
variable {H : Type} {enc : TypeId × Value → H} {W : World} {base : Nat} {spare : Nat → Bool} {held : Bool} {r : Go.Reach} {b0 : Nat} {v : Value} {d : DataW H} {p : List MemPlace}
theorem open_oneP {fuel : Nat} {x : DataW H × List MemPlace} {u : Value} (hf : DataW.trod enc Try.prog W base spare held fuel 49 [u] = some x) : ∃ n : Nat, u = .int .u8 (n : Int) ∧ n < 256 := by
  obtain ⟨n, g, -, hw⟩ := DataW.trod_int Try.underlying49 hf
  simp at g
  obtain ⟨m, rfl, hm⟩ := u8_wf hw
  exact ⟨m, g, hm⟩
theorem open_oneD {fuel : Nat} {x : DataW H × List MemPlace} {u : Value} (hf : DataW.trod enc Try.prog W base spare held fuel 61 [u] = some x) : ∃ n : Nat, u = .int .u8 (n : Int) ∧ n < 256 := by
  obtain ⟨n, g, -, hw⟩ := DataW.trod_int Try.underlying61 hf
  simp at g
  obtain ⟨m, rfl, hm⟩ := u8_wf hw
  exact ⟨m, g, hm⟩
theorem add_spot2 {w : World} {a : Addr} {v : Value} (h : w.cell? (a.add 0) = some v) : ∃ b o, a = ⟨b, o, none⟩ ∧ b < w.heap.size := add_spot h
/-- Numbers. -/
theorem open_sInt {fuel : Nat} {x : DataW H × List MemPlace} (hf : DataW.trod enc Try.prog W base spare held fuel 44 [v] = some x) : ∃ (A : Option Addr) (c : Nat) (l : List Int), v = .slice A l.length c ∧ Rv 1 inV W A c l := by
  rcases open_slice Try.underlying44 hf with ⟨h0, _⟩ | ⟨a, len, cap, m, n, D, Pl, hcs, hb, hl, hm, hmm, hx, hi⟩
  · simp at h0
    subst h0
    exact ⟨none, 0, [], rfl, Rv.nil _⟩
  · simp at hcs
    subst hcs
    have hel : ∀ i, i < len → ∃ y : Int, W.cell? (a.add (i * 1)) = some (.int .i64 y) := by
      intro i him
      obtain ⟨cs', hc, ht'⟩ := hi i (by rw [hmm]; split <;> omega)
      rw [cells_it] at hc
      obtain ⟨_, hcl, hat⟩ := World.cells?_some hc
      match cs', hcl with
      | [c0], _ =>
        obtain ⟨p0, rfl⟩ := open_one64 (u := c0) ht'
        have e0 := hat 0 (by omega)
        rw [Go.Deep.add_add] at e0
        exact ⟨p0, by simpa using e0⟩
    obtain ⟨G, hG⟩ := choose_lt hel
    refine ⟨some a, cap, (List.range len).map G, by simp, by simpa using hl, hm, (by intro h; cases h), fun h0 => ?_⟩
    have h0' : 0 < len := by simpa using h0
    obtain ⟨b, off, rfl, hlt⟩ := add_spot (by simpa using hG 0 h0')
    refine ⟨b, off, rfl, hlt, fun j q hj i hi2 => ?_⟩
    have hjl : j < len := by have := (List.getElem?_eq_some_iff.1 hj).1; simpa using this
    rw [List.getElem?_map, List.getElem?_range hjl] at hj
    injection hj with hj
    subst hj
    obtain rfl : i = 0 := by omega
    have e := hG j hjl
    rw [plain_add] at e
    exact e
theorem cells_Near : Try.prog.cellsOf 100 = 2 := by kernel_rfl
theorem cells_sNear : Try.prog.cellsOf 62 = 1 := by kernel_rfl
theorem open_sNear {fuel : Nat} {x : DataW H × List MemPlace} (hf : DataW.trod enc Try.prog W base spare held fuel 62 [v] = some x) : ∃ (A : Option Addr) (c : Nat) (l : List Nr), v = .slice A l.length c ∧ Rv 2 nrV W A c l := by
  rcases open_slice Try.underlying62 hf with ⟨h0, _⟩ | ⟨a, len, cap, m, n, D, Pl, hcs, hb, hl, hm, hmm, hx, hi⟩
  · simp at h0
    subst h0
    exact ⟨none, 0, [], rfl, Rv.nil _⟩
  · simp at hcs
    subst hcs
    have hel : ∀ i, i < len → ∃ y : Nr, (∀ q, q < 2 → W.cell? (a.add (i * 2 + q)) = some (nrV y q)) := by
      intro i him
      obtain ⟨cs', hc, ht'⟩ := hi i (by rw [hmm]; split <;> omega)
      rw [cells_Near] at hc
      obtain ⟨_, hcl, hat⟩ := World.cells?_some hc
      obtain ⟨xs, k, -, -, -, hxl, hg⟩ := DataW.trod_struct Try.underlying100 ht'
      have hxl' : xs.length = 2 := hxl
      have g0 : DataW.trod enc Try.prog W base spare held k 3 ((cs'.drop 0).take (Try.prog.cellsOf 3)) = xs[0]? := hg 0 _ rfl
      have g1 : DataW.trod enc Try.prog W base spare held k 3 ((cs'.drop 1).take (Try.prog.cellsOf 3)) = xs[1]? := hg 1 _ rfl
      rw [List.getElem?_eq_getElem (by omega)] at g0 g1
      rw [cells_it] at g0
      rw [cells_it] at g1
      match cs', hcl with
      | [c0, c1], _ =>
        obtain ⟨p0, rfl⟩ := open_one64 (u := c0) g0
        obtain ⟨p1, rfl⟩ := open_one64 (u := c1) g1
        have e0 := hat 0 (by omega)
        have e1 := hat 1 (by omega)
        rw [Go.Deep.add_add] at e0 e1
        refine ⟨⟨p0, p1⟩, fun q hq => ?_⟩
        rcases (by omega : q = 0 ∨ q = 1) with rfl | rfl
        · simpa [nrV] using e0
        · simpa [nrV] using e1
    have inh : Inhabited Nr := ⟨⟨0, 0⟩⟩
    obtain ⟨G, hG⟩ := choose_lt hel
    refine ⟨some a, cap, (List.range len).map G, by simp, ⟨by simpa using hl, hm, (by intro h; cases h), fun h0 => ?_⟩⟩
    have h0' : 0 < len := by simpa using h0
    obtain ⟨b, off, rfl, hlt⟩ := add_spot (by simpa using hG 0 h0' 0 (by omega))
    refine ⟨b, off, rfl, hlt, fun j q hj i hi2 => ?_⟩
    have hjl : j < len := by have := (List.getElem?_eq_some_iff.1 hj).1; simpa using this
    rw [List.getElem?_map, List.getElem?_range hjl] at hj
    injection hj with hj
    subst hj
    have e := hG j hjl i hi2
    rw [plain_add] at e
    rw [Nat.add_assoc]
    exact e
theorem cells_Replica : Try.prog.cellsOf 41 = 2 := by kernel_rfl
theorem cells_sReplica : Try.prog.cellsOf 34 = 1 := by kernel_rfl
theorem open_sReplica {fuel : Nat} {x : DataW H × List MemPlace} (hf : DataW.trod enc Try.prog W base spare held fuel 34 [v] = some x) : ∃ (A : Option Addr) (c : Nat) (l : List Rep), v = .slice A l.length c ∧ Rv 2 repV W A c l := by
  rcases open_slice Try.underlying34 hf with ⟨h0, _⟩ | ⟨a, len, cap, m, n, D, Pl, hcs, hb, hl, hm, hmm, hx, hi⟩
  · simp at h0
    subst h0
    exact ⟨none, 0, [], rfl, Rv.nil _⟩
  · simp at hcs
    subst hcs
    have hel : ∀ i, i < len → ∃ y : Rep, (∀ q, q < 2 → W.cell? (a.add (i * 2 + q)) = some (repV y q)) := by
      intro i him
      obtain ⟨cs', hc, ht'⟩ := hi i (by rw [hmm]; split <;> omega)
      rw [cells_Replica] at hc
      obtain ⟨_, hcl, hat⟩ := World.cells?_some hc
      obtain ⟨xs, k, -, -, -, hxl, hg⟩ := DataW.trod_struct Try.underlying41 ht'
      have hxl' : xs.length = 2 := hxl
      have g0 : DataW.trod enc Try.prog W base spare held k 3 ((cs'.drop 0).take (Try.prog.cellsOf 3)) = xs[0]? := hg 0 _ rfl
      have g1 : DataW.trod enc Try.prog W base spare held k 3 ((cs'.drop 1).take (Try.prog.cellsOf 3)) = xs[1]? := hg 1 _ rfl
      rw [List.getElem?_eq_getElem (by omega)] at g0 g1
      rw [cells_it] at g0
      rw [cells_it] at g1
      match cs', hcl with
      | [c0, c1], _ =>
        obtain ⟨p0, rfl⟩ := open_one64 (u := c0) g0
        obtain ⟨p1, rfl⟩ := open_one64 (u := c1) g1
        have e0 := hat 0 (by omega)
        have e1 := hat 1 (by omega)
        rw [Go.Deep.add_add] at e0 e1
        refine ⟨⟨p0, p1⟩, fun q hq => ?_⟩
        rcases (by omega : q = 0 ∨ q = 1) with rfl | rfl
        · simpa [repV] using e0
        · simpa [repV] using e1
    have inh : Inhabited Rep := ⟨⟨0, 0⟩⟩
    obtain ⟨G, hG⟩ := choose_lt hel
    refine ⟨some a, cap, (List.range len).map G, by simp, ⟨by simpa using hl, hm, (by intro h; cases h), fun h0 => ?_⟩⟩
    have h0' : 0 < len := by simpa using h0
    obtain ⟨b, off, rfl, hlt⟩ := add_spot (by simpa using hG 0 h0' 0 (by omega))
    refine ⟨b, off, rfl, hlt, fun j q hj i hi2 => ?_⟩
    have hjl : j < len := by have := (List.getElem?_eq_some_iff.1 hj).1; simpa using this
    rw [List.getElem?_map, List.getElem?_range hjl] at hj
    injection hj with hj
    subst hj
    have e := hG j hjl i hi2
    rw [plain_add] at e
    rw [Nat.add_assoc]
    exact e
theorem cells_HostState : Try.prog.cellsOf 51 = 2 := by kernel_rfl
theorem cells_sHostState : Try.prog.cellsOf 33 = 1 := by kernel_rfl
theorem open_sHostState {fuel : Nat} {x : DataW H × List MemPlace} (hf : DataW.trod enc Try.prog W base spare held fuel 33 [v] = some x) : ∃ (A : Option Addr) (c : Nat) (l : List Hst), v = .slice A l.length c ∧ Rv 2 hstV W A c l ∧ ∀ h ∈ l, h.phase < 256 := by
  rcases open_slice Try.underlying33 hf with ⟨h0, _⟩ | ⟨a, len, cap, m, n, D, Pl, hcs, hb, hl, hm, hmm, hx, hi⟩
  · simp at h0
    subst h0
    exact ⟨none, 0, [], rfl, Rv.nil _, by simp⟩
  · simp at hcs
    subst hcs
    have hel : ∀ i, i < len → ∃ y : Hst, (∀ q, q < 2 → W.cell? (a.add (i * 2 + q)) = some (hstV y q)) ∧ y.phase < 256 := by
      intro i him
      obtain ⟨cs', hc, ht'⟩ := hi i (by rw [hmm]; split <;> omega)
      rw [cells_HostState] at hc
      obtain ⟨_, hcl, hat⟩ := World.cells?_some hc
      obtain ⟨xs, k, -, -, -, hxl, hg⟩ := DataW.trod_struct Try.underlying51 ht'
      have hxl' : xs.length = 2 := hxl
      have g0 : DataW.trod enc Try.prog W base spare held k 49 ((cs'.drop 0).take (Try.prog.cellsOf 49)) = xs[0]? := hg 0 _ rfl
      have g1 : DataW.trod enc Try.prog W base spare held k 3 ((cs'.drop 1).take (Try.prog.cellsOf 3)) = xs[1]? := hg 1 _ rfl
      rw [List.getElem?_eq_getElem (by omega)] at g0 g1
      rw [cells_ph] at g0
      rw [cells_it] at g1
      match cs', hcl with
      | [c0, c1], _ =>
        obtain ⟨p0, rfl, hp⟩ := open_oneP (u := c0) g0
        obtain ⟨p1, rfl⟩ := open_one64 (u := c1) g1
        have e0 := hat 0 (by omega)
        have e1 := hat 1 (by omega)
        rw [Go.Deep.add_add] at e0 e1
        refine ⟨⟨p0, p1⟩, ⟨fun q hq => ?_, hp⟩⟩
        rcases (by omega : q = 0 ∨ q = 1) with rfl | rfl
        · simpa [hstV] using e0
        · simpa [hstV] using e1
    have inh : Inhabited Hst := ⟨⟨0, 0⟩⟩
    obtain ⟨G, hG⟩ := choose_lt hel
    refine ⟨some a, cap, (List.range len).map G, by simp, ⟨⟨by simpa using hl, hm, (by intro h; cases h), fun h0 => ?_⟩, fun h hh => ?_⟩⟩
    · have h0' : 0 < len := by simpa using h0
      obtain ⟨b, off, rfl, hlt⟩ := add_spot (by simpa using (hG 0 h0').1 0 (by omega))
      refine ⟨b, off, rfl, hlt, fun j q hj i hi2 => ?_⟩
      have hjl : j < len := by have := (List.getElem?_eq_some_iff.1 hj).1; simpa using this
      rw [List.getElem?_map, List.getElem?_range hjl] at hj
      injection hj with hj
      subst hj
      have e := (hG j hjl).1 i hi2
      rw [plain_add] at e
      rw [Nat.add_assoc]
      exact e
    · obtain ⟨i, hi2, rfl⟩ := List.mem_map.1 hh
      exact (hG i (List.mem_range.1 hi2)).2
theorem cells_Service : Try.prog.cellsOf 64 = 8 := by kernel_rfl
theorem cells_sService : Try.prog.cellsOf 30 = 1 := by kernel_rfl
theorem open_sService {fuel : Nat} {x : DataW H × List MemPlace} (hf : DataW.trod enc Try.prog W base spare held fuel 30 [v] = some x) : ∃ (A : Option Addr) (c : Nat) (l : List (Svc × SvA)), v = .slice A l.length c ∧ WiAt W A c l := by
  rcases open_slice Try.underlying30 hf with ⟨h0, _⟩ | ⟨a, len, cap, m, n, D, Pl, hcs, hb, hl, hm, hmm, hx, hi⟩
  · simp at h0
    subst h0
    exact ⟨none, 0, [], rfl, ⟨Rv.nil _, fun x hx => by cases hx⟩⟩
  · simp at hcs
    subst hcs
    have hel : ∀ i, i < len → ∃ y : Svc × SvA, (∀ q, q < 8 → W.cell? (a.add (i * 8 + q)) = some (svV y q)) ∧ SvAt W y := by
      intro i him
      obtain ⟨cs', hc, ht'⟩ := hi i (by rw [hmm]; split <;> omega)
      rw [cells_Service] at hc
      obtain ⟨_, hcl, hat⟩ := World.cells?_some hc
      obtain ⟨xs, k, -, -, -, hxl, hg⟩ := DataW.trod_struct Try.underlying64 ht'
      have hxl' : xs.length = 8 := hxl
      have g0 : DataW.trod enc Try.prog W base spare held k 3 ((cs'.drop 0).take (Try.prog.cellsOf 3)) = xs[0]? := hg 0 _ rfl
      have g1 : DataW.trod enc Try.prog W base spare held k 3 ((cs'.drop 1).take (Try.prog.cellsOf 3)) = xs[1]? := hg 1 _ rfl
      have g2 : DataW.trod enc Try.prog W base spare held k 3 ((cs'.drop 2).take (Try.prog.cellsOf 3)) = xs[2]? := hg 2 _ rfl
      have g3 : DataW.trod enc Try.prog W base spare held k 61 ((cs'.drop 3).take (Try.prog.cellsOf 61)) = xs[3]? := hg 3 _ rfl
      have g4 : DataW.trod enc Try.prog W base spare held k 3 ((cs'.drop 4).take (Try.prog.cellsOf 3)) = xs[4]? := hg 4 _ rfl
      have g5 : DataW.trod enc Try.prog W base spare held k 44 ((cs'.drop 5).take (Try.prog.cellsOf 44)) = xs[5]? := hg 5 _ rfl
      have g6 : DataW.trod enc Try.prog W base spare held k 62 ((cs'.drop 6).take (Try.prog.cellsOf 62)) = xs[6]? := hg 6 _ rfl
      have g7 : DataW.trod enc Try.prog W base spare held k 3 ((cs'.drop 7).take (Try.prog.cellsOf 3)) = xs[7]? := hg 7 _ rfl
      rw [List.getElem?_eq_getElem (by omega)] at g0 g1 g2 g3 g4 g5 g6 g7
      rw [cells_it] at g0
      rw [cells_it] at g1
      rw [cells_it] at g2
      rw [cells_dm] at g3
      rw [cells_it] at g4
      rw [cells_sint] at g5
      rw [cells_sNear] at g6
      rw [cells_it] at g7
      match cs', hcl with
      | [c0, c1, c2, c3, c4, c5, c6, c7], _ =>
        obtain ⟨p0, rfl⟩ := open_one64 (u := c0) g0
        obtain ⟨p1, rfl⟩ := open_one64 (u := c1) g1
        obtain ⟨p2, rfl⟩ := open_one64 (u := c2) g2
        obtain ⟨p3, rfl, hp⟩ := open_oneD (u := c3) g3
        obtain ⟨p4, rfl⟩ := open_one64 (u := c4) g4
        obtain ⟨A5, k5, p5, rfl, h5⟩ := open_sInt (v := c5) g5
        obtain ⟨A6, k6, p6, rfl, h6⟩ := open_sNear (v := c6) g6
        obtain ⟨p7, rfl⟩ := open_one64 (u := c7) g7
        have e0 := hat 0 (by omega)
        have e1 := hat 1 (by omega)
        have e2 := hat 2 (by omega)
        have e3 := hat 3 (by omega)
        have e4 := hat 4 (by omega)
        have e5 := hat 5 (by omega)
        have e6 := hat 6 (by omega)
        have e7 := hat 7 (by omega)
        rw [Go.Deep.add_add] at e0 e1 e2 e3 e4 e5 e6 e7
        refine ⟨(⟨p0, p1, p2, p3, p4, p5, p6, p7⟩, ⟨A5, k5, A6, k6⟩), fun q hq => ?_, ⟨h5, h6, hp⟩⟩
        rcases (by omega : q = 0 ∨ q = 1 ∨ q = 2 ∨ q = 3 ∨ q = 4 ∨ q = 5 ∨ q = 6 ∨ q = 7) with rfl | rfl | rfl | rfl | rfl | rfl | rfl | rfl
        · simpa [svV] using e0
        · simpa [svV] using e1
        · simpa [svV] using e2
        · simpa [svV] using e3
        · simpa [svV] using e4
        · simpa [svV] using e5
        · simpa [svV] using e6
        · simpa [svV] using e7
    have inh : Inhabited (Svc × SvA) := ⟨(⟨0, 0, 0, 0, 0, [], [], 0⟩, ⟨none, 0, none, 0⟩)⟩
    obtain ⟨G, hG⟩ := choose_lt hel
    refine ⟨some a, cap, (List.range len).map G, by simp, ⟨⟨by simpa using hl, hm, (by intro h; cases h), fun h0 => ?_⟩, fun h hh => ?_⟩⟩
    · have h0' : 0 < len := by simpa using h0
      obtain ⟨b, off, rfl, hlt⟩ := add_spot (by simpa using (hG 0 h0').1 0 (by omega))
      refine ⟨b, off, rfl, hlt, fun j q hj i hi2 => ?_⟩
      have hjl : j < len := by have := (List.getElem?_eq_some_iff.1 hj).1; simpa using this
      rw [List.getElem?_map, List.getElem?_range hjl] at hj
      injection hj with hj
      subst hj
      have e := (hG j hjl).1 i hi2
      rw [plain_add] at e
      rw [Nat.add_assoc]
      exact e
    · obtain ⟨i, hi2, rfl⟩ := List.mem_map.1 hh
      exact (hG i (List.mem_range.1 hi2)).2
theorem open_wish (h : DataW.Trod enc Try.prog W base spare held 32 v d p) (hv : Value.okWide Try.prog W r b0 32 v) : ∃ (A : Option Addr) (c : Nat) (l : List (Svc × SvA)), v = .agg #[.slice A l.length c] ∧ WiAt W A c l := by
  obtain ⟨⟨l⟩, rfl, hsz⟩ := okWide_struct Try.underlying32 hv
  obtain ⟨fuel, hf⟩ := h
  obtain ⟨xs, k, -, -, -, hl, hg⟩ := DataW.trod_struct Try.underlying32 hf
  have hlen : l.length = 1 := hsz.trans cells_wish
  have hxl : xs.length = 1 := hl
  have g0 : DataW.trod enc Try.prog W base spare held k 30 ((l.drop 0).take (Try.prog.cellsOf 30)) = xs[0]? := hg 0 _ rfl
  rw [List.getElem?_eq_getElem (by omega), cells_sService] at g0
  match l, hlen with
  | [c0], _ =>
    obtain ⟨A1, k1, l1, rfl, h1⟩ := open_sService (v := c0) g0
    exact ⟨A1, k1, l1, rfl, h1⟩
theorem open_world (h : DataW.Trod enc Try.prog W base spare held 36 v d p) (hv : Value.okWide Try.prog W r b0 36 v) : ∃ (q : WP) (s : WorldD), v = .agg #[.slice q.a1 s.hosts.length q.c1, .slice q.a2 s.reps.length q.c2] ∧ WoAt W q s := by
  obtain ⟨⟨l⟩, rfl, hsz⟩ := okWide_struct Try.underlying36 hv
  obtain ⟨fuel, hf⟩ := h
  obtain ⟨xs, k, -, -, -, hl, hg⟩ := DataW.trod_struct Try.underlying36 hf
  have hlen : l.length = 2 := hsz.trans cells_world
  have hxl : xs.length = 2 := hl
  have g0 : DataW.trod enc Try.prog W base spare held k 33 ((l.drop 0).take (Try.prog.cellsOf 33)) = xs[0]? := hg 0 _ rfl
  have g1 : DataW.trod enc Try.prog W base spare held k 34 ((l.drop 1).take (Try.prog.cellsOf 34)) = xs[1]? := hg 1 _ rfl
  rw [List.getElem?_eq_getElem (by omega)] at g0 g1
  rw [cells_sHostState] at g0
  rw [cells_sReplica] at g1
  match l, hlen with
  | [c0, c1], _ =>
    obtain ⟨A1, k1, l1, rfl, h1, hp⟩ := open_sHostState (v := c0) g0
    obtain ⟨A2, k2, l2, rfl, h2⟩ := open_sReplica (v := c1) g1
    exact ⟨⟨A1, k1, A2, k2⟩, ⟨l1, l2⟩, rfl, ⟨h1, h2, hp⟩⟩
theorem open_rep (h : DataW.Trod enc Try.prog W base spare held 41 v d p) (hv : Value.okWide Try.prog W r b0 41 v) : ∃ x : Rep, v = .agg #[.int .i64 x.svc, .int .i64 x.host] := by
  obtain ⟨⟨l⟩, rfl, hsz⟩ := okWide_struct Try.underlying41 hv
  obtain ⟨fuel, hf⟩ := h
  obtain ⟨xs, k, -, -, -, hl, hg⟩ := DataW.trod_struct Try.underlying41 hf
  have hlen : l.length = 2 := hsz.trans cells_Replica
  have hxl : xs.length = 2 := hl
  have g0 : DataW.trod enc Try.prog W base spare held k 3 ((l.drop 0).take (Try.prog.cellsOf 3)) = xs[0]? := hg 0 _ rfl
  have g1 : DataW.trod enc Try.prog W base spare held k 3 ((l.drop 1).take (Try.prog.cellsOf 3)) = xs[1]? := hg 1 _ rfl
  rw [List.getElem?_eq_getElem (by omega)] at g0 g1
  rw [cells_it] at g0 g1
  match l, hlen with
  | [c0, c1], _ =>
    obtain ⟨p0, rfl⟩ := open_one64 (u := c0) g0
    obtain ⟨p1, rfl⟩ := open_one64 (u := c1) g1
    exact ⟨⟨p0, p1⟩, rfl⟩
theorem open_hst (h : DataW.Trod enc Try.prog W base spare held 51 v d p) (hv : Value.okWide Try.prog W r b0 51 v) : ∃ x : Hst, v = .agg #[.int .u8 (x.phase : Int), .int .i64 x.fw] ∧ x.phase < 256 := by
  obtain ⟨⟨l⟩, rfl, hsz⟩ := okWide_struct Try.underlying51 hv
  obtain ⟨fuel, hf⟩ := h
  obtain ⟨xs, k, -, -, -, hl, hg⟩ := DataW.trod_struct Try.underlying51 hf
  have hlen : l.length = 2 := hsz.trans cells_HostState
  have hxl : xs.length = 2 := hl
  have g0 : DataW.trod enc Try.prog W base spare held k 49 ((l.drop 0).take (Try.prog.cellsOf 49)) = xs[0]? := hg 0 _ rfl
  have g1 : DataW.trod enc Try.prog W base spare held k 3 ((l.drop 1).take (Try.prog.cellsOf 3)) = xs[1]? := hg 1 _ rfl
  rw [List.getElem?_eq_getElem (by omega)] at g0 g1
  rw [cells_ph] at g0
  rw [cells_it] at g1
  match l, hlen with
  | [c0, c1], _ =>
    obtain ⟨p0, rfl, hp⟩ := open_oneP (u := c0) g0
    obtain ⟨p1, rfl⟩ := open_one64 (u := c1) g1
    exact ⟨⟨p0, p1⟩, rfl, hp⟩
end
end Go.Proofs.Ytplncglgolhfaaa
