/-
  DERIVED. Several texts in one.
-/
import Derived.ProofKit
import Derived.Test.YtbbadnlaelgmlaaGreatProg
import Derived.WalkKit
import Derived.Below
import Derived.BigQuiet
import Derived.Laws.Rows
import Derived.Laws.OwnMore
import Derived.Lib.Hide
import Derived.Deep.QuietTactic
import Derived.Deep.DrawnRows
import Derived.Deep.AppendLies
import Derived.StillTailTactics
set_option linter.unusedVariables false
set_option linter.unusedSimpArgs false

namespace Go.Proofs.YtbbadnlaelgmlaaGreat
set_option linter.unusedVariables false
set_option linter.unusedSimpArgs false

structure Brk where
  feed : Int
  limit : Int
  slow : Int
  fast : Int
structure Lp where
  carry : Int
  delay : Int
structure Rk where
  row : Int
  brk : Int
  loop : Int
  sw : Int
structure Lk where
  a : Int
  b : Int
  lat : Int
structure Hs where
  rack : Int
  cores : Int
  idle : Int
  per : Int
structure SiteD where
  feeds : List Int
  brks : List Brk
  loops : List Lp
  racks : List Rk
  sw : Int
  links : List Lk
  hosts : List Hs
def brkF (x : Brk) : Nat → Int
  | 0 => x.feed
  | 1 => x.limit
  | 2 => x.slow
  | _ => x.fast
def lpF (x : Lp) : Nat → Int
  | 0 => x.carry
  | _ => x.delay
def rkF (x : Rk) : Nat → Int
  | 0 => x.row
  | 1 => x.brk
  | 2 => x.loop
  | _ => x.sw
def lkF (x : Lk) : Nat → Int
  | 0 => x.a
  | 1 => x.b
  | _ => x.lat
def hsF (x : Hs) : Nat → Int
  | 0 => x.rack
  | 1 => x.cores
  | 2 => x.idle
  | _ => x.per
/-- A number lies outside. -/
def outB (lo hi x : Int) : Bool := decide (x < lo) || decide (hi < x)
def ixB (x many : Int) : Bool := decide (0 ≤ x) && decide (x < many)
/-- All numbers are from lo to hi. -/
def areB (lo hi : Int) (l : List Int) : Bool := !l.any (outB lo hi)
def feedBad (x : Int) : Bool := !areB 0 1000000 [x]
def brkBad (nf : Int) (x : Brk) : Bool := !ixB x.feed nf || !areB 0 1000000 [x.limit, x.slow, x.fast]
def lpBad (x : Lp) : Bool := !areB 0 1000000 [x.carry] || !areB 0 100 [x.delay]
def rkBad (nb nl sw : Int) (x : Rk) : Bool := !ixB x.row 4 || (!ixB x.brk nb || (!ixB x.loop nl || !ixB x.sw sw))
def lkBad (sw : Int) (x : Lk) : Bool := !ixB x.a sw || (!ixB x.b sw || (x.a == x.b || !areB 1 1000000 [x.lat]))
def hsBad (nr : Int) (x : Hs) : Bool := !ixB x.rack nr || (!areB 1 1000 [x.cores] || (!areB 0 10000 [x.idle] || !areB 0 1000 [x.per]))
def goodB {α : Type} (bad : α → Bool) (lo hi : Int) (l : List α) : Bool := areB lo hi [(l.length : Int)] && !l.any bad
def siteOk (s : SiteD) : Bool :=
  areB 1 8 [s.sw] && (goodB feedBad 1 4 s.feeds && (goodB (brkBad s.feeds.length) 1 8 s.brks && (goodB lpBad 1 4 s.loops && (goodB (rkBad s.brks.length s.loops.length s.sw) 1 8 s.racks && (goodB (lkBad s.sw) 0 16 s.links && goodB (hsBad s.racks.length) 1 16 s.hosts)))))
theorem outB_iff {lo hi x : Int} : outB lo hi x = false ↔ lo ≤ x ∧ x ≤ hi := by simp [outB]
theorem ixB_iff {x m : Int} : ixB x m = true ↔ 0 ≤ x ∧ x < m := by simp [ixB]
theorem areB_iff {lo hi : Int} {l : List Int} : areB lo hi l = true ↔ ∀ x ∈ l, lo ≤ x ∧ x ≤ hi := by
  unfold areB
  rw [Bool.not_eq_true', List.any_eq_false]
  exact ⟨fun h x hx => outB_iff.1 (by have := h x hx; simpa using this), fun h x hx => by rw [outB_iff.2 (h x hx)]; simp⟩
theorem areB1 {lo hi x : Int} : areB lo hi [x] = true ↔ lo ≤ x ∧ x ≤ hi := by simp [areB_iff]
theorem goodB_iff {α : Type} {bad : α → Bool} {lo hi : Int} {l : List α} : goodB bad lo hi l = true ↔ (lo ≤ l.length ∧ (l.length : Int) ≤ hi) ∧ ∀ x ∈ l, bad x = false := by
  unfold goodB
  rw [Bool.and_eq_true, areB1, Bool.not_eq_true', List.any_eq_false]
  simp
theorem feedBad_iff {x : Int} : feedBad x = false ↔ 0 ≤ x ∧ x ≤ 1000000 := by
  unfold feedBad; rw [Bool.not_eq_false', areB1]
theorem brkBad_iff {nf : Int} {x : Brk} : brkBad nf x = false ↔ (0 ≤ x.feed ∧ x.feed < nf) ∧ (0 ≤ x.limit ∧ x.limit ≤ 1000000) ∧ (0 ≤ x.slow ∧ x.slow ≤ 1000000) ∧ 0 ≤ x.fast ∧ x.fast ≤ 1000000 := by
  unfold brkBad
  rw [Bool.or_eq_false_iff, Bool.not_eq_false', Bool.not_eq_false', ixB_iff, areB_iff]
  simp
theorem lpBad_iff {x : Lp} : lpBad x = false ↔ (0 ≤ x.carry ∧ x.carry ≤ 1000000) ∧ 0 ≤ x.delay ∧ x.delay ≤ 100 := by
  unfold lpBad
  rw [Bool.or_eq_false_iff, Bool.not_eq_false', Bool.not_eq_false', areB1, areB1]
theorem rkBad_iff {nb nl sw : Int} {x : Rk} : rkBad nb nl sw x = false ↔ (0 ≤ x.row ∧ x.row < 4) ∧ (0 ≤ x.brk ∧ x.brk < nb) ∧ (0 ≤ x.loop ∧ x.loop < nl) ∧ 0 ≤ x.sw ∧ x.sw < sw := by
  unfold rkBad
  simp only [Bool.or_eq_false_iff, Bool.not_eq_false', ixB_iff]
theorem lkBad_iff {sw : Int} {x : Lk} : lkBad sw x = false ↔ (0 ≤ x.a ∧ x.a < sw) ∧ (0 ≤ x.b ∧ x.b < sw) ∧ x.a ≠ x.b ∧ 1 ≤ x.lat ∧ x.lat ≤ 1000000 := by
  unfold lkBad
  simp only [Bool.or_eq_false_iff, Bool.not_eq_false', ixB_iff, areB1, beq_eq_false_iff_ne]
theorem hsBad_iff {nr : Int} {x : Hs} : hsBad nr x = false ↔ (0 ≤ x.rack ∧ x.rack < nr) ∧ (1 ≤ x.cores ∧ x.cores ≤ 1000) ∧ (0 ≤ x.idle ∧ x.idle ≤ 10000) ∧ 0 ≤ x.per ∧ x.per ≤ 1000 := by
  unfold hsBad
  simp only [Bool.or_eq_false_iff, Bool.not_eq_false', ixB_iff, areB1]
/-- What a valid site is. -/
structure SiteOk (s : SiteD) : Prop where
  sw : 1 ≤ s.sw ∧ s.sw ≤ 8
  nfeeds : 1 ≤ s.feeds.length ∧ s.feeds.length ≤ 4
  feeds : ∀ x ∈ s.feeds, 0 ≤ x ∧ x ≤ 1000000
  nbrks : 1 ≤ s.brks.length ∧ s.brks.length ≤ 8
  brks : ∀ x ∈ s.brks, (0 ≤ x.feed ∧ x.feed < s.feeds.length) ∧ (0 ≤ x.limit ∧ x.limit ≤ 1000000) ∧ (0 ≤ x.slow ∧ x.slow ≤ 1000000) ∧ 0 ≤ x.fast ∧ x.fast ≤ 1000000
  nloops : 1 ≤ s.loops.length ∧ s.loops.length ≤ 4
  loops : ∀ x ∈ s.loops, (0 ≤ x.carry ∧ x.carry ≤ 1000000) ∧ 0 ≤ x.delay ∧ x.delay ≤ 100
  nracks : 1 ≤ s.racks.length ∧ s.racks.length ≤ 8
  racks : ∀ x ∈ s.racks, (0 ≤ x.row ∧ x.row < 4) ∧ (0 ≤ x.brk ∧ x.brk < s.brks.length) ∧ (0 ≤ x.loop ∧ x.loop < s.loops.length) ∧ 0 ≤ x.sw ∧ x.sw < s.sw
  nlinks : s.links.length ≤ 16
  links : ∀ x ∈ s.links, (0 ≤ x.a ∧ x.a < s.sw) ∧ (0 ≤ x.b ∧ x.b < s.sw) ∧ x.a ≠ x.b ∧ 1 ≤ x.lat ∧ x.lat ≤ 1000000
  nhosts : 1 ≤ s.hosts.length ∧ s.hosts.length ≤ 16
  hosts : ∀ x ∈ s.hosts, (0 ≤ x.rack ∧ x.rack < s.racks.length) ∧ (1 ≤ x.cores ∧ x.cores ≤ 1000) ∧ (0 ≤ x.idle ∧ x.idle ≤ 10000) ∧ 0 ≤ x.per ∧ x.per ≤ 1000
theorem siteOk_iff {s : SiteD} : siteOk s = true ↔ SiteOk s := by
  unfold siteOk
  simp only [Bool.and_eq_true, areB1, goodB_iff]
  constructor
  · rintro ⟨h0, ⟨h1, h2⟩, ⟨h3, h4⟩, ⟨h5, h6⟩, ⟨h7, h8⟩, ⟨h9, h10⟩, h11, h12⟩
    exact ⟨h0, by omega, fun x hx => feedBad_iff.1 (h2 x hx), by omega, fun x hx => brkBad_iff.1 (h4 x hx), by omega, fun x hx => lpBad_iff.1 (h6 x hx), by omega, fun x hx => rkBad_iff.1 (h8 x hx), by omega, fun x hx => lkBad_iff.1 (h10 x hx), by omega, fun x hx => hsBad_iff.1 (h12 x hx)⟩
  · intro h
    exact ⟨h.sw, ⟨by have := h.nfeeds; omega, fun x hx => feedBad_iff.2 (h.feeds x hx)⟩, ⟨by have := h.nbrks; omega, fun x hx => brkBad_iff.2 (h.brks x hx)⟩, ⟨by have := h.nloops; omega, fun x hx => lpBad_iff.2 (h.loops x hx)⟩, ⟨by have := h.nracks; omega, fun x hx => rkBad_iff.2 (h.racks x hx)⟩, ⟨by have := h.nlinks; omega, fun x hx => lkBad_iff.2 (h.links x hx)⟩, by have := h.nhosts; omega, fun x hx => hsBad_iff.2 (h.hosts x hx)⟩
/-- How many domains of a kind a site has that is valid. -/
def cntOf (s : SiteD) : Nat → Int
  | 1 => s.hosts.length
  | 2 => s.racks.length
  | 3 => 4
  | 4 => s.feeds.length
  | 5 => s.loops.length
  | _ => 0
def cntD (s : SiteD) (d : Nat) : Int := if siteOk s = true then cntOf s d else 0
def rackAt (s : SiteD) (h : Nat) : Int := ((s.hosts[h]?).map (·.rack)).getD 0
def rkAt (s : SiteD) (h : Nat) : Rk := ((s.racks[(rackAt s h).toNat]?)).getD ⟨0, 0, 0, 0⟩
def feedAt (s : SiteD) (h : Nat) : Int := ((s.brks[(rkAt s h).brk.toNat]?).map (·.feed)).getD 0
/-- In which domain of a kind a host is. -/
def domAt (s : SiteD) (h : Nat) : Nat → Int
  | 1 => h
  | 2 => rackAt s h
  | 3 => (rkAt s h).row
  | 4 => feedAt s h
  | 5 => (rkAt s h).loop
  | _ => -1
def domD (s : SiteD) (d : Nat) (h : Int) : Int := if siteOk s = true ∧ (1 ≤ d ∧ d ≤ 5) ∧ ixB h s.hosts.length = true then domAt s h.toNat d else -1
/-- The hosts of a domain. -/
def memD (s : SiteD) (d : Nat) (n : Int) : List Int := if ixB n (cntD s d) = true then ((List.range s.hosts.length).filter (fun h => domAt s h d == n)).map (fun (h : Nat) => (h : Int)) else []
theorem rack_ok {s : SiteD} (h : SiteOk s) {k : Nat} (hk : k < s.hosts.length) : ∃ x, s.hosts[k]? = some x ∧ rackAt s k = x.rack ∧ 0 ≤ x.rack ∧ x.rack < s.racks.length := by
  have e : s.hosts[k]? = some s.hosts[k] := List.getElem?_eq_getElem hk
  refine ⟨_, e, by unfold rackAt; rw [e]; rfl, ?_⟩
  exact (h.hosts _ (List.getElem_mem hk)).1
theorem rk_ok {s : SiteD} (h : SiteOk s) {k : Nat} (hk : k < s.hosts.length) : ∃ m : Nat, rackAt s k = m ∧ m < s.racks.length ∧ s.racks[m]? = some (rkAt s k) ∧ rkAt s k ∈ s.racks := by
  obtain ⟨x, e, hr, h0, h1⟩ := rack_ok h hk
  obtain ⟨m, hm⟩ : ∃ m : Nat, x.rack = m := ⟨x.rack.toNat, by omega⟩
  rw [hm] at hr h1
  have hm1 : m < s.racks.length := by omega
  have e2 : s.racks[m]? = some s.racks[m] := List.getElem?_eq_getElem hm1
  have e3 : rkAt s k = s.racks[m] := by unfold rkAt; rw [hr]; simp [e2]
  exact ⟨m, hr, hm1, by rw [e2, e3], by rw [e3]; exact List.getElem_mem hm1⟩
theorem feed_ok {s : SiteD} (h : SiteOk s) {k : Nat} (hk : k < s.hosts.length) : ∃ (m : Nat) (x : Brk), (rkAt s k).brk = m ∧ m < s.brks.length ∧ s.brks[m]? = some x ∧ feedAt s k = x.feed ∧ 0 ≤ x.feed ∧ x.feed < s.feeds.length := by
  obtain ⟨-, -, -, -, hr⟩ := rk_ok h hk
  obtain ⟨-, ⟨h0, h1⟩, -⟩ := h.racks _ hr
  obtain ⟨m, hm⟩ : ∃ m : Nat, (rkAt s k).brk = m := ⟨(rkAt s k).brk.toNat, by omega⟩
  rw [hm] at h1
  have hm1 : m < s.brks.length := by omega
  have e2 : s.brks[m]? = some s.brks[m] := List.getElem?_eq_getElem hm1
  exact ⟨m, _, hm, hm1, e2, by unfold feedAt; rw [hm]; simp [e2], (h.brks _ (List.getElem_mem hm1)).1⟩
/-- A host's domain is one of the domains. -/
theorem dom_in {s : SiteD} (h : SiteOk s) {k : Nat} (hk : k < s.hosts.length) {d : Nat} (hd : 1 ≤ d ∧ d ≤ 5) : 0 ≤ domAt s k d ∧ domAt s k d < cntOf s d := by
  obtain ⟨x, -, hr, h0, h1⟩ := rack_ok h hk
  obtain ⟨m, hm, hm1, -, hrk⟩ := rk_ok h hk
  obtain ⟨-, y, -, -, -, hf, h2, h3⟩ := feed_ok h hk
  obtain ⟨h4, h5, h6, h7⟩ := h.racks _ hrk
  rcases (by omega : d = 1 ∨ d = 2 ∨ d = 3 ∨ d = 4 ∨ d = 5) with rfl | rfl | rfl | rfl | rfl
  · simp only [domAt, cntOf]; omega
  · simp only [domAt, cntOf]; omega
  · simp only [domAt, cntOf]; omega
  · simp only [domAt, cntOf]; omega
  · simp only [domAt, cntOf]; omega
end Go.Proofs.YtbbadnlaelgmlaaGreat

namespace Go.Proofs.YtbbadnlaelgmlaaGreat
set_option linter.unusedVariables false
set_option linter.unusedSimpArgs false

def inB (n lo hi : Int) : Bool := decide (lo ≤ n) && decide (n ≤ hi)
theorem inB_iff {n lo hi : Int} : inB n lo hi = true ↔ lo ≤ n ∧ n ≤ hi := by simp [inB]
theorem all_take_succ {α : Type} {f : α → Bool} {l : List α} {k : Nat} {x : α} (h : l[k]? = some x) (h1 : (l.take k).all f = true) (h2 : f x = true) : (l.take (k + 1)).all f = true := by
  rw [List.take_add_one, h, List.all_append, h1]; simp [h2]
theorem all_false {α : Type} {f : α → Bool} {l : List α} {k : Nat} {x : α} (h : l[k]? = some x) (h2 : f x = false) : l.all f = false := by
  rw [List.all_eq_false]; exact ⟨x, List.mem_of_getElem? h, by rw [h2]; simp⟩
end Go.Proofs.YtbbadnlaelgmlaaGreat

namespace Go.Proofs.YtbbadnlaelgmlaaGreat
open Go.RowKit
attribute [local go_sem] Oper.semAt_some
set_option maxRecDepth 100000
set_option linter.unusedVariables false
set_option linter.unusedSimpArgs false

theorem below_join {B C : Nat} {a w w' : World} (h : Below B a w) (k : Below C w w') (hc : B ≤ C) : Below B a w' := h.trans (k.mono hc)
theorem below_drewN {B n : Nat} {a w : World} (h : Below B a w) : Below B a (w.drewN n) := ⟨h.os, h.tape, h.output, h.size, h.block⟩
theorem at_lt {X : World} {b : Nat} {o : Obj} (h : X.heap[b]? = some o) : b < X.heap.size := (Array.getElem?_eq_some_iff.1 h).1
theorem heap_alloc_new (w : World) (o : Obj) : (w.alloc o).heap[w.heap.size]? = some o := by unfold World.alloc; simp
theorem cell_of {w : World} {b : Nat} {cs : Array Value} {t : TypeId} {o : Nat} {v : Value} (h : w.heap[b]? = some (.cells cs t (0, 0))) (hv : cs[o]? = some v) : w.cell? ⟨b, o, none⟩ = some v := by
  unfold World.cell?
  simp [h, hv]
/-- Rows of k numbers, as a slice's address and capacity. -/
def Rw {α : Type} (k : Nat) (F : α → Nat → Int) (w : World) (A : Option Addr) (c : Nat) (l : List α) : Prop :=
  l.length ≤ c ∧ c ≤ maxLen ∧ (0 < l.length → ∃ b o, A = some ⟨b, o, none⟩ ∧ b < w.heap.size ∧ ∀ (j : Nat) (x : α), l[j]? = some x → ∀ i, i < k → w.cell? ⟨b, o + j * k + i, none⟩ = some (.int .i64 (F x i)))
section
variable {α : Type} {k : Nat} {F : α → Nat → Int} {w w' : World} {A : Option Addr} {c : Nat} {l : List α}
theorem Rw.on {B : Nat} (h : Rw k F w A c l) (hb : Below B w w') (hB : w.heap.size ≤ B) : Rw k F w' A c l := by
  obtain ⟨h1, h2, h4⟩ := h
  refine ⟨h1, h2, fun h0 => ?_⟩
  obtain ⟨b, o, e, hlt, hc⟩ := h4 h0
  exact ⟨b, o, e, Nat.lt_of_lt_of_le hlt hb.size, fun j x hj i hi => (hb.cell (p := ⟨b, o + j * k + i, none⟩) (by show b < B; omega)).trans (hc j x hj i hi)⟩
theorem Rw.at_ (h : Rw k F w A c l) {j : Nat} {x : α} (hj : l[j]? = some x) : ∃ b o, A = some ⟨b, o, none⟩ ∧ b < w.heap.size ∧ ∀ i, i < k → w.cell? ⟨b, o + j * k + i, none⟩ = some (.int .i64 (F x i)) := by
  obtain ⟨h1, h2, h4⟩ := h
  obtain ⟨b, o, e, hlt, hc⟩ := h4 (by have := (List.getElem?_eq_some_iff.1 hj).1; omega)
  exact ⟨b, o, e, hlt, fun i hi => hc j x hj i hi⟩
theorem Rw.nil (w : World) (A : Option Addr) : Rw k F w A 0 ([] : List α) := ⟨Nat.le_refl _, Nat.zero_le _, fun h => absurd h (Nat.lt_irrefl _)⟩
end
def inF (x : Int) (_ : Nat) : Int := x
theorem rw_lit (l : List Int) (h : l.length ≤ maxLen) (w : World) : Rw 1 inF (w.alloc (.cells (l.map (fun x => Value.int .i64 x)).toArray 3)) (some ⟨w.heap.size, 0, none⟩) l.length l := by
  refine ⟨Nat.le_refl _, h, fun h0 => ⟨w.heap.size, 0, rfl, by rw [World.size_alloc]; omega, fun j x hj i hi => ?_⟩⟩
  refine cell_of (heap_alloc_new _ _) ?_
  obtain rfl : i = 0 := by omega
  simp [hj, inF]
/-- Where a site's lists lie. -/
structure SP where
  a1 : Option Addr
  c1 : Nat
  a2 : Option Addr
  c2 : Nat
  a3 : Option Addr
  c3 : Nat
  a4 : Option Addr
  c4 : Nat
  a5 : Option Addr
  c5 : Nat
  a6 : Option Addr
  c6 : Nat
def siV (p : SP) (s : SiteD) : Value := .agg #[.slice p.a1 s.feeds.length p.c1, .slice p.a2 s.brks.length p.c2, .slice p.a3 s.loops.length p.c3, .slice p.a4 s.racks.length p.c4, .int .i64 s.sw, .slice p.a5 s.links.length p.c5, .slice p.a6 s.hosts.length p.c6]
/-- A site's lists in memory. -/
structure SiAt (w : World) (p : SP) (s : SiteD) : Prop where
  feeds : Rw 1 inF w p.a1 p.c1 s.feeds
  brks : Rw 4 brkF w p.a2 p.c2 s.brks
  loops : Rw 2 lpF w p.a3 p.c3 s.loops
  racks : Rw 4 rkF w p.a4 p.c4 s.racks
  links : Rw 3 lkF w p.a5 p.c5 s.links
  hosts : Rw 4 hsF w p.a6 p.c6 s.hosts
theorem SiAt.on {w w' : World} {p : SP} {s : SiteD} {B : Nat} (h : SiAt w p s) (hb : Below B w w') (hB : w.heap.size ≤ B) : SiAt w' p s :=
  ⟨h.feeds.on hb hB, h.brks.on hb hB, h.loops.on hb hB, h.racks.on hb hB, h.links.on hb hB, h.hosts.on hb hB⟩
/-- A site's own block. -/
def SiBox (w : World) (b : Nat) (p : SP) (s : SiteD) : Prop :=
  w.heap[b]? = some (.cells #[.slice p.a1 s.feeds.length p.c1, .slice p.a2 s.brks.length p.c2, .slice p.a3 s.loops.length p.c3, .slice p.a4 s.racks.length p.c4, .int .i64 s.sw, .slice p.a5 s.links.length p.c5, .slice p.a6 s.hosts.length p.c6] 29 (0, 0))
theorem SiBox.on {w w' : World} {b : Nat} {p : SP} {s : SiteD} {B : Nat} (h : SiBox w b p s) (hb : Below B w w') (hB : w.heap.size ≤ B) : SiBox w' b p s :=
  (hb.block _ (Nat.lt_of_lt_of_le (at_lt h) hB)).trans h
theorem SiBox.lt {w : World} {b : Nat} {p : SP} {s : SiteD} (h : SiBox w b p s) : b < w.heap.size := at_lt h
section
variable {w : World} {b : Nat} {p : SP} {s : SiteD}
theorem SiBox.c0 (h : SiBox w b p s) : w.cell? ⟨b, 0, none⟩ = some (.slice p.a1 s.feeds.length p.c1) := cell_of h rfl
theorem SiBox.c1 (h : SiBox w b p s) : w.cell? ⟨b, 1, none⟩ = some (.slice p.a2 s.brks.length p.c2) := cell_of h rfl
theorem SiBox.c2 (h : SiBox w b p s) : w.cell? ⟨b, 2, none⟩ = some (.slice p.a3 s.loops.length p.c3) := cell_of h rfl
theorem SiBox.c3 (h : SiBox w b p s) : w.cell? ⟨b, 3, none⟩ = some (.slice p.a4 s.racks.length p.c4) := cell_of h rfl
theorem SiBox.c4 (h : SiBox w b p s) : w.cell? ⟨b, 4, none⟩ = some (.int .i64 s.sw) := cell_of h rfl
theorem SiBox.c5 (h : SiBox w b p s) : w.cell? ⟨b, 5, none⟩ = some (.slice p.a5 s.links.length p.c5) := cell_of h rfl
theorem SiBox.c6 (h : SiBox w b p s) : w.cell? ⟨b, 6, none⟩ = some (.slice p.a6 s.hosts.length p.c6) := cell_of h rfl
end
theorem siBox_new (w : World) (p : SP) (s : SiteD) : SiBox (w.alloc (.cells #[.slice p.a1 s.feeds.length p.c1, .slice p.a2 s.brks.length p.c2, .slice p.a3 s.loops.length p.c3, .slice p.a4 s.racks.length p.c4, .int .i64 s.sw, .slice p.a5 s.links.length p.c5, .slice p.a6 s.hosts.length p.c6] 29)) w.heap.size p s := heap_alloc_new _ _
end Go.Proofs.YtbbadnlaelgmlaaGreat

namespace Go.Proofs.YtbbadnlaelgmlaaGreat
open Go.RowKit
set_option maxRecDepth 100000
set_option linter.unusedVariables false
set_option linter.unusedSimpArgs false

set_option maxHeartbeats 2000000 in
theorem c_isIndex (x m : Int) (r : Bool) (hr : ixB x m = r) (w : World) : Calls Tryz.prog 77 #[.int .i64 x, .int .i64 m] w fun e w' => e = .returned (.bool r) ∧ Below w.heap.size w w' := by
  unfold ixB at hr
  rcases h1 : decide (0 ≤ x) with _ | _
  · rw [h1] at hr
    obtain rfl : false = r := hr
    go_enter Tryz.func77, Tryz.ntmps77
    go_wp2
    go_ret
    exact ⟨rfl, Below.refl _ _⟩
  · rw [h1] at hr
    obtain rfl : decide (x < m) = r := hr
    go_enter Tryz.func77, Tryz.ntmps77
    go_wp2
    go_ret
    exact ⟨rfl, Below.refl _ _⟩
set_option maxHeartbeats 2000000 in
theorem c_out (lo hi x : Int) (a b : Nat) (r : Bool) (hr : outB lo hi x = r) (w : World) (ha : w.cell? ⟨a, 0, none⟩ = some (.int .i64 lo)) (hb : w.cell? ⟨b, 0, none⟩ = some (.int .i64 hi)) :
    Calls Tryz.prog 112 #[.int .i64 x, .pointer (some ⟨a, 0, none⟩), .pointer (some ⟨b, 0, none⟩)] w fun e w' => e = .returned (.bool r) ∧ Below w.heap.size w w' := by
  unfold outB at hr
  rcases h1 : decide (x < lo) with _ | _
  · rw [h1] at hr
    obtain rfl : decide (hi < x) = r := hr
    go_enter Tryz.func112, Tryz.ntmps112
    go_wp2
    go_ret
    exact ⟨rfl, Below.refl _ _⟩
  · rw [h1] at hr
    obtain rfl : true = r := hr
    go_enter Tryz.func112, Tryz.ntmps112
    go_wp2
    go_ret
    exact ⟨rfl, Below.refl _ _⟩
/-- The place of the first element that is bad. -/
def fidx {α : Type} (p : α → Bool) : List α → Int
  | [] => -1
  | x :: l => if p x = true then 0 else if fidx p l = -1 then -1 else fidx p l + 1
theorem fidx_range {α : Type} (p : α → Bool) (l : List α) : fidx p l = -1 ∨ 0 ≤ fidx p l := by
  induction l with
  | nil => exact .inl rfl
  | cons x l ih =>
    unfold fidx
    split
    · right; omega
    · split
      · exact .inl rfl
      · right; omega
theorem fidx_at {α : Type} (p : α → Bool) : ∀ (l : List α) (k : Nat) (x : α), (∀ i y, i < k → l[i]? = some y → p y = false) → l[k]? = some x → p x = true → fidx p l = k := by
  intro l
  induction l with
  | nil => intro k x _ h; simp at h
  | cons y l ih =>
    intro k x h1 h2 h3
    unfold fidx
    cases k with
    | zero => simp at h2; subst h2; rw [if_pos h3]; rfl
    | succ k =>
      have h0 := h1 0 y (by omega) rfl
      rw [if_neg (by simp [h0]), ih k x (fun i z hi hz => h1 (i + 1) z (by omega) (by simpa using hz)) (by simpa using h2) h3, if_neg (by omega)]
      omega
theorem fidx_none {α : Type} (p : α → Bool) : ∀ (l : List α), (∀ (i : Nat) (y : α), l[i]? = some y → p y = false) → fidx p l = -1 := by
  intro l
  induction l with
  | nil => intro _; rfl
  | cons y l ih =>
    intro h1
    have h0 := h1 0 y rfl
    unfold fidx
    rw [if_neg (by simp [h0]), ih (fun i z hz => h1 (i + 1) z (by simpa using hz)), if_pos rfl]
theorem fidx_any {α : Type} (p : α → Bool) (l : List α) : decide (0 ≤ fidx p l) = l.any p := by
  induction l with
  | nil => rfl
  | cons x l ih =>
    unfold fidx
    rw [List.any_cons]
    split
    · rename_i h; rw [h]; rfl
    · rename_i h
      rw [Bool.not_eq_true] at h
      rw [h, Bool.false_or, ← ih]
      rcases fidx_range p l with h2 | h2
      · rw [if_pos h2, h2]
      · rw [if_neg (by omega), decide_eq_true h2, decide_eq_true (by omega)]
theorem inRw {w : World} {b o : Nat} {c : Nat} {l : List Int} (h : Rw 1 inF w (some ⟨b, o, none⟩) c l) {j : Nat} {x : Int} (hj : l[j]? = some x) : w.cell? ⟨b, o + j, none⟩ = some (.int .i64 x) := by
  obtain ⟨b', o', e, -, h0⟩ := h.at_ hj
  injection e with e
  injection e with e1 e2
  subst e1 e2
  have := h0 0 (by omega)
  simpa [inF] using this
set_option maxHeartbeats 4000000 in
theorem c_IF_int (lo hi : Int) (a b : Nat) (A : Option Addr) (c : Nat) (l : List Int) (w : World) (ha : w.cell? ⟨a, 0, none⟩ = some (.int .i64 lo)) (hb : w.cell? ⟨b, 0, none⟩ = some (.int .i64 hi)) (hla : a < w.heap.size) (hlb : b < w.heap.size) (h : Rw 1 inF w A c l) (y : Int) (hy : fidx (outB lo hi) l = y) :
    Calls Tryz.prog 129 #[.slice A l.length c, .func (.func 112) #[] #[.pointer (some ⟨a, 0, none⟩), .pointer (some ⟨b, 0, none⟩)]] w fun e w' => e = .returned (.int .i64 y) ∧ Below w.heap.size w w' := by
  have H := Lib.hid h
  have HY := Lib.hid hy
  have HA := Lib.hid ha
  have HB := Lib.hid hb
  have hc1 := h.1
  have hc2 := h.2.1
  unfold maxLen at hc2
  clear h hy ha hb
  go_enter Tryz.func129, Tryz.ntmps129
  go_wp2_with (fail)
  go_loopw [8] (fun i wr => ∃ k : Nat, k ≤ l.length ∧ i = .int .i64 (k : Int) ∧ Hid (∀ i y, i < k → l[i]? = some y → outB lo hi y = false) ∧ Hid (Below w.heap.size w wr)) (fun i _ => l.length - (intOf i).toNat)
  case atStart => exact ⟨0, Nat.zero_le _, rfl, Lib.hid (fun i y hi => absurd hi (by omega)), Lib.hid (Below.refl _ _)⟩
  case round =>
    obtain ⟨k, hk, rfl, hun, hB⟩ := hrel
    by_cases hlt : k < l.length
    · obtain ⟨x, hx⟩ : ∃ x, l[k]? = some x := ⟨_, List.getElem?_eq_getElem hlt⟩
      have HK := H.out
      obtain ⟨p, o, rfl, -, -⟩ := HK.at_ hx
      have p1 := inRw (HK.on hB.out (Nat.le_refl _)) hx
      have HX := Lib.hid hx
      have hki : ((k : Nat) : Int).toNat = k := by omega
      have hlt' : (k : Int) < ((l.length : Nat) : Int) := by omega
      have HA1 := Lib.hid ((hB.out.cell (p := ⟨a, 0, none⟩) hla).trans HA.out)
      have HB1 := Lib.hid ((hB.out.cell (p := ⟨b, 0, none⟩) hlb).trans HB.out)
      have HC := Lib.hid (fun (r : Bool) (hr : outB lo hi x = r) => c_out lo hi x a b r hr wr HA1.out HB1.out)
      clear hx HK
      rcases hp : outB lo hi x with _ | _
      · have HP := Lib.hid hp
        clear hp
        go_wp2_with (go_at_call 112; refine (HC.out _ HP.out).mono ?_; rintro e w1 ⟨rfl, b1⟩; have HB1 := Lib.hid (below_join hB.out b1 hB.out.size); clear b1 p1)
        go_roundw
        case rel => exact ⟨k + 1, by omega, by go_num, Lib.hid (fun i y hi hy => by
          rcases Nat.lt_or_ge i k with h | h
          · exact hun.out i y h hy
          · obtain rfl : i = k := by omega
            have := HX.out
            rw [hy] at this
            injection this with this
            subst this
            exact HP.out), HB1⟩
        case measure => simp only [intOf]; omega
      · have HKY := Lib.hid (show (k : Int) = y by rw [← HY.out]; exact (fidx_at _ l k _ hun.out HX.out hp).symm)
        have HP := Lib.hid hp
        clear hp
        go_wp2_with (go_at_call 112; refine (HC.out _ HP.out).mono ?_; rintro e w1 ⟨rfl, b1⟩; have HB1 := Lib.hid (below_join hB.out b1 hB.out.size); clear b1 p1)
        go_ret
        exact ⟨(show Ending.returned (.int .i64 (k : Int)) = .returned (.int .i64 y) by rw [HKY.out]), HB1.out⟩
    · obtain rfl : k = l.length := by omega
      have HKY := Lib.hid (show (-1 : Int) = y by rw [← HY.out, fidx_none _ l (fun i y hy => hun.out i y (List.getElem?_eq_some_iff.1 hy).1 hy)])
      go_wp2_with (fail)
      go_ret
      exact ⟨(show Ending.returned (.int .i64 (-1)) = .returned (.int .i64 y) by rw [HKY.out]), hB.out⟩
set_option maxHeartbeats 4000000 in
theorem c_CF_int (lo hi : Int) (a b : Nat) (A : Option Addr) (c : Nat) (l : List Int) (w : World) (ha : w.cell? ⟨a, 0, none⟩ = some (.int .i64 lo)) (hb : w.cell? ⟨b, 0, none⟩ = some (.int .i64 hi)) (hla : a < w.heap.size) (hlb : b < w.heap.size) (h : Rw 1 inF w A c l) (r : Bool) (hr : l.any (outB lo hi) = r) :
    Calls Tryz.prog 101 #[.slice A l.length c, .func (.func 112) #[] #[.pointer (some ⟨a, 0, none⟩), .pointer (some ⟨b, 0, none⟩)]] w fun e w' => e = .returned (.bool r) ∧ Below w.heap.size w w' := by
  obtain ⟨y, hy⟩ : ∃ y, fidx (outB lo hi) l = y := ⟨_, rfl⟩
  have HC := Lib.hid (c_IF_int lo hi a b A c l w ha hb hla hlb h y hy)
  have HR := Lib.hid (show decide (0 ≤ y) = r by rw [← hy, fidx_any, hr])
  clear hy hr h ha hb
  go_enter Tryz.func101, Tryz.ntmps101
  go_wp2_with (go_at_call 129; refine HC.out.mono ?_; rintro e w1 ⟨rfl, b1⟩; have HB1 := Lib.hid b1; clear b1)
  go_ret
  exact ⟨(show Ending.returned (.bool (decide (0 ≤ y))) = .returned (.bool r) by rw [HR.out]), HB1.out⟩
set_option maxHeartbeats 4000000 in
theorem c_areFrom (lo hi : Int) (A : Option Addr) (c : Nat) (l : List Int) (w : World) (h : Rw 1 inF w A c l) (r : Bool) (hr : areB lo hi l = r) :
    Calls Tryz.prog 75 #[.int .i64 lo, .int .i64 hi, .slice A l.length c] w fun e w' => e = .returned (.bool r) ∧ Below w.heap.size w w' := by
  obtain ⟨W, hW⟩ : ∃ W, W = (w.alloc (.cells #[.int .i64 lo] 3)).alloc (.cells #[.int .i64 hi] 3) := ⟨_, rfl⟩
  have B0 : Below w.heap.size w W := by subst hW; exact ((Below.refl _ _).alloc (Nat.le_refl _) _).alloc (by simp [World.size_alloc]) _
  have h0 : W.heap[w.heap.size]? = some (.cells #[.int .i64 lo] 3 (0, 0)) := by
    subst hW
    exact (Below.heap_alloc _ _ _ (by simp [World.size_alloc])).trans (heap_alloc_new _ _)
  have h1 : W.heap[w.heap.size + 1]? = some (.cells #[.int .i64 hi] 3 (0, 0)) := by
    subst hW
    have := heap_alloc_new (w.alloc (.cells #[.int .i64 lo] 3)) (.cells #[.int .i64 hi] 3)
    rwa [World.size_alloc] at this
  have HC := Lib.hid (c_CF_int lo hi w.heap.size (w.heap.size + 1) A c l W (cell_of h0 rfl) (cell_of h1 rfl) (at_lt h0) (at_lt h1) (h.on B0 (Nat.le_refl _)) (!r) (by rw [← hr]; unfold areB; simp))
  have HB0 := Lib.hid B0
  clear h hr h0 h1 B0
  go_enter Tryz.func75, Tryz.ntmps75
  go_wp2_with (fail)
  rw [← hW]
  go_at_call 101
  refine HC.out.mono ?_
  rintro e w1 ⟨rfl, b1⟩
  have HB1 := Lib.hid (below_join HB0.out b1 HB0.out.size)
  clear b1 hW
  go_wp2_with (fail)
  go_ret
  exact ⟨by simp, HB1.out⟩
end Go.Proofs.YtbbadnlaelgmlaaGreat

namespace Go.Proofs.YtbbadnlaelgmlaaGreat
open Go.RowKit
set_option maxRecDepth 100000
set_option linter.unusedVariables false
set_option linter.unusedSimpArgs false

set_option maxHeartbeats 8000000 in
theorem c_badBreaker (bs : Nat) (p : SP) (s : SiteD) (z0 z1 z2 z3 : Int) (r : Bool) (hr : brkBad s.feeds.length ⟨z0, z1, z2, z3⟩ = r) (w : World) (hbox : SiBox w bs p s) :
    Calls Tryz.prog 76 #[.agg #[.int .i64 z0, .int .i64 z1, .int .i64 z2, .int .i64 z3], .pointer (some ⟨bs, 0, none⟩)] w fun e w' => e = .returned (.bool r) ∧ Below w.heap.size w w' := by
  obtain ⟨W, hW⟩ : ∃ W, W = w.alloc (.cells #[.int .i64 z0, .int .i64 z1, .int .i64 z2, .int .i64 z3] 83) := ⟨_, rfl⟩
  have B0 : Below w.heap.size w W := by subst hW; exact (Below.refl _ _).alloc (Nat.le_refl _) _
  have HB0 := Lib.hid B0
  have HX := Lib.hid (show W.heap[w.heap.size]? = some (.cells #[.int .i64 z0, .int .i64 z1, .int .i64 z2, .int .i64 z3] 83 (0, 0)) by subst hW; exact heap_alloc_new _ _)
  have HS := Lib.hid (hbox.on B0 (Nat.le_refl _))
  clear hbox
  have HF := Lib.hid (fun (X : World) (hX : Below W.heap.size W X) => (⟨cell_of ((hX.block _ (at_lt HX.out)).trans HX.out) rfl, cell_of ((hX.block _ (at_lt HX.out)).trans HX.out) rfl, cell_of ((hX.block _ (at_lt HX.out)).trans HX.out) rfl, cell_of ((hX.block _ (at_lt HX.out)).trans HX.out) rfl, (HS.out.on hX (Nat.le_refl _)).c0⟩ : X.cell? ⟨w.heap.size, 0, none⟩ = some (.int .i64 z0) ∧ X.cell? ⟨w.heap.size, 1, none⟩ = some (.int .i64 z1) ∧ X.cell? ⟨w.heap.size, 2, none⟩ = some (.int .i64 z2) ∧ X.cell? ⟨w.heap.size, 3, none⟩ = some (.int .i64 z3) ∧ X.cell? ⟨bs, 0, none⟩ = some (.slice p.a1 s.feeds.length p.c1)))
  have HR := Lib.hid (show (!ixB z0 (s.feeds.length : Int) || (!areB 0 1000000 [z1, z2, z3])) = r from hr)
  have KW := Lib.hid (Below.refl W.heap.size W)
  clear B0 hr
  obtain ⟨x0, x1, x2, x3, sc0⟩ := HF.out W KW.out
  rw [hW] at x0 x1 x2 x3 sc0
  go_enter Tryz.func76, Tryz.ntmps76
  obtain ⟨r0, h0⟩ : ∃ b, ixB z0 (s.feeds.length : Int) = b := ⟨_, rfl⟩
  have Q0 := Lib.hid h0
  clear h0
  go_wp2_with (fail)
  rw [← hW]
  clear hW
  clear x0 x1 x2 x3 sc0
  go_at_call 77
  refine (c_isIndex z0 (s.feeds.length : Int) r0 Q0.out W).mono ?_
  rintro e w1 ⟨rfl, b1⟩
  have K1 := Lib.hid (below_join KW.out b1 KW.out.size)
  clear b1
  cases r0
  · obtain rfl : true = r := by have h := HR.out; rw [show (ixB z0 (s.feeds.length : Int)) = false from Q0.out] at h; exact h
    go_wp2_with (fail)
    go_ret
    exact ⟨rfl, below_join HB0.out K1.out HB0.out.size⟩
  obtain ⟨x0, x1, x2, x3, sc0⟩ := HF.out w1 K1.out
  obtain ⟨r1, h1⟩ : ∃ b, areB 0 1000000 [z1, z2, z3] = b := ⟨_, rfl⟩
  have Q1 := Lib.hid h1
  clear h1
  obtain ⟨V1, hV1⟩ : ∃ X, X = w1.alloc (.cells #[.int .i64 z1, .int .i64 z2, .int .i64 z3] 3) := ⟨_, rfl⟩
  have bV1 : Below w1.heap.size w1 V1 := by subst hV1; exact (Below.refl _ _).alloc (Nat.le_refl _) _
  have RV1 := Lib.hid (show Rw 1 inF V1 (some ⟨w1.heap.size, 0, none⟩) 3 [z1, z2, z3] by subst hV1; exact rw_lit [z1, z2, z3] (by simp [maxLen]) _)
  have HV1 := Lib.hid (below_join K1.out bV1 K1.out.size)
  clear bV1
  go_wp2_with (fail)
  rw [← hV1]
  clear hV1
  clear x0 x1 x2 x3 sc0
  go_at_call 75
  refine (c_areFrom 0 1000000 (some ⟨w1.heap.size, 0, none⟩) 3 [z1, z2, z3] V1 RV1.out r1 Q1.out).mono ?_
  rintro e w2 ⟨rfl, b2⟩
  have K2 := Lib.hid (below_join HV1.out b2 HV1.out.size)
  clear b2
  cases r1
  · obtain rfl : true = r := by have h := HR.out; rw [show (ixB z0 (s.feeds.length : Int)) = true from Q0.out, show (areB 0 1000000 [z1, z2, z3]) = false from Q1.out] at h; exact h
    go_wp2_with (fail)
    go_ret
    exact ⟨rfl, below_join HB0.out K2.out HB0.out.size⟩
  · obtain rfl : false = r := by have h := HR.out; rw [show (ixB z0 (s.feeds.length : Int)) = true from Q0.out, show (areB 0 1000000 [z1, z2, z3]) = true from Q1.out] at h; exact h
    go_wp2_with (fail)
    go_ret
    exact ⟨rfl, below_join HB0.out K2.out HB0.out.size⟩
theorem rwBreaker {w : World} {b o c : Nat} {l : List Brk} (h : Rw 4 brkF w (some ⟨b, o, none⟩) c l) {j : Nat} {z0 z1 z2 z3 : Int} (hj : l[j]? = some ⟨z0, z1, z2, z3⟩) : w.cell? ⟨b, o + j * 4, none⟩ = some (.int .i64 z0) ∧ w.cell? ⟨b, o + j * 4 + 1, none⟩ = some (.int .i64 z1) ∧ w.cell? ⟨b, o + j * 4 + 2, none⟩ = some (.int .i64 z2) ∧ w.cell? ⟨b, o + j * 4 + 3, none⟩ = some (.int .i64 z3) := by
  obtain ⟨b', o', e, -, h0⟩ := h.at_ hj
  injection e with e
  injection e with e1 e2
  subst e1 e2
  exact ⟨by simpa [brkF] using h0 0 (by omega), by simpa [brkF] using h0 1 (by omega), by simpa [brkF] using h0 2 (by omega), by simpa [brkF] using h0 3 (by omega)⟩
set_option maxHeartbeats 8000000 in
theorem c_IF_Breaker (bs : Nat) (p : SP) (s : SiteD) (A : Option Addr) (c : Nat) (l : List Brk) (w : World) (hbox : SiBox w bs p s) (h : Rw 4 brkF w A c l) (y : Int) (hy : fidx (brkBad s.feeds.length) l = y) :
    Calls Tryz.prog 144 #[.slice A l.length c, .func (.func 76) #[] #[.pointer (some ⟨bs, 0, none⟩)]] w fun e w' => e = .returned (.int .i64 y) ∧ Below w.heap.size w w' := by
  have H := Lib.hid h
  have HY := Lib.hid hy
  have hc1 := h.1
  have hc2 := h.2.1
  unfold maxLen at hc2
  have HS := Lib.hid hbox
  clear h hy hbox
  go_enter Tryz.func144, Tryz.ntmps144
  go_wp2_with (fail)
  go_loopw [8] (fun i wr => ∃ k : Nat, k ≤ l.length ∧ i = .int .i64 (k : Int) ∧ Hid (∀ i y, i < k → l[i]? = some y → brkBad s.feeds.length y = false) ∧ Hid (Below w.heap.size w wr)) (fun i _ => l.length - (intOf i).toNat)
  case atStart => exact ⟨0, Nat.zero_le _, rfl, Lib.hid (fun i y hi => absurd hi (by omega)), Lib.hid (Below.refl _ _)⟩
  case round =>
    obtain ⟨k, hk, rfl, hun, hB⟩ := hrel
    by_cases hlt : k < l.length
    · obtain ⟨⟨z0, z1, z2, z3⟩, hx⟩ : ∃ x, l[k]? = some x := ⟨_, List.getElem?_eq_getElem hlt⟩
      have HK := H.out
      obtain ⟨pb, o, rfl, -, -⟩ := HK.at_ hx
      obtain ⟨y0, y1, y2, y3⟩ := rwBreaker (HK.on hB.out (Nat.le_refl _)) hx
      have HXX := Lib.hid hx
      have hki : ((k : Nat) : Int).toNat = k := by omega
      have hlt' : (k : Int) < ((l.length : Nat) : Int) := by omega
      have HS1 := Lib.hid (HS.out.on hB.out (Nat.le_refl _))
      have HC := Lib.hid (fun (r : Bool) (hr : brkBad s.feeds.length ⟨z0, z1, z2, z3⟩ = r) => c_badBreaker bs p s z0 z1 z2 z3 r hr wr HS1.out)
      clear hx HK
      rcases hp : brkBad s.feeds.length ⟨z0, z1, z2, z3⟩ with _ | _
      · have HP := Lib.hid hp
        clear hp
        go_wp2_with (go_at_call 76; refine (HC.out _ HP.out).mono ?_; rintro e w1 ⟨rfl, b1⟩; have HB1 := Lib.hid (below_join hB.out b1 hB.out.size); clear b1 y0 y1 y2 y3)
        go_roundw
        case rel => exact ⟨k + 1, by omega, by go_num, Lib.hid (fun i y hi hy => by
          rcases Nat.lt_or_ge i k with h | h
          · exact hun.out i y h hy
          · obtain rfl : i = k := by omega
            have := HXX.out
            rw [hy] at this
            injection this with this
            subst this
            exact HP.out), HB1⟩
        case measure => simp only [intOf]; omega
      · have HKY := Lib.hid (show (k : Int) = y by rw [← HY.out]; exact (fidx_at _ l k _ hun.out HXX.out hp).symm)
        have HP := Lib.hid hp
        clear hp
        go_wp2_with (go_at_call 76; refine (HC.out _ HP.out).mono ?_; rintro e w1 ⟨rfl, b1⟩; have HB1 := Lib.hid (below_join hB.out b1 hB.out.size); clear b1 y0 y1 y2 y3)
        go_ret
        exact ⟨(show Ending.returned (.int .i64 (k : Int)) = .returned (.int .i64 y) by rw [HKY.out]), HB1.out⟩
    · obtain rfl : k = l.length := by omega
      have HKY := Lib.hid (show (-1 : Int) = y by rw [← HY.out, fidx_none _ l (fun i y hy => hun.out i y (List.getElem?_eq_some_iff.1 hy).1 hy)])
      go_wp2_with (fail)
      go_ret
      exact ⟨(show Ending.returned (.int .i64 (-1)) = .returned (.int .i64 y) by rw [HKY.out]), hB.out⟩
set_option maxHeartbeats 4000000 in
theorem c_CF_Breaker (bs : Nat) (p : SP) (s : SiteD) (A : Option Addr) (c : Nat) (l : List Brk) (w : World) (hbox : SiBox w bs p s) (h : Rw 4 brkF w A c l) (r : Bool) (hr : l.any (brkBad s.feeds.length) = r) :
    Calls Tryz.prog 114 #[.slice A l.length c, .func (.func 76) #[] #[.pointer (some ⟨bs, 0, none⟩)]] w fun e w' => e = .returned (.bool r) ∧ Below w.heap.size w w' := by
  obtain ⟨y, hy⟩ : ∃ y, fidx (brkBad s.feeds.length) l = y := ⟨_, rfl⟩
  have HC := Lib.hid (c_IF_Breaker bs p s A c l w hbox h y hy)
  have HR := Lib.hid (show decide (0 ≤ y) = r by rw [← hy, fidx_any, hr])
  clear hy hr h hbox
  go_enter Tryz.func114, Tryz.ntmps114
  go_wp2_with (go_at_call 144; refine HC.out.mono ?_; rintro e w1 ⟨rfl, b1⟩; have HB1 := Lib.hid b1; clear b1)
  go_ret
  exact ⟨(show Ending.returned (.bool (decide (0 ≤ y))) = .returned (.bool r) by rw [HR.out]), HB1.out⟩
set_option maxHeartbeats 4000000 in
theorem c_goodBreaker (bs : Nat) (p : SP) (s : SiteD) (lo hi : Int) (A : Option Addr) (c : Nat) (l : List Brk) (w : World) (hbox : SiBox w bs p s) (h : Rw 4 brkF w A c l) (r : Bool) (hr : goodB (brkBad s.feeds.length) lo hi l = r) :
    Calls Tryz.prog 83 #[.slice A l.length c, .int .i64 lo, .int .i64 hi, .func (.func 76) #[] #[.pointer (some ⟨bs, 0, none⟩)]] w fun e w' => e = .returned (.bool r) ∧ Below w.heap.size w w' := by
  obtain ⟨W, hW⟩ : ∃ W, W = w.alloc (.cells #[.int .i64 (l.length : Int)] 3) := ⟨_, rfl⟩
  have B0 : Below w.heap.size w W := by subst hW; exact (Below.refl _ _).alloc (Nat.le_refl _) _
  have RW := Lib.hid (show Rw 1 inF W (some ⟨w.heap.size, 0, none⟩) 1 [(l.length : Int)] by subst hW; exact rw_lit [(l.length : Int)] (by simp [maxLen]) _)
  have HB0 := Lib.hid B0
  have H := Lib.hid h
  have hlc : (l.length : Int) ≤ 9223372036854775807 := by have h1 := h.1; have h2 := h.2.1; unfold maxLen at h2; omega
  have HS := Lib.hid hbox
  have HR := Lib.hid (show (areB lo hi [(l.length : Int)] && !l.any (brkBad s.feeds.length)) = r from hr)
  clear hr h B0 hbox
  obtain ⟨r1, h1⟩ : ∃ b, areB lo hi [(l.length : Int)] = b := ⟨_, rfl⟩
  have Q1 := Lib.hid h1
  clear h1
  go_enter Tryz.func83, Tryz.ntmps83
  go_wp2_with (fail)
  rw [← hW]
  go_at_call 75
  refine (c_areFrom lo hi (some ⟨w.heap.size, 0, none⟩) 1 [(l.length : Int)] W RW.out r1 Q1.out).mono ?_
  rintro e w1 ⟨rfl, b1⟩
  have K1 := Lib.hid (below_join HB0.out b1 HB0.out.size)
  clear b1 hW
  cases r1
  · obtain rfl : false = r := by have h := HR.out; rw [Q1.out] at h; exact h
    go_wp2_with (fail)
    go_ret
    exact ⟨rfl, K1.out⟩
  · obtain ⟨r2, h2⟩ : ∃ b, l.any (brkBad s.feeds.length) = b := ⟨_, rfl⟩
    have Q2 := Lib.hid h2
    obtain rfl : (!r2) = r := by have h := HR.out; rw [Q1.out, h2] at h; exact h
    clear h2
    go_wp2_with (fail)
    go_at_call 114
    refine (c_CF_Breaker bs p s A c l w1 (HS.out.on K1.out (Nat.le_refl _)) (H.out.on K1.out (Nat.le_refl _)) r2 Q2.out).mono ?_
    rintro e w2 ⟨rfl, b2⟩
    have K2 := Lib.hid (below_join K1.out b2 K1.out.size)
    clear b2
    go_wp2_with (fail)
    go_ret
    exact ⟨rfl, K2.out⟩
end Go.Proofs.YtbbadnlaelgmlaaGreat

namespace Go.Proofs.YtbbadnlaelgmlaaGreat
open Go.RowKit
set_option maxRecDepth 100000
set_option linter.unusedVariables false
set_option linter.unusedSimpArgs false

set_option maxHeartbeats 8000000 in
theorem c_badFeed (z0 : Int) (r : Bool) (hr : feedBad z0 = r) (w : World) :
    Calls Tryz.prog 74 #[.agg #[.int .i64 z0]] w fun e w' => e = .returned (.bool r) ∧ Below w.heap.size w w' := by
  obtain ⟨W, hW⟩ : ∃ W, W = w.alloc (.cells #[.int .i64 z0] 81) := ⟨_, rfl⟩
  have B0 : Below w.heap.size w W := by subst hW; exact (Below.refl _ _).alloc (Nat.le_refl _) _
  have HB0 := Lib.hid B0
  have HX := Lib.hid (show W.heap[w.heap.size]? = some (.cells #[.int .i64 z0] 81 (0, 0)) by subst hW; exact heap_alloc_new _ _)
  have HF := Lib.hid (fun (X : World) (hX : Below W.heap.size W X) => (cell_of ((hX.block _ (at_lt HX.out)).trans HX.out) rfl : X.cell? ⟨w.heap.size, 0, none⟩ = some (.int .i64 z0)))
  have HR := Lib.hid (show (!areB 0 1000000 [z0]) = r from hr)
  have KW := Lib.hid (Below.refl W.heap.size W)
  clear B0 hr
  obtain x0 := HF.out W KW.out
  rw [hW] at x0
  go_enter Tryz.func74, Tryz.ntmps74
  obtain ⟨r0, h0⟩ : ∃ b, areB 0 1000000 [z0] = b := ⟨_, rfl⟩
  have Q0 := Lib.hid h0
  clear h0
  obtain ⟨V0, hV0⟩ : ∃ X, X = W.alloc (.cells #[.int .i64 z0] 3) := ⟨_, rfl⟩
  have bV0 : Below W.heap.size W V0 := by subst hV0; exact (Below.refl _ _).alloc (Nat.le_refl _) _
  have RV0 := Lib.hid (show Rw 1 inF V0 (some ⟨w.heap.size + 1, 0, none⟩) 1 [z0] by subst hV0; have h := rw_lit [z0] (by simp [maxLen]) W; rw [show W.heap.size = w.heap.size + 1 from by rw [hW, World.size_alloc]] at h; exact h)
  have HV0 := Lib.hid (below_join KW.out bV0 KW.out.size)
  clear bV0
  go_wp2_with (fail)
  rw [← hW, ← hV0]
  clear hW hV0
  clear x0
  go_at_call 75
  refine (c_areFrom 0 1000000 (some ⟨w.heap.size + 1, 0, none⟩) 1 [z0] V0 RV0.out r0 Q0.out).mono ?_
  rintro e w1 ⟨rfl, b1⟩
  have K1 := Lib.hid (below_join HV0.out b1 HV0.out.size)
  clear b1
  cases r0
  · obtain rfl : true = r := by have h := HR.out; rw [show (areB 0 1000000 [z0]) = false from Q0.out] at h; exact h
    go_wp2_with (fail)
    go_ret
    exact ⟨rfl, below_join HB0.out K1.out HB0.out.size⟩
  · obtain rfl : false = r := by have h := HR.out; rw [show (areB 0 1000000 [z0]) = true from Q0.out] at h; exact h
    go_wp2_with (fail)
    go_ret
    exact ⟨rfl, below_join HB0.out K1.out HB0.out.size⟩
theorem rwFeed {w : World} {b o c : Nat} {l : List Int} (h : Rw 1 inF w (some ⟨b, o, none⟩) c l) {j : Nat} {z0 : Int} (hj : l[j]? = some z0) : w.cell? ⟨b, o + j, none⟩ = some (.int .i64 z0) := by
  obtain ⟨b', o', e, -, h0⟩ := h.at_ hj
  injection e with e
  injection e with e1 e2
  subst e1 e2
  exact by simpa [inF] using h0 0 (by omega)
set_option maxHeartbeats 8000000 in
theorem c_IF_Feed (A : Option Addr) (c : Nat) (l : List Int) (w : World) (h : Rw 1 inF w A c l) (y : Int) (hy : fidx (feedBad) l = y) :
    Calls Tryz.prog 143 #[.slice A l.length c, .func (.func 74) #[] #[]] w fun e w' => e = .returned (.int .i64 y) ∧ Below w.heap.size w w' := by
  have H := Lib.hid h
  have HY := Lib.hid hy
  have hc1 := h.1
  have hc2 := h.2.1
  unfold maxLen at hc2

  clear h hy
  go_enter Tryz.func143, Tryz.ntmps143
  go_wp2_with (fail)
  go_loopw [8] (fun i wr => ∃ k : Nat, k ≤ l.length ∧ i = .int .i64 (k : Int) ∧ Hid (∀ i y, i < k → l[i]? = some y → feedBad y = false) ∧ Hid (Below w.heap.size w wr)) (fun i _ => l.length - (intOf i).toNat)
  case atStart => exact ⟨0, Nat.zero_le _, rfl, Lib.hid (fun i y hi => absurd hi (by omega)), Lib.hid (Below.refl _ _)⟩
  case round =>
    obtain ⟨k, hk, rfl, hun, hB⟩ := hrel
    by_cases hlt : k < l.length
    · obtain ⟨z0, hx⟩ : ∃ x, l[k]? = some x := ⟨_, List.getElem?_eq_getElem hlt⟩
      have HK := H.out
      obtain ⟨pb, o, rfl, -, -⟩ := HK.at_ hx
      obtain y0 := rwFeed (HK.on hB.out (Nat.le_refl _)) hx
      have HXX := Lib.hid hx
      have hki : ((k : Nat) : Int).toNat = k := by omega
      have hlt' : (k : Int) < ((l.length : Nat) : Int) := by omega
      have HC := Lib.hid (fun (r : Bool) (hr : feedBad z0 = r) => c_badFeed z0 r hr wr)
      clear hx HK
      rcases hp : feedBad z0 with _ | _
      · have HP := Lib.hid hp
        clear hp
        go_wp2_with (go_at_call 74; refine (HC.out _ HP.out).mono ?_; rintro e w1 ⟨rfl, b1⟩; have HB1 := Lib.hid (below_join hB.out b1 hB.out.size); clear b1 y0)
        go_roundw
        case rel => exact ⟨k + 1, by omega, by go_num, Lib.hid (fun i y hi hy => by
          rcases Nat.lt_or_ge i k with h | h
          · exact hun.out i y h hy
          · obtain rfl : i = k := by omega
            have := HXX.out
            rw [hy] at this
            injection this with this
            subst this
            exact HP.out), HB1⟩
        case measure => simp only [intOf]; omega
      · have HKY := Lib.hid (show (k : Int) = y by rw [← HY.out]; exact (fidx_at _ l k _ hun.out HXX.out hp).symm)
        have HP := Lib.hid hp
        clear hp
        go_wp2_with (go_at_call 74; refine (HC.out _ HP.out).mono ?_; rintro e w1 ⟨rfl, b1⟩; have HB1 := Lib.hid (below_join hB.out b1 hB.out.size); clear b1 y0)
        go_ret
        exact ⟨(show Ending.returned (.int .i64 (k : Int)) = .returned (.int .i64 y) by rw [HKY.out]), HB1.out⟩
    · obtain rfl : k = l.length := by omega
      have HKY := Lib.hid (show (-1 : Int) = y by rw [← HY.out, fidx_none _ l (fun i y hy => hun.out i y (List.getElem?_eq_some_iff.1 hy).1 hy)])
      go_wp2_with (fail)
      go_ret
      exact ⟨(show Ending.returned (.int .i64 (-1)) = .returned (.int .i64 y) by rw [HKY.out]), hB.out⟩
set_option maxHeartbeats 4000000 in
theorem c_CF_Feed (A : Option Addr) (c : Nat) (l : List Int) (w : World) (h : Rw 1 inF w A c l) (r : Bool) (hr : l.any (feedBad) = r) :
    Calls Tryz.prog 113 #[.slice A l.length c, .func (.func 74) #[] #[]] w fun e w' => e = .returned (.bool r) ∧ Below w.heap.size w w' := by
  obtain ⟨y, hy⟩ : ∃ y, fidx (feedBad) l = y := ⟨_, rfl⟩
  have HC := Lib.hid (c_IF_Feed A c l w h y hy)
  have HR := Lib.hid (show decide (0 ≤ y) = r by rw [← hy, fidx_any, hr])
  clear hy hr h
  go_enter Tryz.func113, Tryz.ntmps113
  go_wp2_with (go_at_call 143; refine HC.out.mono ?_; rintro e w1 ⟨rfl, b1⟩; have HB1 := Lib.hid b1; clear b1)
  go_ret
  exact ⟨(show Ending.returned (.bool (decide (0 ≤ y))) = .returned (.bool r) by rw [HR.out]), HB1.out⟩
set_option maxHeartbeats 4000000 in
theorem c_goodFeed (lo hi : Int) (A : Option Addr) (c : Nat) (l : List Int) (w : World) (h : Rw 1 inF w A c l) (r : Bool) (hr : goodB (feedBad) lo hi l = r) :
    Calls Tryz.prog 82 #[.slice A l.length c, .int .i64 lo, .int .i64 hi, .func (.func 74) #[] #[]] w fun e w' => e = .returned (.bool r) ∧ Below w.heap.size w w' := by
  obtain ⟨W, hW⟩ : ∃ W, W = w.alloc (.cells #[.int .i64 (l.length : Int)] 3) := ⟨_, rfl⟩
  have B0 : Below w.heap.size w W := by subst hW; exact (Below.refl _ _).alloc (Nat.le_refl _) _
  have RW := Lib.hid (show Rw 1 inF W (some ⟨w.heap.size, 0, none⟩) 1 [(l.length : Int)] by subst hW; exact rw_lit [(l.length : Int)] (by simp [maxLen]) _)
  have HB0 := Lib.hid B0
  have H := Lib.hid h
  have hlc : (l.length : Int) ≤ 9223372036854775807 := by have h1 := h.1; have h2 := h.2.1; unfold maxLen at h2; omega

  have HR := Lib.hid (show (areB lo hi [(l.length : Int)] && !l.any (feedBad)) = r from hr)
  clear hr h B0
  obtain ⟨r1, h1⟩ : ∃ b, areB lo hi [(l.length : Int)] = b := ⟨_, rfl⟩
  have Q1 := Lib.hid h1
  clear h1
  go_enter Tryz.func82, Tryz.ntmps82
  go_wp2_with (fail)
  rw [← hW]
  go_at_call 75
  refine (c_areFrom lo hi (some ⟨w.heap.size, 0, none⟩) 1 [(l.length : Int)] W RW.out r1 Q1.out).mono ?_
  rintro e w1 ⟨rfl, b1⟩
  have K1 := Lib.hid (below_join HB0.out b1 HB0.out.size)
  clear b1 hW
  cases r1
  · obtain rfl : false = r := by have h := HR.out; rw [Q1.out] at h; exact h
    go_wp2_with (fail)
    go_ret
    exact ⟨rfl, K1.out⟩
  · obtain ⟨r2, h2⟩ : ∃ b, l.any (feedBad) = b := ⟨_, rfl⟩
    have Q2 := Lib.hid h2
    obtain rfl : (!r2) = r := by have h := HR.out; rw [Q1.out, h2] at h; exact h
    clear h2
    go_wp2_with (fail)
    go_at_call 113
    refine (c_CF_Feed A c l w1 (H.out.on K1.out (Nat.le_refl _)) r2 Q2.out).mono ?_
    rintro e w2 ⟨rfl, b2⟩
    have K2 := Lib.hid (below_join K1.out b2 K1.out.size)
    clear b2
    go_wp2_with (fail)
    go_ret
    exact ⟨rfl, K2.out⟩
end Go.Proofs.YtbbadnlaelgmlaaGreat

namespace Go.Proofs.YtbbadnlaelgmlaaGreat
open Go.RowKit
set_option maxRecDepth 100000
set_option linter.unusedVariables false
set_option linter.unusedSimpArgs false

set_option maxHeartbeats 8000000 in
theorem c_badHost (bs : Nat) (p : SP) (s : SiteD) (z0 z1 z2 z3 : Int) (r : Bool) (hr : hsBad s.racks.length ⟨z0, z1, z2, z3⟩ = r) (w : World) (hbox : SiBox w bs p s) :
    Calls Tryz.prog 81 #[.agg #[.int .i64 z0, .int .i64 z1, .int .i64 z2, .int .i64 z3], .pointer (some ⟨bs, 0, none⟩)] w fun e w' => e = .returned (.bool r) ∧ Below w.heap.size w w' := by
  obtain ⟨W, hW⟩ : ∃ W, W = w.alloc (.cells #[.int .i64 z0, .int .i64 z1, .int .i64 z2, .int .i64 z3] 89) := ⟨_, rfl⟩
  have B0 : Below w.heap.size w W := by subst hW; exact (Below.refl _ _).alloc (Nat.le_refl _) _
  have HB0 := Lib.hid B0
  have HX := Lib.hid (show W.heap[w.heap.size]? = some (.cells #[.int .i64 z0, .int .i64 z1, .int .i64 z2, .int .i64 z3] 89 (0, 0)) by subst hW; exact heap_alloc_new _ _)
  have HS := Lib.hid (hbox.on B0 (Nat.le_refl _))
  clear hbox
  have HF := Lib.hid (fun (X : World) (hX : Below W.heap.size W X) => (⟨cell_of ((hX.block _ (at_lt HX.out)).trans HX.out) rfl, cell_of ((hX.block _ (at_lt HX.out)).trans HX.out) rfl, cell_of ((hX.block _ (at_lt HX.out)).trans HX.out) rfl, cell_of ((hX.block _ (at_lt HX.out)).trans HX.out) rfl, (HS.out.on hX (Nat.le_refl _)).c3⟩ : X.cell? ⟨w.heap.size, 0, none⟩ = some (.int .i64 z0) ∧ X.cell? ⟨w.heap.size, 1, none⟩ = some (.int .i64 z1) ∧ X.cell? ⟨w.heap.size, 2, none⟩ = some (.int .i64 z2) ∧ X.cell? ⟨w.heap.size, 3, none⟩ = some (.int .i64 z3) ∧ X.cell? ⟨bs, 3, none⟩ = some (.slice p.a4 s.racks.length p.c4)))
  have HR := Lib.hid (show (!ixB z0 (s.racks.length : Int) || (!areB 1 1000 [z1] || (!areB 0 10000 [z2] || (!areB 0 1000 [z3])))) = r from hr)
  have KW := Lib.hid (Below.refl W.heap.size W)
  clear B0 hr
  obtain ⟨x0, x1, x2, x3, sc3⟩ := HF.out W KW.out
  rw [hW] at x0 x1 x2 x3 sc3
  go_enter Tryz.func81, Tryz.ntmps81
  obtain ⟨r0, h0⟩ : ∃ b, ixB z0 (s.racks.length : Int) = b := ⟨_, rfl⟩
  have Q0 := Lib.hid h0
  clear h0
  go_wp2_with (fail)
  rw [← hW]
  clear hW
  clear x0 x1 x2 x3 sc3
  go_at_call 77
  refine (c_isIndex z0 (s.racks.length : Int) r0 Q0.out W).mono ?_
  rintro e w1 ⟨rfl, b1⟩
  have K1 := Lib.hid (below_join KW.out b1 KW.out.size)
  clear b1
  cases r0
  · obtain rfl : true = r := by have h := HR.out; rw [show (ixB z0 (s.racks.length : Int)) = false from Q0.out] at h; exact h
    go_wp2_with (fail)
    go_ret
    exact ⟨rfl, below_join HB0.out K1.out HB0.out.size⟩
  obtain ⟨x0, x1, x2, x3, sc3⟩ := HF.out w1 K1.out
  obtain ⟨r1, h1⟩ : ∃ b, areB 1 1000 [z1] = b := ⟨_, rfl⟩
  have Q1 := Lib.hid h1
  clear h1
  obtain ⟨V1, hV1⟩ : ∃ X, X = w1.alloc (.cells #[.int .i64 z1] 3) := ⟨_, rfl⟩
  have bV1 : Below w1.heap.size w1 V1 := by subst hV1; exact (Below.refl _ _).alloc (Nat.le_refl _) _
  have RV1 := Lib.hid (show Rw 1 inF V1 (some ⟨w1.heap.size, 0, none⟩) 1 [z1] by subst hV1; exact rw_lit [z1] (by simp [maxLen]) _)
  have HV1 := Lib.hid (below_join K1.out bV1 K1.out.size)
  clear bV1
  go_wp2_with (fail)
  rw [← hV1]
  clear hV1
  clear x0 x1 x2 x3 sc3
  go_at_call 75
  refine (c_areFrom 1 1000 (some ⟨w1.heap.size, 0, none⟩) 1 [z1] V1 RV1.out r1 Q1.out).mono ?_
  rintro e w2 ⟨rfl, b2⟩
  have K2 := Lib.hid (below_join HV1.out b2 HV1.out.size)
  clear b2
  cases r1
  · obtain rfl : true = r := by have h := HR.out; rw [show (ixB z0 (s.racks.length : Int)) = true from Q0.out, show (areB 1 1000 [z1]) = false from Q1.out] at h; exact h
    go_wp2_with (fail)
    go_ret
    exact ⟨rfl, below_join HB0.out K2.out HB0.out.size⟩
  obtain ⟨x0, x1, x2, x3, sc3⟩ := HF.out w2 K2.out
  obtain ⟨r2, h2⟩ : ∃ b, areB 0 10000 [z2] = b := ⟨_, rfl⟩
  have Q2 := Lib.hid h2
  clear h2
  obtain ⟨V2, hV2⟩ : ∃ X, X = w2.alloc (.cells #[.int .i64 z2] 3) := ⟨_, rfl⟩
  have bV2 : Below w2.heap.size w2 V2 := by subst hV2; exact (Below.refl _ _).alloc (Nat.le_refl _) _
  have RV2 := Lib.hid (show Rw 1 inF V2 (some ⟨w2.heap.size, 0, none⟩) 1 [z2] by subst hV2; exact rw_lit [z2] (by simp [maxLen]) _)
  have HV2 := Lib.hid (below_join K2.out bV2 K2.out.size)
  clear bV2
  go_wp2_with (fail)
  rw [← hV2]
  clear hV2
  clear x0 x1 x2 x3 sc3
  go_at_call 75
  refine (c_areFrom 0 10000 (some ⟨w2.heap.size, 0, none⟩) 1 [z2] V2 RV2.out r2 Q2.out).mono ?_
  rintro e w3 ⟨rfl, b3⟩
  have K3 := Lib.hid (below_join HV2.out b3 HV2.out.size)
  clear b3
  cases r2
  · obtain rfl : true = r := by have h := HR.out; rw [show (ixB z0 (s.racks.length : Int)) = true from Q0.out, show (areB 1 1000 [z1]) = true from Q1.out, show (areB 0 10000 [z2]) = false from Q2.out] at h; exact h
    go_wp2_with (fail)
    go_ret
    exact ⟨rfl, below_join HB0.out K3.out HB0.out.size⟩
  obtain ⟨x0, x1, x2, x3, sc3⟩ := HF.out w3 K3.out
  obtain ⟨r3, h3⟩ : ∃ b, areB 0 1000 [z3] = b := ⟨_, rfl⟩
  have Q3 := Lib.hid h3
  clear h3
  obtain ⟨V3, hV3⟩ : ∃ X, X = w3.alloc (.cells #[.int .i64 z3] 3) := ⟨_, rfl⟩
  have bV3 : Below w3.heap.size w3 V3 := by subst hV3; exact (Below.refl _ _).alloc (Nat.le_refl _) _
  have RV3 := Lib.hid (show Rw 1 inF V3 (some ⟨w3.heap.size, 0, none⟩) 1 [z3] by subst hV3; exact rw_lit [z3] (by simp [maxLen]) _)
  have HV3 := Lib.hid (below_join K3.out bV3 K3.out.size)
  clear bV3
  go_wp2_with (fail)
  rw [← hV3]
  clear hV3
  clear x0 x1 x2 x3 sc3
  go_at_call 75
  refine (c_areFrom 0 1000 (some ⟨w3.heap.size, 0, none⟩) 1 [z3] V3 RV3.out r3 Q3.out).mono ?_
  rintro e w4 ⟨rfl, b4⟩
  have K4 := Lib.hid (below_join HV3.out b4 HV3.out.size)
  clear b4
  cases r3
  · obtain rfl : true = r := by have h := HR.out; rw [show (ixB z0 (s.racks.length : Int)) = true from Q0.out, show (areB 1 1000 [z1]) = true from Q1.out, show (areB 0 10000 [z2]) = true from Q2.out, show (areB 0 1000 [z3]) = false from Q3.out] at h; exact h
    go_wp2_with (fail)
    go_ret
    exact ⟨rfl, below_join HB0.out K4.out HB0.out.size⟩
  · obtain rfl : false = r := by have h := HR.out; rw [show (ixB z0 (s.racks.length : Int)) = true from Q0.out, show (areB 1 1000 [z1]) = true from Q1.out, show (areB 0 10000 [z2]) = true from Q2.out, show (areB 0 1000 [z3]) = true from Q3.out] at h; exact h
    go_wp2_with (fail)
    go_ret
    exact ⟨rfl, below_join HB0.out K4.out HB0.out.size⟩
theorem rwHost {w : World} {b o c : Nat} {l : List Hs} (h : Rw 4 hsF w (some ⟨b, o, none⟩) c l) {j : Nat} {z0 z1 z2 z3 : Int} (hj : l[j]? = some ⟨z0, z1, z2, z3⟩) : w.cell? ⟨b, o + j * 4, none⟩ = some (.int .i64 z0) ∧ w.cell? ⟨b, o + j * 4 + 1, none⟩ = some (.int .i64 z1) ∧ w.cell? ⟨b, o + j * 4 + 2, none⟩ = some (.int .i64 z2) ∧ w.cell? ⟨b, o + j * 4 + 3, none⟩ = some (.int .i64 z3) := by
  obtain ⟨b', o', e, -, h0⟩ := h.at_ hj
  injection e with e
  injection e with e1 e2
  subst e1 e2
  exact ⟨by simpa [hsF] using h0 0 (by omega), by simpa [hsF] using h0 1 (by omega), by simpa [hsF] using h0 2 (by omega), by simpa [hsF] using h0 3 (by omega)⟩
set_option maxHeartbeats 8000000 in
theorem c_IF_Host (bs : Nat) (p : SP) (s : SiteD) (A : Option Addr) (c : Nat) (l : List Hs) (w : World) (hbox : SiBox w bs p s) (h : Rw 4 hsF w A c l) (y : Int) (hy : fidx (hsBad s.racks.length) l = y) :
    Calls Tryz.prog 148 #[.slice A l.length c, .func (.func 81) #[] #[.pointer (some ⟨bs, 0, none⟩)]] w fun e w' => e = .returned (.int .i64 y) ∧ Below w.heap.size w w' := by
  have H := Lib.hid h
  have HY := Lib.hid hy
  have hc1 := h.1
  have hc2 := h.2.1
  unfold maxLen at hc2
  have HS := Lib.hid hbox
  clear h hy hbox
  go_enter Tryz.func148, Tryz.ntmps148
  go_wp2_with (fail)
  go_loopw [8] (fun i wr => ∃ k : Nat, k ≤ l.length ∧ i = .int .i64 (k : Int) ∧ Hid (∀ i y, i < k → l[i]? = some y → hsBad s.racks.length y = false) ∧ Hid (Below w.heap.size w wr)) (fun i _ => l.length - (intOf i).toNat)
  case atStart => exact ⟨0, Nat.zero_le _, rfl, Lib.hid (fun i y hi => absurd hi (by omega)), Lib.hid (Below.refl _ _)⟩
  case round =>
    obtain ⟨k, hk, rfl, hun, hB⟩ := hrel
    by_cases hlt : k < l.length
    · obtain ⟨⟨z0, z1, z2, z3⟩, hx⟩ : ∃ x, l[k]? = some x := ⟨_, List.getElem?_eq_getElem hlt⟩
      have HK := H.out
      obtain ⟨pb, o, rfl, -, -⟩ := HK.at_ hx
      obtain ⟨y0, y1, y2, y3⟩ := rwHost (HK.on hB.out (Nat.le_refl _)) hx
      have HXX := Lib.hid hx
      have hki : ((k : Nat) : Int).toNat = k := by omega
      have hlt' : (k : Int) < ((l.length : Nat) : Int) := by omega
      have HS1 := Lib.hid (HS.out.on hB.out (Nat.le_refl _))
      have HC := Lib.hid (fun (r : Bool) (hr : hsBad s.racks.length ⟨z0, z1, z2, z3⟩ = r) => c_badHost bs p s z0 z1 z2 z3 r hr wr HS1.out)
      clear hx HK
      rcases hp : hsBad s.racks.length ⟨z0, z1, z2, z3⟩ with _ | _
      · have HP := Lib.hid hp
        clear hp
        go_wp2_with (go_at_call 81; refine (HC.out _ HP.out).mono ?_; rintro e w1 ⟨rfl, b1⟩; have HB1 := Lib.hid (below_join hB.out b1 hB.out.size); clear b1 y0 y1 y2 y3)
        go_roundw
        case rel => exact ⟨k + 1, by omega, by go_num, Lib.hid (fun i y hi hy => by
          rcases Nat.lt_or_ge i k with h | h
          · exact hun.out i y h hy
          · obtain rfl : i = k := by omega
            have := HXX.out
            rw [hy] at this
            injection this with this
            subst this
            exact HP.out), HB1⟩
        case measure => simp only [intOf]; omega
      · have HKY := Lib.hid (show (k : Int) = y by rw [← HY.out]; exact (fidx_at _ l k _ hun.out HXX.out hp).symm)
        have HP := Lib.hid hp
        clear hp
        go_wp2_with (go_at_call 81; refine (HC.out _ HP.out).mono ?_; rintro e w1 ⟨rfl, b1⟩; have HB1 := Lib.hid (below_join hB.out b1 hB.out.size); clear b1 y0 y1 y2 y3)
        go_ret
        exact ⟨(show Ending.returned (.int .i64 (k : Int)) = .returned (.int .i64 y) by rw [HKY.out]), HB1.out⟩
    · obtain rfl : k = l.length := by omega
      have HKY := Lib.hid (show (-1 : Int) = y by rw [← HY.out, fidx_none _ l (fun i y hy => hun.out i y (List.getElem?_eq_some_iff.1 hy).1 hy)])
      go_wp2_with (fail)
      go_ret
      exact ⟨(show Ending.returned (.int .i64 (-1)) = .returned (.int .i64 y) by rw [HKY.out]), hB.out⟩
set_option maxHeartbeats 4000000 in
theorem c_CF_Host (bs : Nat) (p : SP) (s : SiteD) (A : Option Addr) (c : Nat) (l : List Hs) (w : World) (hbox : SiBox w bs p s) (h : Rw 4 hsF w A c l) (r : Bool) (hr : l.any (hsBad s.racks.length) = r) :
    Calls Tryz.prog 118 #[.slice A l.length c, .func (.func 81) #[] #[.pointer (some ⟨bs, 0, none⟩)]] w fun e w' => e = .returned (.bool r) ∧ Below w.heap.size w w' := by
  obtain ⟨y, hy⟩ : ∃ y, fidx (hsBad s.racks.length) l = y := ⟨_, rfl⟩
  have HC := Lib.hid (c_IF_Host bs p s A c l w hbox h y hy)
  have HR := Lib.hid (show decide (0 ≤ y) = r by rw [← hy, fidx_any, hr])
  clear hy hr h hbox
  go_enter Tryz.func118, Tryz.ntmps118
  go_wp2_with (go_at_call 148; refine HC.out.mono ?_; rintro e w1 ⟨rfl, b1⟩; have HB1 := Lib.hid b1; clear b1)
  go_ret
  exact ⟨(show Ending.returned (.bool (decide (0 ≤ y))) = .returned (.bool r) by rw [HR.out]), HB1.out⟩
set_option maxHeartbeats 4000000 in
theorem c_goodHost (bs : Nat) (p : SP) (s : SiteD) (lo hi : Int) (A : Option Addr) (c : Nat) (l : List Hs) (w : World) (hbox : SiBox w bs p s) (h : Rw 4 hsF w A c l) (r : Bool) (hr : goodB (hsBad s.racks.length) lo hi l = r) :
    Calls Tryz.prog 87 #[.slice A l.length c, .int .i64 lo, .int .i64 hi, .func (.func 81) #[] #[.pointer (some ⟨bs, 0, none⟩)]] w fun e w' => e = .returned (.bool r) ∧ Below w.heap.size w w' := by
  obtain ⟨W, hW⟩ : ∃ W, W = w.alloc (.cells #[.int .i64 (l.length : Int)] 3) := ⟨_, rfl⟩
  have B0 : Below w.heap.size w W := by subst hW; exact (Below.refl _ _).alloc (Nat.le_refl _) _
  have RW := Lib.hid (show Rw 1 inF W (some ⟨w.heap.size, 0, none⟩) 1 [(l.length : Int)] by subst hW; exact rw_lit [(l.length : Int)] (by simp [maxLen]) _)
  have HB0 := Lib.hid B0
  have H := Lib.hid h
  have hlc : (l.length : Int) ≤ 9223372036854775807 := by have h1 := h.1; have h2 := h.2.1; unfold maxLen at h2; omega
  have HS := Lib.hid hbox
  have HR := Lib.hid (show (areB lo hi [(l.length : Int)] && !l.any (hsBad s.racks.length)) = r from hr)
  clear hr h B0 hbox
  obtain ⟨r1, h1⟩ : ∃ b, areB lo hi [(l.length : Int)] = b := ⟨_, rfl⟩
  have Q1 := Lib.hid h1
  clear h1
  go_enter Tryz.func87, Tryz.ntmps87
  go_wp2_with (fail)
  rw [← hW]
  go_at_call 75
  refine (c_areFrom lo hi (some ⟨w.heap.size, 0, none⟩) 1 [(l.length : Int)] W RW.out r1 Q1.out).mono ?_
  rintro e w1 ⟨rfl, b1⟩
  have K1 := Lib.hid (below_join HB0.out b1 HB0.out.size)
  clear b1 hW
  cases r1
  · obtain rfl : false = r := by have h := HR.out; rw [Q1.out] at h; exact h
    go_wp2_with (fail)
    go_ret
    exact ⟨rfl, K1.out⟩
  · obtain ⟨r2, h2⟩ : ∃ b, l.any (hsBad s.racks.length) = b := ⟨_, rfl⟩
    have Q2 := Lib.hid h2
    obtain rfl : (!r2) = r := by have h := HR.out; rw [Q1.out, h2] at h; exact h
    clear h2
    go_wp2_with (fail)
    go_at_call 118
    refine (c_CF_Host bs p s A c l w1 (HS.out.on K1.out (Nat.le_refl _)) (H.out.on K1.out (Nat.le_refl _)) r2 Q2.out).mono ?_
    rintro e w2 ⟨rfl, b2⟩
    have K2 := Lib.hid (below_join K1.out b2 K1.out.size)
    clear b2
    go_wp2_with (fail)
    go_ret
    exact ⟨rfl, K2.out⟩
end Go.Proofs.YtbbadnlaelgmlaaGreat

namespace Go.Proofs.YtbbadnlaelgmlaaGreat
open Go.RowKit
set_option maxRecDepth 100000
set_option linter.unusedVariables false
set_option linter.unusedSimpArgs false

set_option maxHeartbeats 8000000 in
theorem c_badLink (bs : Nat) (p : SP) (s : SiteD) (z0 z1 z2 : Int) (r : Bool) (hr : lkBad s.sw ⟨z0, z1, z2⟩ = r) (w : World) (hbox : SiBox w bs p s) :
    Calls Tryz.prog 80 #[.agg #[.int .i64 z0, .int .i64 z1, .int .i64 z2], .pointer (some ⟨bs, 0, none⟩)] w fun e w' => e = .returned (.bool r) ∧ Below w.heap.size w w' := by
  obtain ⟨W, hW⟩ : ∃ W, W = w.alloc (.cells #[.int .i64 z0, .int .i64 z1, .int .i64 z2] 119) := ⟨_, rfl⟩
  have B0 : Below w.heap.size w W := by subst hW; exact (Below.refl _ _).alloc (Nat.le_refl _) _
  have HB0 := Lib.hid B0
  have HX := Lib.hid (show W.heap[w.heap.size]? = some (.cells #[.int .i64 z0, .int .i64 z1, .int .i64 z2] 119 (0, 0)) by subst hW; exact heap_alloc_new _ _)
  have HS := Lib.hid (hbox.on B0 (Nat.le_refl _))
  clear hbox
  have HF := Lib.hid (fun (X : World) (hX : Below W.heap.size W X) => (⟨cell_of ((hX.block _ (at_lt HX.out)).trans HX.out) rfl, cell_of ((hX.block _ (at_lt HX.out)).trans HX.out) rfl, cell_of ((hX.block _ (at_lt HX.out)).trans HX.out) rfl, (HS.out.on hX (Nat.le_refl _)).c4⟩ : X.cell? ⟨w.heap.size, 0, none⟩ = some (.int .i64 z0) ∧ X.cell? ⟨w.heap.size, 1, none⟩ = some (.int .i64 z1) ∧ X.cell? ⟨w.heap.size, 2, none⟩ = some (.int .i64 z2) ∧ X.cell? ⟨bs, 4, none⟩ = some (.int .i64 s.sw)))
  have HR := Lib.hid (show (!ixB z0 s.sw || (!ixB z1 s.sw || ((z0 == z1) || (!areB 1 1000000 [z2])))) = r from hr)
  have KW := Lib.hid (Below.refl W.heap.size W)
  clear B0 hr
  obtain ⟨x0, x1, x2, sc4⟩ := HF.out W KW.out
  rw [hW] at x0 x1 x2 sc4
  go_enter Tryz.func80, Tryz.ntmps80
  obtain ⟨r0, h0⟩ : ∃ b, ixB z0 s.sw = b := ⟨_, rfl⟩
  have Q0 := Lib.hid h0
  clear h0
  go_wp2_with (fail)
  rw [← hW]
  clear hW
  clear x0 x1 x2 sc4
  go_at_call 77
  refine (c_isIndex z0 s.sw r0 Q0.out W).mono ?_
  rintro e w1 ⟨rfl, b1⟩
  have K1 := Lib.hid (below_join KW.out b1 KW.out.size)
  clear b1
  cases r0
  · obtain rfl : true = r := by have h := HR.out; rw [show (ixB z0 s.sw) = false from Q0.out] at h; exact h
    go_wp2_with (fail)
    go_ret
    exact ⟨rfl, below_join HB0.out K1.out HB0.out.size⟩
  obtain ⟨x0, x1, x2, sc4⟩ := HF.out w1 K1.out
  obtain ⟨r1, h1⟩ : ∃ b, ixB z1 s.sw = b := ⟨_, rfl⟩
  have Q1 := Lib.hid h1
  clear h1
  go_wp2_with (fail)
  clear x0 x1 x2 sc4
  go_at_call 77
  refine (c_isIndex z1 s.sw r1 Q1.out w1).mono ?_
  rintro e w2 ⟨rfl, b2⟩
  have K2 := Lib.hid (below_join K1.out b2 K1.out.size)
  clear b2
  cases r1
  · obtain rfl : true = r := by have h := HR.out; rw [show (ixB z0 s.sw) = true from Q0.out, show (ixB z1 s.sw) = false from Q1.out] at h; exact h
    go_wp2_with (fail)
    go_ret
    exact ⟨rfl, below_join HB0.out K2.out HB0.out.size⟩
  obtain ⟨x0, x1, x2, sc4⟩ := HF.out w2 K2.out
  rcases h2 : (z0 == z1) with _ | _
  rotate_left
  · have Q2 := Lib.hid h2
    obtain rfl : true = r := by have h := HR.out; rw [show (ixB z0 s.sw) = true from Q0.out, show (ixB z1 s.sw) = true from Q1.out, show ((z0 == z1)) = true from Q2.out] at h; exact h
    go_wp2_with (fail)
    go_ret
    exact ⟨rfl, below_join HB0.out K2.out HB0.out.size⟩
  have Q2 := Lib.hid h2
  obtain ⟨r3, h3⟩ : ∃ b, areB 1 1000000 [z2] = b := ⟨_, rfl⟩
  have Q3 := Lib.hid h3
  clear h3
  obtain ⟨V3, hV3⟩ : ∃ X, X = w2.alloc (.cells #[.int .i64 z2] 3) := ⟨_, rfl⟩
  have bV3 : Below w2.heap.size w2 V3 := by subst hV3; exact (Below.refl _ _).alloc (Nat.le_refl _) _
  have RV3 := Lib.hid (show Rw 1 inF V3 (some ⟨w2.heap.size, 0, none⟩) 1 [z2] by subst hV3; exact rw_lit [z2] (by simp [maxLen]) _)
  have HV3 := Lib.hid (below_join K2.out bV3 K2.out.size)
  clear bV3
  go_wp2_with (fail)
  rw [← hV3]
  clear hV3
  clear x0 x1 x2 sc4
  go_at_call 75
  refine (c_areFrom 1 1000000 (some ⟨w2.heap.size, 0, none⟩) 1 [z2] V3 RV3.out r3 Q3.out).mono ?_
  rintro e w3 ⟨rfl, b3⟩
  have K3 := Lib.hid (below_join HV3.out b3 HV3.out.size)
  clear b3
  cases r3
  · obtain rfl : true = r := by have h := HR.out; rw [show (ixB z0 s.sw) = true from Q0.out, show (ixB z1 s.sw) = true from Q1.out, show ((z0 == z1)) = false from Q2.out, show (areB 1 1000000 [z2]) = false from Q3.out] at h; exact h
    go_wp2_with (fail)
    go_ret
    exact ⟨rfl, below_join HB0.out K3.out HB0.out.size⟩
  · obtain rfl : false = r := by have h := HR.out; rw [show (ixB z0 s.sw) = true from Q0.out, show (ixB z1 s.sw) = true from Q1.out, show ((z0 == z1)) = false from Q2.out, show (areB 1 1000000 [z2]) = true from Q3.out] at h; exact h
    go_wp2_with (fail)
    go_ret
    exact ⟨rfl, below_join HB0.out K3.out HB0.out.size⟩
theorem rwLink {w : World} {b o c : Nat} {l : List Lk} (h : Rw 3 lkF w (some ⟨b, o, none⟩) c l) {j : Nat} {z0 z1 z2 : Int} (hj : l[j]? = some ⟨z0, z1, z2⟩) : w.cell? ⟨b, o + j * 3, none⟩ = some (.int .i64 z0) ∧ w.cell? ⟨b, o + j * 3 + 1, none⟩ = some (.int .i64 z1) ∧ w.cell? ⟨b, o + j * 3 + 2, none⟩ = some (.int .i64 z2) := by
  obtain ⟨b', o', e, -, h0⟩ := h.at_ hj
  injection e with e
  injection e with e1 e2
  subst e1 e2
  exact ⟨by simpa [lkF] using h0 0 (by omega), by simpa [lkF] using h0 1 (by omega), by simpa [lkF] using h0 2 (by omega)⟩
set_option maxHeartbeats 8000000 in
theorem c_IF_Link (bs : Nat) (p : SP) (s : SiteD) (A : Option Addr) (c : Nat) (l : List Lk) (w : World) (hbox : SiBox w bs p s) (h : Rw 3 lkF w A c l) (y : Int) (hy : fidx (lkBad s.sw) l = y) :
    Calls Tryz.prog 147 #[.slice A l.length c, .func (.func 80) #[] #[.pointer (some ⟨bs, 0, none⟩)]] w fun e w' => e = .returned (.int .i64 y) ∧ Below w.heap.size w w' := by
  have H := Lib.hid h
  have HY := Lib.hid hy
  have hc1 := h.1
  have hc2 := h.2.1
  unfold maxLen at hc2
  have HS := Lib.hid hbox
  clear h hy hbox
  go_enter Tryz.func147, Tryz.ntmps147
  go_wp2_with (fail)
  go_loopw [8] (fun i wr => ∃ k : Nat, k ≤ l.length ∧ i = .int .i64 (k : Int) ∧ Hid (∀ i y, i < k → l[i]? = some y → lkBad s.sw y = false) ∧ Hid (Below w.heap.size w wr)) (fun i _ => l.length - (intOf i).toNat)
  case atStart => exact ⟨0, Nat.zero_le _, rfl, Lib.hid (fun i y hi => absurd hi (by omega)), Lib.hid (Below.refl _ _)⟩
  case round =>
    obtain ⟨k, hk, rfl, hun, hB⟩ := hrel
    by_cases hlt : k < l.length
    · obtain ⟨⟨z0, z1, z2⟩, hx⟩ : ∃ x, l[k]? = some x := ⟨_, List.getElem?_eq_getElem hlt⟩
      have HK := H.out
      obtain ⟨pb, o, rfl, -, -⟩ := HK.at_ hx
      obtain ⟨y0, y1, y2⟩ := rwLink (HK.on hB.out (Nat.le_refl _)) hx
      have HXX := Lib.hid hx
      have hki : ((k : Nat) : Int).toNat = k := by omega
      have hlt' : (k : Int) < ((l.length : Nat) : Int) := by omega
      have HS1 := Lib.hid (HS.out.on hB.out (Nat.le_refl _))
      have HC := Lib.hid (fun (r : Bool) (hr : lkBad s.sw ⟨z0, z1, z2⟩ = r) => c_badLink bs p s z0 z1 z2 r hr wr HS1.out)
      clear hx HK
      rcases hp : lkBad s.sw ⟨z0, z1, z2⟩ with _ | _
      · have HP := Lib.hid hp
        clear hp
        go_wp2_with (go_at_call 80; refine (HC.out _ HP.out).mono ?_; rintro e w1 ⟨rfl, b1⟩; have HB1 := Lib.hid (below_join hB.out b1 hB.out.size); clear b1 y0 y1 y2)
        go_roundw
        case rel => exact ⟨k + 1, by omega, by go_num, Lib.hid (fun i y hi hy => by
          rcases Nat.lt_or_ge i k with h | h
          · exact hun.out i y h hy
          · obtain rfl : i = k := by omega
            have := HXX.out
            rw [hy] at this
            injection this with this
            subst this
            exact HP.out), HB1⟩
        case measure => simp only [intOf]; omega
      · have HKY := Lib.hid (show (k : Int) = y by rw [← HY.out]; exact (fidx_at _ l k _ hun.out HXX.out hp).symm)
        have HP := Lib.hid hp
        clear hp
        go_wp2_with (go_at_call 80; refine (HC.out _ HP.out).mono ?_; rintro e w1 ⟨rfl, b1⟩; have HB1 := Lib.hid (below_join hB.out b1 hB.out.size); clear b1 y0 y1 y2)
        go_ret
        exact ⟨(show Ending.returned (.int .i64 (k : Int)) = .returned (.int .i64 y) by rw [HKY.out]), HB1.out⟩
    · obtain rfl : k = l.length := by omega
      have HKY := Lib.hid (show (-1 : Int) = y by rw [← HY.out, fidx_none _ l (fun i y hy => hun.out i y (List.getElem?_eq_some_iff.1 hy).1 hy)])
      go_wp2_with (fail)
      go_ret
      exact ⟨(show Ending.returned (.int .i64 (-1)) = .returned (.int .i64 y) by rw [HKY.out]), hB.out⟩
set_option maxHeartbeats 4000000 in
theorem c_CF_Link (bs : Nat) (p : SP) (s : SiteD) (A : Option Addr) (c : Nat) (l : List Lk) (w : World) (hbox : SiBox w bs p s) (h : Rw 3 lkF w A c l) (r : Bool) (hr : l.any (lkBad s.sw) = r) :
    Calls Tryz.prog 117 #[.slice A l.length c, .func (.func 80) #[] #[.pointer (some ⟨bs, 0, none⟩)]] w fun e w' => e = .returned (.bool r) ∧ Below w.heap.size w w' := by
  obtain ⟨y, hy⟩ : ∃ y, fidx (lkBad s.sw) l = y := ⟨_, rfl⟩
  have HC := Lib.hid (c_IF_Link bs p s A c l w hbox h y hy)
  have HR := Lib.hid (show decide (0 ≤ y) = r by rw [← hy, fidx_any, hr])
  clear hy hr h hbox
  go_enter Tryz.func117, Tryz.ntmps117
  go_wp2_with (go_at_call 147; refine HC.out.mono ?_; rintro e w1 ⟨rfl, b1⟩; have HB1 := Lib.hid b1; clear b1)
  go_ret
  exact ⟨(show Ending.returned (.bool (decide (0 ≤ y))) = .returned (.bool r) by rw [HR.out]), HB1.out⟩
set_option maxHeartbeats 4000000 in
theorem c_goodLink (bs : Nat) (p : SP) (s : SiteD) (lo hi : Int) (A : Option Addr) (c : Nat) (l : List Lk) (w : World) (hbox : SiBox w bs p s) (h : Rw 3 lkF w A c l) (r : Bool) (hr : goodB (lkBad s.sw) lo hi l = r) :
    Calls Tryz.prog 86 #[.slice A l.length c, .int .i64 lo, .int .i64 hi, .func (.func 80) #[] #[.pointer (some ⟨bs, 0, none⟩)]] w fun e w' => e = .returned (.bool r) ∧ Below w.heap.size w w' := by
  obtain ⟨W, hW⟩ : ∃ W, W = w.alloc (.cells #[.int .i64 (l.length : Int)] 3) := ⟨_, rfl⟩
  have B0 : Below w.heap.size w W := by subst hW; exact (Below.refl _ _).alloc (Nat.le_refl _) _
  have RW := Lib.hid (show Rw 1 inF W (some ⟨w.heap.size, 0, none⟩) 1 [(l.length : Int)] by subst hW; exact rw_lit [(l.length : Int)] (by simp [maxLen]) _)
  have HB0 := Lib.hid B0
  have H := Lib.hid h
  have hlc : (l.length : Int) ≤ 9223372036854775807 := by have h1 := h.1; have h2 := h.2.1; unfold maxLen at h2; omega
  have HS := Lib.hid hbox
  have HR := Lib.hid (show (areB lo hi [(l.length : Int)] && !l.any (lkBad s.sw)) = r from hr)
  clear hr h B0 hbox
  obtain ⟨r1, h1⟩ : ∃ b, areB lo hi [(l.length : Int)] = b := ⟨_, rfl⟩
  have Q1 := Lib.hid h1
  clear h1
  go_enter Tryz.func86, Tryz.ntmps86
  go_wp2_with (fail)
  rw [← hW]
  go_at_call 75
  refine (c_areFrom lo hi (some ⟨w.heap.size, 0, none⟩) 1 [(l.length : Int)] W RW.out r1 Q1.out).mono ?_
  rintro e w1 ⟨rfl, b1⟩
  have K1 := Lib.hid (below_join HB0.out b1 HB0.out.size)
  clear b1 hW
  cases r1
  · obtain rfl : false = r := by have h := HR.out; rw [Q1.out] at h; exact h
    go_wp2_with (fail)
    go_ret
    exact ⟨rfl, K1.out⟩
  · obtain ⟨r2, h2⟩ : ∃ b, l.any (lkBad s.sw) = b := ⟨_, rfl⟩
    have Q2 := Lib.hid h2
    obtain rfl : (!r2) = r := by have h := HR.out; rw [Q1.out, h2] at h; exact h
    clear h2
    go_wp2_with (fail)
    go_at_call 117
    refine (c_CF_Link bs p s A c l w1 (HS.out.on K1.out (Nat.le_refl _)) (H.out.on K1.out (Nat.le_refl _)) r2 Q2.out).mono ?_
    rintro e w2 ⟨rfl, b2⟩
    have K2 := Lib.hid (below_join K1.out b2 K1.out.size)
    clear b2
    go_wp2_with (fail)
    go_ret
    exact ⟨rfl, K2.out⟩
end Go.Proofs.YtbbadnlaelgmlaaGreat

namespace Go.Proofs.YtbbadnlaelgmlaaGreat
open Go.RowKit
set_option maxRecDepth 100000
set_option linter.unusedVariables false
set_option linter.unusedSimpArgs false

set_option maxHeartbeats 8000000 in
theorem c_badLoop (z0 z1 : Int) (r : Bool) (hr : lpBad ⟨z0, z1⟩ = r) (w : World) :
    Calls Tryz.prog 78 #[.agg #[.int .i64 z0, .int .i64 z1]] w fun e w' => e = .returned (.bool r) ∧ Below w.heap.size w w' := by
  obtain ⟨W, hW⟩ : ∃ W, W = w.alloc (.cells #[.int .i64 z0, .int .i64 z1] 85) := ⟨_, rfl⟩
  have B0 : Below w.heap.size w W := by subst hW; exact (Below.refl _ _).alloc (Nat.le_refl _) _
  have HB0 := Lib.hid B0
  have HX := Lib.hid (show W.heap[w.heap.size]? = some (.cells #[.int .i64 z0, .int .i64 z1] 85 (0, 0)) by subst hW; exact heap_alloc_new _ _)
  have HF := Lib.hid (fun (X : World) (hX : Below W.heap.size W X) => (⟨cell_of ((hX.block _ (at_lt HX.out)).trans HX.out) rfl, cell_of ((hX.block _ (at_lt HX.out)).trans HX.out) rfl⟩ : X.cell? ⟨w.heap.size, 0, none⟩ = some (.int .i64 z0) ∧ X.cell? ⟨w.heap.size, 1, none⟩ = some (.int .i64 z1)))
  have HR := Lib.hid (show (!areB 0 1000000 [z0] || (!areB 0 100 [z1])) = r from hr)
  have KW := Lib.hid (Below.refl W.heap.size W)
  clear B0 hr
  obtain ⟨x0, x1⟩ := HF.out W KW.out
  rw [hW] at x0 x1
  go_enter Tryz.func78, Tryz.ntmps78
  obtain ⟨r0, h0⟩ : ∃ b, areB 0 1000000 [z0] = b := ⟨_, rfl⟩
  have Q0 := Lib.hid h0
  clear h0
  obtain ⟨V0, hV0⟩ : ∃ X, X = W.alloc (.cells #[.int .i64 z0] 3) := ⟨_, rfl⟩
  have bV0 : Below W.heap.size W V0 := by subst hV0; exact (Below.refl _ _).alloc (Nat.le_refl _) _
  have RV0 := Lib.hid (show Rw 1 inF V0 (some ⟨w.heap.size + 1, 0, none⟩) 1 [z0] by subst hV0; have h := rw_lit [z0] (by simp [maxLen]) W; rw [show W.heap.size = w.heap.size + 1 from by rw [hW, World.size_alloc]] at h; exact h)
  have HV0 := Lib.hid (below_join KW.out bV0 KW.out.size)
  clear bV0
  go_wp2_with (fail)
  rw [← hW, ← hV0]
  clear hW hV0
  clear x0 x1
  go_at_call 75
  refine (c_areFrom 0 1000000 (some ⟨w.heap.size + 1, 0, none⟩) 1 [z0] V0 RV0.out r0 Q0.out).mono ?_
  rintro e w1 ⟨rfl, b1⟩
  have K1 := Lib.hid (below_join HV0.out b1 HV0.out.size)
  clear b1
  cases r0
  · obtain rfl : true = r := by have h := HR.out; rw [show (areB 0 1000000 [z0]) = false from Q0.out] at h; exact h
    go_wp2_with (fail)
    go_ret
    exact ⟨rfl, below_join HB0.out K1.out HB0.out.size⟩
  obtain ⟨x0, x1⟩ := HF.out w1 K1.out
  obtain ⟨r1, h1⟩ : ∃ b, areB 0 100 [z1] = b := ⟨_, rfl⟩
  have Q1 := Lib.hid h1
  clear h1
  obtain ⟨V1, hV1⟩ : ∃ X, X = w1.alloc (.cells #[.int .i64 z1] 3) := ⟨_, rfl⟩
  have bV1 : Below w1.heap.size w1 V1 := by subst hV1; exact (Below.refl _ _).alloc (Nat.le_refl _) _
  have RV1 := Lib.hid (show Rw 1 inF V1 (some ⟨w1.heap.size, 0, none⟩) 1 [z1] by subst hV1; exact rw_lit [z1] (by simp [maxLen]) _)
  have HV1 := Lib.hid (below_join K1.out bV1 K1.out.size)
  clear bV1
  go_wp2_with (fail)
  rw [← hV1]
  clear hV1
  clear x0 x1
  go_at_call 75
  refine (c_areFrom 0 100 (some ⟨w1.heap.size, 0, none⟩) 1 [z1] V1 RV1.out r1 Q1.out).mono ?_
  rintro e w2 ⟨rfl, b2⟩
  have K2 := Lib.hid (below_join HV1.out b2 HV1.out.size)
  clear b2
  cases r1
  · obtain rfl : true = r := by have h := HR.out; rw [show (areB 0 1000000 [z0]) = true from Q0.out, show (areB 0 100 [z1]) = false from Q1.out] at h; exact h
    go_wp2_with (fail)
    go_ret
    exact ⟨rfl, below_join HB0.out K2.out HB0.out.size⟩
  · obtain rfl : false = r := by have h := HR.out; rw [show (areB 0 1000000 [z0]) = true from Q0.out, show (areB 0 100 [z1]) = true from Q1.out] at h; exact h
    go_wp2_with (fail)
    go_ret
    exact ⟨rfl, below_join HB0.out K2.out HB0.out.size⟩
theorem rwLoop {w : World} {b o c : Nat} {l : List Lp} (h : Rw 2 lpF w (some ⟨b, o, none⟩) c l) {j : Nat} {z0 z1 : Int} (hj : l[j]? = some ⟨z0, z1⟩) : w.cell? ⟨b, o + j * 2, none⟩ = some (.int .i64 z0) ∧ w.cell? ⟨b, o + j * 2 + 1, none⟩ = some (.int .i64 z1) := by
  obtain ⟨b', o', e, -, h0⟩ := h.at_ hj
  injection e with e
  injection e with e1 e2
  subst e1 e2
  exact ⟨by simpa [lpF] using h0 0 (by omega), by simpa [lpF] using h0 1 (by omega)⟩
set_option maxHeartbeats 8000000 in
theorem c_IF_Loop (A : Option Addr) (c : Nat) (l : List Lp) (w : World) (h : Rw 2 lpF w A c l) (y : Int) (hy : fidx (lpBad) l = y) :
    Calls Tryz.prog 145 #[.slice A l.length c, .func (.func 78) #[] #[]] w fun e w' => e = .returned (.int .i64 y) ∧ Below w.heap.size w w' := by
  have H := Lib.hid h
  have HY := Lib.hid hy
  have hc1 := h.1
  have hc2 := h.2.1
  unfold maxLen at hc2

  clear h hy
  go_enter Tryz.func145, Tryz.ntmps145
  go_wp2_with (fail)
  go_loopw [8] (fun i wr => ∃ k : Nat, k ≤ l.length ∧ i = .int .i64 (k : Int) ∧ Hid (∀ i y, i < k → l[i]? = some y → lpBad y = false) ∧ Hid (Below w.heap.size w wr)) (fun i _ => l.length - (intOf i).toNat)
  case atStart => exact ⟨0, Nat.zero_le _, rfl, Lib.hid (fun i y hi => absurd hi (by omega)), Lib.hid (Below.refl _ _)⟩
  case round =>
    obtain ⟨k, hk, rfl, hun, hB⟩ := hrel
    by_cases hlt : k < l.length
    · obtain ⟨⟨z0, z1⟩, hx⟩ : ∃ x, l[k]? = some x := ⟨_, List.getElem?_eq_getElem hlt⟩
      have HK := H.out
      obtain ⟨pb, o, rfl, -, -⟩ := HK.at_ hx
      obtain ⟨y0, y1⟩ := rwLoop (HK.on hB.out (Nat.le_refl _)) hx
      have HXX := Lib.hid hx
      have hki : ((k : Nat) : Int).toNat = k := by omega
      have hlt' : (k : Int) < ((l.length : Nat) : Int) := by omega
      have HC := Lib.hid (fun (r : Bool) (hr : lpBad ⟨z0, z1⟩ = r) => c_badLoop z0 z1 r hr wr)
      clear hx HK
      rcases hp : lpBad ⟨z0, z1⟩ with _ | _
      · have HP := Lib.hid hp
        clear hp
        go_wp2_with (go_at_call 78; refine (HC.out _ HP.out).mono ?_; rintro e w1 ⟨rfl, b1⟩; have HB1 := Lib.hid (below_join hB.out b1 hB.out.size); clear b1 y0 y1)
        go_roundw
        case rel => exact ⟨k + 1, by omega, by go_num, Lib.hid (fun i y hi hy => by
          rcases Nat.lt_or_ge i k with h | h
          · exact hun.out i y h hy
          · obtain rfl : i = k := by omega
            have := HXX.out
            rw [hy] at this
            injection this with this
            subst this
            exact HP.out), HB1⟩
        case measure => simp only [intOf]; omega
      · have HKY := Lib.hid (show (k : Int) = y by rw [← HY.out]; exact (fidx_at _ l k _ hun.out HXX.out hp).symm)
        have HP := Lib.hid hp
        clear hp
        go_wp2_with (go_at_call 78; refine (HC.out _ HP.out).mono ?_; rintro e w1 ⟨rfl, b1⟩; have HB1 := Lib.hid (below_join hB.out b1 hB.out.size); clear b1 y0 y1)
        go_ret
        exact ⟨(show Ending.returned (.int .i64 (k : Int)) = .returned (.int .i64 y) by rw [HKY.out]), HB1.out⟩
    · obtain rfl : k = l.length := by omega
      have HKY := Lib.hid (show (-1 : Int) = y by rw [← HY.out, fidx_none _ l (fun i y hy => hun.out i y (List.getElem?_eq_some_iff.1 hy).1 hy)])
      go_wp2_with (fail)
      go_ret
      exact ⟨(show Ending.returned (.int .i64 (-1)) = .returned (.int .i64 y) by rw [HKY.out]), hB.out⟩
set_option maxHeartbeats 4000000 in
theorem c_CF_Loop (A : Option Addr) (c : Nat) (l : List Lp) (w : World) (h : Rw 2 lpF w A c l) (r : Bool) (hr : l.any (lpBad) = r) :
    Calls Tryz.prog 115 #[.slice A l.length c, .func (.func 78) #[] #[]] w fun e w' => e = .returned (.bool r) ∧ Below w.heap.size w w' := by
  obtain ⟨y, hy⟩ : ∃ y, fidx (lpBad) l = y := ⟨_, rfl⟩
  have HC := Lib.hid (c_IF_Loop A c l w h y hy)
  have HR := Lib.hid (show decide (0 ≤ y) = r by rw [← hy, fidx_any, hr])
  clear hy hr h
  go_enter Tryz.func115, Tryz.ntmps115
  go_wp2_with (go_at_call 145; refine HC.out.mono ?_; rintro e w1 ⟨rfl, b1⟩; have HB1 := Lib.hid b1; clear b1)
  go_ret
  exact ⟨(show Ending.returned (.bool (decide (0 ≤ y))) = .returned (.bool r) by rw [HR.out]), HB1.out⟩
set_option maxHeartbeats 4000000 in
theorem c_goodLoop (lo hi : Int) (A : Option Addr) (c : Nat) (l : List Lp) (w : World) (h : Rw 2 lpF w A c l) (r : Bool) (hr : goodB (lpBad) lo hi l = r) :
    Calls Tryz.prog 84 #[.slice A l.length c, .int .i64 lo, .int .i64 hi, .func (.func 78) #[] #[]] w fun e w' => e = .returned (.bool r) ∧ Below w.heap.size w w' := by
  obtain ⟨W, hW⟩ : ∃ W, W = w.alloc (.cells #[.int .i64 (l.length : Int)] 3) := ⟨_, rfl⟩
  have B0 : Below w.heap.size w W := by subst hW; exact (Below.refl _ _).alloc (Nat.le_refl _) _
  have RW := Lib.hid (show Rw 1 inF W (some ⟨w.heap.size, 0, none⟩) 1 [(l.length : Int)] by subst hW; exact rw_lit [(l.length : Int)] (by simp [maxLen]) _)
  have HB0 := Lib.hid B0
  have H := Lib.hid h
  have hlc : (l.length : Int) ≤ 9223372036854775807 := by have h1 := h.1; have h2 := h.2.1; unfold maxLen at h2; omega

  have HR := Lib.hid (show (areB lo hi [(l.length : Int)] && !l.any (lpBad)) = r from hr)
  clear hr h B0
  obtain ⟨r1, h1⟩ : ∃ b, areB lo hi [(l.length : Int)] = b := ⟨_, rfl⟩
  have Q1 := Lib.hid h1
  clear h1
  go_enter Tryz.func84, Tryz.ntmps84
  go_wp2_with (fail)
  rw [← hW]
  go_at_call 75
  refine (c_areFrom lo hi (some ⟨w.heap.size, 0, none⟩) 1 [(l.length : Int)] W RW.out r1 Q1.out).mono ?_
  rintro e w1 ⟨rfl, b1⟩
  have K1 := Lib.hid (below_join HB0.out b1 HB0.out.size)
  clear b1 hW
  cases r1
  · obtain rfl : false = r := by have h := HR.out; rw [Q1.out] at h; exact h
    go_wp2_with (fail)
    go_ret
    exact ⟨rfl, K1.out⟩
  · obtain ⟨r2, h2⟩ : ∃ b, l.any (lpBad) = b := ⟨_, rfl⟩
    have Q2 := Lib.hid h2
    obtain rfl : (!r2) = r := by have h := HR.out; rw [Q1.out, h2] at h; exact h
    clear h2
    go_wp2_with (fail)
    go_at_call 115
    refine (c_CF_Loop A c l w1 (H.out.on K1.out (Nat.le_refl _)) r2 Q2.out).mono ?_
    rintro e w2 ⟨rfl, b2⟩
    have K2 := Lib.hid (below_join K1.out b2 K1.out.size)
    clear b2
    go_wp2_with (fail)
    go_ret
    exact ⟨rfl, K2.out⟩
end Go.Proofs.YtbbadnlaelgmlaaGreat

namespace Go.Proofs.YtbbadnlaelgmlaaGreat
open Go.RowKit
set_option maxRecDepth 100000
set_option linter.unusedVariables false
set_option linter.unusedSimpArgs false

set_option maxHeartbeats 8000000 in
theorem c_badRack (bs : Nat) (p : SP) (s : SiteD) (z0 z1 z2 z3 : Int) (r : Bool) (hr : rkBad s.brks.length s.loops.length s.sw ⟨z0, z1, z2, z3⟩ = r) (w : World) (hbox : SiBox w bs p s) :
    Calls Tryz.prog 79 #[.agg #[.int .i64 z0, .int .i64 z1, .int .i64 z2, .int .i64 z3], .pointer (some ⟨bs, 0, none⟩)] w fun e w' => e = .returned (.bool r) ∧ Below w.heap.size w w' := by
  obtain ⟨W, hW⟩ : ∃ W, W = w.alloc (.cells #[.int .i64 z0, .int .i64 z1, .int .i64 z2, .int .i64 z3] 87) := ⟨_, rfl⟩
  have B0 : Below w.heap.size w W := by subst hW; exact (Below.refl _ _).alloc (Nat.le_refl _) _
  have HB0 := Lib.hid B0
  have HX := Lib.hid (show W.heap[w.heap.size]? = some (.cells #[.int .i64 z0, .int .i64 z1, .int .i64 z2, .int .i64 z3] 87 (0, 0)) by subst hW; exact heap_alloc_new _ _)
  have HS := Lib.hid (hbox.on B0 (Nat.le_refl _))
  clear hbox
  have HF := Lib.hid (fun (X : World) (hX : Below W.heap.size W X) => (⟨cell_of ((hX.block _ (at_lt HX.out)).trans HX.out) rfl, cell_of ((hX.block _ (at_lt HX.out)).trans HX.out) rfl, cell_of ((hX.block _ (at_lt HX.out)).trans HX.out) rfl, cell_of ((hX.block _ (at_lt HX.out)).trans HX.out) rfl, (HS.out.on hX (Nat.le_refl _)).c1, (HS.out.on hX (Nat.le_refl _)).c2, (HS.out.on hX (Nat.le_refl _)).c4⟩ : X.cell? ⟨w.heap.size, 0, none⟩ = some (.int .i64 z0) ∧ X.cell? ⟨w.heap.size, 1, none⟩ = some (.int .i64 z1) ∧ X.cell? ⟨w.heap.size, 2, none⟩ = some (.int .i64 z2) ∧ X.cell? ⟨w.heap.size, 3, none⟩ = some (.int .i64 z3) ∧ X.cell? ⟨bs, 1, none⟩ = some (.slice p.a2 s.brks.length p.c2) ∧ X.cell? ⟨bs, 2, none⟩ = some (.slice p.a3 s.loops.length p.c3) ∧ X.cell? ⟨bs, 4, none⟩ = some (.int .i64 s.sw)))
  have HR := Lib.hid (show (!ixB z0 4 || (!ixB z1 (s.brks.length : Int) || (!ixB z2 (s.loops.length : Int) || (!ixB z3 s.sw)))) = r from hr)
  have KW := Lib.hid (Below.refl W.heap.size W)
  clear B0 hr
  obtain ⟨x0, x1, x2, x3, sc1, sc2, sc4⟩ := HF.out W KW.out
  rw [hW] at x0 x1 x2 x3 sc1 sc2 sc4
  go_enter Tryz.func79, Tryz.ntmps79
  obtain ⟨r0, h0⟩ : ∃ b, ixB z0 4 = b := ⟨_, rfl⟩
  have Q0 := Lib.hid h0
  clear h0
  go_wp2_with (fail)
  rw [← hW]
  clear hW
  clear x0 x1 x2 x3 sc1 sc2 sc4
  go_at_call 77
  refine (c_isIndex z0 4 r0 Q0.out W).mono ?_
  rintro e w1 ⟨rfl, b1⟩
  have K1 := Lib.hid (below_join KW.out b1 KW.out.size)
  clear b1
  cases r0
  · obtain rfl : true = r := by have h := HR.out; rw [show (ixB z0 4) = false from Q0.out] at h; exact h
    go_wp2_with (fail)
    go_ret
    exact ⟨rfl, below_join HB0.out K1.out HB0.out.size⟩
  obtain ⟨x0, x1, x2, x3, sc1, sc2, sc4⟩ := HF.out w1 K1.out
  obtain ⟨r1, h1⟩ : ∃ b, ixB z1 (s.brks.length : Int) = b := ⟨_, rfl⟩
  have Q1 := Lib.hid h1
  clear h1
  go_wp2_with (fail)
  clear x0 x1 x2 x3 sc1 sc2 sc4
  go_at_call 77
  refine (c_isIndex z1 (s.brks.length : Int) r1 Q1.out w1).mono ?_
  rintro e w2 ⟨rfl, b2⟩
  have K2 := Lib.hid (below_join K1.out b2 K1.out.size)
  clear b2
  cases r1
  · obtain rfl : true = r := by have h := HR.out; rw [show (ixB z0 4) = true from Q0.out, show (ixB z1 (s.brks.length : Int)) = false from Q1.out] at h; exact h
    go_wp2_with (fail)
    go_ret
    exact ⟨rfl, below_join HB0.out K2.out HB0.out.size⟩
  obtain ⟨x0, x1, x2, x3, sc1, sc2, sc4⟩ := HF.out w2 K2.out
  obtain ⟨r2, h2⟩ : ∃ b, ixB z2 (s.loops.length : Int) = b := ⟨_, rfl⟩
  have Q2 := Lib.hid h2
  clear h2
  go_wp2_with (fail)
  clear x0 x1 x2 x3 sc1 sc2 sc4
  go_at_call 77
  refine (c_isIndex z2 (s.loops.length : Int) r2 Q2.out w2).mono ?_
  rintro e w3 ⟨rfl, b3⟩
  have K3 := Lib.hid (below_join K2.out b3 K2.out.size)
  clear b3
  cases r2
  · obtain rfl : true = r := by have h := HR.out; rw [show (ixB z0 4) = true from Q0.out, show (ixB z1 (s.brks.length : Int)) = true from Q1.out, show (ixB z2 (s.loops.length : Int)) = false from Q2.out] at h; exact h
    go_wp2_with (fail)
    go_ret
    exact ⟨rfl, below_join HB0.out K3.out HB0.out.size⟩
  obtain ⟨x0, x1, x2, x3, sc1, sc2, sc4⟩ := HF.out w3 K3.out
  obtain ⟨r3, h3⟩ : ∃ b, ixB z3 s.sw = b := ⟨_, rfl⟩
  have Q3 := Lib.hid h3
  clear h3
  go_wp2_with (fail)
  clear x0 x1 x2 x3 sc1 sc2 sc4
  go_at_call 77
  refine (c_isIndex z3 s.sw r3 Q3.out w3).mono ?_
  rintro e w4 ⟨rfl, b4⟩
  have K4 := Lib.hid (below_join K3.out b4 K3.out.size)
  clear b4
  cases r3
  · obtain rfl : true = r := by have h := HR.out; rw [show (ixB z0 4) = true from Q0.out, show (ixB z1 (s.brks.length : Int)) = true from Q1.out, show (ixB z2 (s.loops.length : Int)) = true from Q2.out, show (ixB z3 s.sw) = false from Q3.out] at h; exact h
    go_wp2_with (fail)
    go_ret
    exact ⟨rfl, below_join HB0.out K4.out HB0.out.size⟩
  · obtain rfl : false = r := by have h := HR.out; rw [show (ixB z0 4) = true from Q0.out, show (ixB z1 (s.brks.length : Int)) = true from Q1.out, show (ixB z2 (s.loops.length : Int)) = true from Q2.out, show (ixB z3 s.sw) = true from Q3.out] at h; exact h
    go_wp2_with (fail)
    go_ret
    exact ⟨rfl, below_join HB0.out K4.out HB0.out.size⟩
theorem rwRack {w : World} {b o c : Nat} {l : List Rk} (h : Rw 4 rkF w (some ⟨b, o, none⟩) c l) {j : Nat} {z0 z1 z2 z3 : Int} (hj : l[j]? = some ⟨z0, z1, z2, z3⟩) : w.cell? ⟨b, o + j * 4, none⟩ = some (.int .i64 z0) ∧ w.cell? ⟨b, o + j * 4 + 1, none⟩ = some (.int .i64 z1) ∧ w.cell? ⟨b, o + j * 4 + 2, none⟩ = some (.int .i64 z2) ∧ w.cell? ⟨b, o + j * 4 + 3, none⟩ = some (.int .i64 z3) := by
  obtain ⟨b', o', e, -, h0⟩ := h.at_ hj
  injection e with e
  injection e with e1 e2
  subst e1 e2
  exact ⟨by simpa [rkF] using h0 0 (by omega), by simpa [rkF] using h0 1 (by omega), by simpa [rkF] using h0 2 (by omega), by simpa [rkF] using h0 3 (by omega)⟩
set_option maxHeartbeats 8000000 in
theorem c_IF_Rack (bs : Nat) (p : SP) (s : SiteD) (A : Option Addr) (c : Nat) (l : List Rk) (w : World) (hbox : SiBox w bs p s) (h : Rw 4 rkF w A c l) (y : Int) (hy : fidx (rkBad s.brks.length s.loops.length s.sw) l = y) :
    Calls Tryz.prog 146 #[.slice A l.length c, .func (.func 79) #[] #[.pointer (some ⟨bs, 0, none⟩)]] w fun e w' => e = .returned (.int .i64 y) ∧ Below w.heap.size w w' := by
  have H := Lib.hid h
  have HY := Lib.hid hy
  have hc1 := h.1
  have hc2 := h.2.1
  unfold maxLen at hc2
  have HS := Lib.hid hbox
  clear h hy hbox
  go_enter Tryz.func146, Tryz.ntmps146
  go_wp2_with (fail)
  go_loopw [8] (fun i wr => ∃ k : Nat, k ≤ l.length ∧ i = .int .i64 (k : Int) ∧ Hid (∀ i y, i < k → l[i]? = some y → rkBad s.brks.length s.loops.length s.sw y = false) ∧ Hid (Below w.heap.size w wr)) (fun i _ => l.length - (intOf i).toNat)
  case atStart => exact ⟨0, Nat.zero_le _, rfl, Lib.hid (fun i y hi => absurd hi (by omega)), Lib.hid (Below.refl _ _)⟩
  case round =>
    obtain ⟨k, hk, rfl, hun, hB⟩ := hrel
    by_cases hlt : k < l.length
    · obtain ⟨⟨z0, z1, z2, z3⟩, hx⟩ : ∃ x, l[k]? = some x := ⟨_, List.getElem?_eq_getElem hlt⟩
      have HK := H.out
      obtain ⟨pb, o, rfl, -, -⟩ := HK.at_ hx
      obtain ⟨y0, y1, y2, y3⟩ := rwRack (HK.on hB.out (Nat.le_refl _)) hx
      have HXX := Lib.hid hx
      have hki : ((k : Nat) : Int).toNat = k := by omega
      have hlt' : (k : Int) < ((l.length : Nat) : Int) := by omega
      have HS1 := Lib.hid (HS.out.on hB.out (Nat.le_refl _))
      have HC := Lib.hid (fun (r : Bool) (hr : rkBad s.brks.length s.loops.length s.sw ⟨z0, z1, z2, z3⟩ = r) => c_badRack bs p s z0 z1 z2 z3 r hr wr HS1.out)
      clear hx HK
      rcases hp : rkBad s.brks.length s.loops.length s.sw ⟨z0, z1, z2, z3⟩ with _ | _
      · have HP := Lib.hid hp
        clear hp
        go_wp2_with (go_at_call 79; refine (HC.out _ HP.out).mono ?_; rintro e w1 ⟨rfl, b1⟩; have HB1 := Lib.hid (below_join hB.out b1 hB.out.size); clear b1 y0 y1 y2 y3)
        go_roundw
        case rel => exact ⟨k + 1, by omega, by go_num, Lib.hid (fun i y hi hy => by
          rcases Nat.lt_or_ge i k with h | h
          · exact hun.out i y h hy
          · obtain rfl : i = k := by omega
            have := HXX.out
            rw [hy] at this
            injection this with this
            subst this
            exact HP.out), HB1⟩
        case measure => simp only [intOf]; omega
      · have HKY := Lib.hid (show (k : Int) = y by rw [← HY.out]; exact (fidx_at _ l k _ hun.out HXX.out hp).symm)
        have HP := Lib.hid hp
        clear hp
        go_wp2_with (go_at_call 79; refine (HC.out _ HP.out).mono ?_; rintro e w1 ⟨rfl, b1⟩; have HB1 := Lib.hid (below_join hB.out b1 hB.out.size); clear b1 y0 y1 y2 y3)
        go_ret
        exact ⟨(show Ending.returned (.int .i64 (k : Int)) = .returned (.int .i64 y) by rw [HKY.out]), HB1.out⟩
    · obtain rfl : k = l.length := by omega
      have HKY := Lib.hid (show (-1 : Int) = y by rw [← HY.out, fidx_none _ l (fun i y hy => hun.out i y (List.getElem?_eq_some_iff.1 hy).1 hy)])
      go_wp2_with (fail)
      go_ret
      exact ⟨(show Ending.returned (.int .i64 (-1)) = .returned (.int .i64 y) by rw [HKY.out]), hB.out⟩
set_option maxHeartbeats 4000000 in
theorem c_CF_Rack (bs : Nat) (p : SP) (s : SiteD) (A : Option Addr) (c : Nat) (l : List Rk) (w : World) (hbox : SiBox w bs p s) (h : Rw 4 rkF w A c l) (r : Bool) (hr : l.any (rkBad s.brks.length s.loops.length s.sw) = r) :
    Calls Tryz.prog 116 #[.slice A l.length c, .func (.func 79) #[] #[.pointer (some ⟨bs, 0, none⟩)]] w fun e w' => e = .returned (.bool r) ∧ Below w.heap.size w w' := by
  obtain ⟨y, hy⟩ : ∃ y, fidx (rkBad s.brks.length s.loops.length s.sw) l = y := ⟨_, rfl⟩
  have HC := Lib.hid (c_IF_Rack bs p s A c l w hbox h y hy)
  have HR := Lib.hid (show decide (0 ≤ y) = r by rw [← hy, fidx_any, hr])
  clear hy hr h hbox
  go_enter Tryz.func116, Tryz.ntmps116
  go_wp2_with (go_at_call 146; refine HC.out.mono ?_; rintro e w1 ⟨rfl, b1⟩; have HB1 := Lib.hid b1; clear b1)
  go_ret
  exact ⟨(show Ending.returned (.bool (decide (0 ≤ y))) = .returned (.bool r) by rw [HR.out]), HB1.out⟩
set_option maxHeartbeats 4000000 in
theorem c_goodRack (bs : Nat) (p : SP) (s : SiteD) (lo hi : Int) (A : Option Addr) (c : Nat) (l : List Rk) (w : World) (hbox : SiBox w bs p s) (h : Rw 4 rkF w A c l) (r : Bool) (hr : goodB (rkBad s.brks.length s.loops.length s.sw) lo hi l = r) :
    Calls Tryz.prog 85 #[.slice A l.length c, .int .i64 lo, .int .i64 hi, .func (.func 79) #[] #[.pointer (some ⟨bs, 0, none⟩)]] w fun e w' => e = .returned (.bool r) ∧ Below w.heap.size w w' := by
  obtain ⟨W, hW⟩ : ∃ W, W = w.alloc (.cells #[.int .i64 (l.length : Int)] 3) := ⟨_, rfl⟩
  have B0 : Below w.heap.size w W := by subst hW; exact (Below.refl _ _).alloc (Nat.le_refl _) _
  have RW := Lib.hid (show Rw 1 inF W (some ⟨w.heap.size, 0, none⟩) 1 [(l.length : Int)] by subst hW; exact rw_lit [(l.length : Int)] (by simp [maxLen]) _)
  have HB0 := Lib.hid B0
  have H := Lib.hid h
  have hlc : (l.length : Int) ≤ 9223372036854775807 := by have h1 := h.1; have h2 := h.2.1; unfold maxLen at h2; omega
  have HS := Lib.hid hbox
  have HR := Lib.hid (show (areB lo hi [(l.length : Int)] && !l.any (rkBad s.brks.length s.loops.length s.sw)) = r from hr)
  clear hr h B0 hbox
  obtain ⟨r1, h1⟩ : ∃ b, areB lo hi [(l.length : Int)] = b := ⟨_, rfl⟩
  have Q1 := Lib.hid h1
  clear h1
  go_enter Tryz.func85, Tryz.ntmps85
  go_wp2_with (fail)
  rw [← hW]
  go_at_call 75
  refine (c_areFrom lo hi (some ⟨w.heap.size, 0, none⟩) 1 [(l.length : Int)] W RW.out r1 Q1.out).mono ?_
  rintro e w1 ⟨rfl, b1⟩
  have K1 := Lib.hid (below_join HB0.out b1 HB0.out.size)
  clear b1 hW
  cases r1
  · obtain rfl : false = r := by have h := HR.out; rw [Q1.out] at h; exact h
    go_wp2_with (fail)
    go_ret
    exact ⟨rfl, K1.out⟩
  · obtain ⟨r2, h2⟩ : ∃ b, l.any (rkBad s.brks.length s.loops.length s.sw) = b := ⟨_, rfl⟩
    have Q2 := Lib.hid h2
    obtain rfl : (!r2) = r := by have h := HR.out; rw [Q1.out, h2] at h; exact h
    clear h2
    go_wp2_with (fail)
    go_at_call 116
    refine (c_CF_Rack bs p s A c l w1 (HS.out.on K1.out (Nat.le_refl _)) (H.out.on K1.out (Nat.le_refl _)) r2 Q2.out).mono ?_
    rintro e w2 ⟨rfl, b2⟩
    have K2 := Lib.hid (below_join K1.out b2 K1.out.size)
    clear b2
    go_wp2_with (fail)
    go_ret
    exact ⟨rfl, K2.out⟩
end Go.Proofs.YtbbadnlaelgmlaaGreat

namespace Go.Proofs.YtbbadnlaelgmlaaGreat
open Go.RowKit
set_option maxRecDepth 100000
set_option linter.unusedVariables false
set_option linter.unusedSimpArgs false

set_option maxHeartbeats 8000000 in
theorem c_stValid (p : SP) (s : SiteD) (r : Bool) (hr : siteOk s = r) (w : World) (h : SiAt w p s) :
    Calls Tryz.prog 44 #[siV p s] w fun e w' => e = .returned (.bool r) ∧ Below w.heap.size w w' := by
  unfold siV
  obtain ⟨W, hW⟩ : ∃ W, W = w.alloc (.cells #[.slice p.a1 s.feeds.length p.c1, .slice p.a2 s.brks.length p.c2, .slice p.a3 s.loops.length p.c3, .slice p.a4 s.racks.length p.c4, .int .i64 s.sw, .slice p.a5 s.links.length p.c5, .slice p.a6 s.hosts.length p.c6] 29) := ⟨_, rfl⟩
  have B0 : Below w.heap.size w W := by subst hW; exact (Below.refl _ _).alloc (Nat.le_refl _) _
  have HB0 := Lib.hid B0
  have HX := Lib.hid (show SiBox W w.heap.size p s by subst hW; exact siBox_new _ _ _)
  have HA := Lib.hid (h.on B0 (Nat.le_refl _))
  have HR := Lib.hid (show (areB 1 8 [s.sw] && (goodB feedBad 1 4 s.feeds && (goodB (brkBad s.feeds.length) 1 8 s.brks && (goodB lpBad 1 4 s.loops && (goodB (rkBad s.brks.length s.loops.length s.sw) 1 8 s.racks && (goodB (lkBad s.sw) 0 16 s.links && (goodB (hsBad s.racks.length) 1 16 s.hosts))))))) = r from hr)
  have KW := Lib.hid (Below.refl W.heap.size W)
  clear B0 hr h
  have x0 := HX.out.c4
  rw [hW] at x0
  obtain ⟨V, hV⟩ : ∃ X, X = W.alloc (.cells #[.int .i64 s.sw] 3) := ⟨_, rfl⟩
  have bV : Below W.heap.size W V := by subst hV; exact (Below.refl _ _).alloc (Nat.le_refl _) _
  have RV := Lib.hid (show Rw 1 inF V (some ⟨w.heap.size + 1, 0, none⟩) 1 [s.sw] by subst hV; have h := rw_lit [s.sw] (by simp [maxLen]) W; rw [show W.heap.size = w.heap.size + 1 from by rw [hW, World.size_alloc]] at h; exact h)
  have HV := Lib.hid bV
  clear bV
  go_enter Tryz.func44, Tryz.ntmps44
  obtain ⟨r0, h0⟩ : ∃ b, areB 1 8 [s.sw] = b := ⟨_, rfl⟩
  have Q0 := Lib.hid h0
  clear h0
  go_wp2_with (fail)
  rw [← hW, ← hV]
  clear hW hV x0
  go_at_call 75
  refine (c_areFrom 1 8 (some ⟨w.heap.size + 1, 0, none⟩) 1 [s.sw] V RV.out r0 Q0.out).mono ?_
  rintro e w1 ⟨rfl, b1⟩
  have K1 := Lib.hid (below_join HV.out b1 HV.out.size)
  clear b1
  cases r0
  · obtain rfl : false = r := by have h := HR.out; rw [show (areB 1 8 [s.sw]) = false from Q0.out] at h; exact h
    go_wp2_with (fail)
    go_ret
    exact ⟨rfl, below_join HB0.out K1.out HB0.out.size⟩
  have x1 := (HX.out.on K1.out (Nat.le_refl _)).c0
  obtain ⟨r1, h1⟩ : ∃ b, goodB feedBad 1 4 s.feeds = b := ⟨_, rfl⟩
  have Q1 := Lib.hid h1
  clear h1
  go_wp2_with (fail)
  clear x1
  go_at_call 82
  refine (c_goodFeed 1 4 p.a1 p.c1 s.feeds w1 ((HA.out.on K1.out (Nat.le_refl _)).feeds) r1 Q1.out).mono ?_
  rintro e w2 ⟨rfl, b2⟩
  have K2 := Lib.hid (below_join K1.out b2 K1.out.size)
  clear b2
  cases r1
  · obtain rfl : false = r := by have h := HR.out; rw [show (areB 1 8 [s.sw]) = true from Q0.out, show (goodB feedBad 1 4 s.feeds) = false from Q1.out] at h; exact h
    go_wp2_with (fail)
    go_ret
    exact ⟨rfl, below_join HB0.out K2.out HB0.out.size⟩
  have x2 := (HX.out.on K2.out (Nat.le_refl _)).c1
  obtain ⟨r2, h2⟩ : ∃ b, goodB (brkBad s.feeds.length) 1 8 s.brks = b := ⟨_, rfl⟩
  have Q2 := Lib.hid h2
  clear h2
  go_wp2_with (fail)
  clear x2
  go_at_call 83
  refine (c_goodBreaker w.heap.size p s 1 8 p.a2 p.c2 s.brks w2 (HX.out.on K2.out (Nat.le_refl _)) ((HA.out.on K2.out (Nat.le_refl _)).brks) r2 Q2.out).mono ?_
  rintro e w3 ⟨rfl, b3⟩
  have K3 := Lib.hid (below_join K2.out b3 K2.out.size)
  clear b3
  cases r2
  · obtain rfl : false = r := by have h := HR.out; rw [show (areB 1 8 [s.sw]) = true from Q0.out, show (goodB feedBad 1 4 s.feeds) = true from Q1.out, show (goodB (brkBad s.feeds.length) 1 8 s.brks) = false from Q2.out] at h; exact h
    go_wp2_with (fail)
    go_ret
    exact ⟨rfl, below_join HB0.out K3.out HB0.out.size⟩
  have x3 := (HX.out.on K3.out (Nat.le_refl _)).c2
  obtain ⟨r3, h3⟩ : ∃ b, goodB lpBad 1 4 s.loops = b := ⟨_, rfl⟩
  have Q3 := Lib.hid h3
  clear h3
  go_wp2_with (fail)
  clear x3
  go_at_call 84
  refine (c_goodLoop 1 4 p.a3 p.c3 s.loops w3 ((HA.out.on K3.out (Nat.le_refl _)).loops) r3 Q3.out).mono ?_
  rintro e w4 ⟨rfl, b4⟩
  have K4 := Lib.hid (below_join K3.out b4 K3.out.size)
  clear b4
  cases r3
  · obtain rfl : false = r := by have h := HR.out; rw [show (areB 1 8 [s.sw]) = true from Q0.out, show (goodB feedBad 1 4 s.feeds) = true from Q1.out, show (goodB (brkBad s.feeds.length) 1 8 s.brks) = true from Q2.out, show (goodB lpBad 1 4 s.loops) = false from Q3.out] at h; exact h
    go_wp2_with (fail)
    go_ret
    exact ⟨rfl, below_join HB0.out K4.out HB0.out.size⟩
  have x4 := (HX.out.on K4.out (Nat.le_refl _)).c3
  obtain ⟨r4, h4⟩ : ∃ b, goodB (rkBad s.brks.length s.loops.length s.sw) 1 8 s.racks = b := ⟨_, rfl⟩
  have Q4 := Lib.hid h4
  clear h4
  go_wp2_with (fail)
  clear x4
  go_at_call 85
  refine (c_goodRack w.heap.size p s 1 8 p.a4 p.c4 s.racks w4 (HX.out.on K4.out (Nat.le_refl _)) ((HA.out.on K4.out (Nat.le_refl _)).racks) r4 Q4.out).mono ?_
  rintro e w5 ⟨rfl, b5⟩
  have K5 := Lib.hid (below_join K4.out b5 K4.out.size)
  clear b5
  cases r4
  · obtain rfl : false = r := by have h := HR.out; rw [show (areB 1 8 [s.sw]) = true from Q0.out, show (goodB feedBad 1 4 s.feeds) = true from Q1.out, show (goodB (brkBad s.feeds.length) 1 8 s.brks) = true from Q2.out, show (goodB lpBad 1 4 s.loops) = true from Q3.out, show (goodB (rkBad s.brks.length s.loops.length s.sw) 1 8 s.racks) = false from Q4.out] at h; exact h
    go_wp2_with (fail)
    go_ret
    exact ⟨rfl, below_join HB0.out K5.out HB0.out.size⟩
  have x5 := (HX.out.on K5.out (Nat.le_refl _)).c5
  obtain ⟨r5, h5⟩ : ∃ b, goodB (lkBad s.sw) 0 16 s.links = b := ⟨_, rfl⟩
  have Q5 := Lib.hid h5
  clear h5
  go_wp2_with (fail)
  clear x5
  go_at_call 86
  refine (c_goodLink w.heap.size p s 0 16 p.a5 p.c5 s.links w5 (HX.out.on K5.out (Nat.le_refl _)) ((HA.out.on K5.out (Nat.le_refl _)).links) r5 Q5.out).mono ?_
  rintro e w6 ⟨rfl, b6⟩
  have K6 := Lib.hid (below_join K5.out b6 K5.out.size)
  clear b6
  cases r5
  · obtain rfl : false = r := by have h := HR.out; rw [show (areB 1 8 [s.sw]) = true from Q0.out, show (goodB feedBad 1 4 s.feeds) = true from Q1.out, show (goodB (brkBad s.feeds.length) 1 8 s.brks) = true from Q2.out, show (goodB lpBad 1 4 s.loops) = true from Q3.out, show (goodB (rkBad s.brks.length s.loops.length s.sw) 1 8 s.racks) = true from Q4.out, show (goodB (lkBad s.sw) 0 16 s.links) = false from Q5.out] at h; exact h
    go_wp2_with (fail)
    go_ret
    exact ⟨rfl, below_join HB0.out K6.out HB0.out.size⟩
  have x6 := (HX.out.on K6.out (Nat.le_refl _)).c6
  obtain ⟨r6, h6⟩ : ∃ b, goodB (hsBad s.racks.length) 1 16 s.hosts = b := ⟨_, rfl⟩
  have Q6 := Lib.hid h6
  clear h6
  go_wp2_with (fail)
  clear x6
  go_at_call 87
  refine (c_goodHost w.heap.size p s 1 16 p.a6 p.c6 s.hosts w6 (HX.out.on K6.out (Nat.le_refl _)) ((HA.out.on K6.out (Nat.le_refl _)).hosts) r6 Q6.out).mono ?_
  rintro e w7 ⟨rfl, b7⟩
  have K7 := Lib.hid (below_join K6.out b7 K6.out.size)
  clear b7
  cases r6
  · obtain rfl : false = r := by have h := HR.out; rw [show (areB 1 8 [s.sw]) = true from Q0.out, show (goodB feedBad 1 4 s.feeds) = true from Q1.out, show (goodB (brkBad s.feeds.length) 1 8 s.brks) = true from Q2.out, show (goodB lpBad 1 4 s.loops) = true from Q3.out, show (goodB (rkBad s.brks.length s.loops.length s.sw) 1 8 s.racks) = true from Q4.out, show (goodB (lkBad s.sw) 0 16 s.links) = true from Q5.out, show (goodB (hsBad s.racks.length) 1 16 s.hosts) = false from Q6.out] at h; exact h
    go_wp2_with (fail)
    go_ret
    exact ⟨rfl, below_join HB0.out K7.out HB0.out.size⟩
  · obtain rfl : true = r := by have h := HR.out; rw [show (areB 1 8 [s.sw]) = true from Q0.out, show (goodB feedBad 1 4 s.feeds) = true from Q1.out, show (goodB (brkBad s.feeds.length) 1 8 s.brks) = true from Q2.out, show (goodB lpBad 1 4 s.loops) = true from Q3.out, show (goodB (rkBad s.brks.length s.loops.length s.sw) 1 8 s.racks) = true from Q4.out, show (goodB (lkBad s.sw) 0 16 s.links) = true from Q5.out, show (goodB (hsBad s.racks.length) 1 16 s.hosts) = true from Q6.out] at h; exact h
    go_wp2_with (fail)
    go_ret
    exact ⟨rfl, below_join HB0.out K7.out HB0.out.size⟩
end Go.Proofs.YtbbadnlaelgmlaaGreat
