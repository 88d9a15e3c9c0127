/-
  DERIVED. Sites in plain words: which are valid, and in which domains their hosts are (stage 12; no program is named).
-/
import Derived.ProofKit
namespace Go.Proofs.Ytplncglgolhfaaa
set_option linter.unusedVariables false
set_option linter.unusedSimpArgs false

structure Brk where
  feed : Int
  limit : Int
  slow : Int
  fast : Int
structure Lp where
  carry : Int
  delay : Int
structure Rk where
  row : Int
  brk : Int
  loop : Int
  sw : Int
structure Lk where
  a : Int
  b : Int
  lat : Int
structure Hs where
  rack : Int
  cores : Int
  idle : Int
  per : Int
structure SiteD where
  feeds : List Int
  brks : List Brk
  loops : List Lp
  racks : List Rk
  sw : Int
  links : List Lk
  hosts : List Hs
def brkF (x : Brk) : Nat → Int
  | 0 => x.feed
  | 1 => x.limit
  | 2 => x.slow
  | _ => x.fast
def lpF (x : Lp) : Nat → Int
  | 0 => x.carry
  | _ => x.delay
def rkF (x : Rk) : Nat → Int
  | 0 => x.row
  | 1 => x.brk
  | 2 => x.loop
  | _ => x.sw
def lkF (x : Lk) : Nat → Int
  | 0 => x.a
  | 1 => x.b
  | _ => x.lat
def hsF (x : Hs) : Nat → Int
  | 0 => x.rack
  | 1 => x.cores
  | 2 => x.idle
  | _ => x.per
/-- A number lies outside. -/
def outB (lo hi x : Int) : Bool := decide (x < lo) || decide (hi < x)
def ixB (x many : Int) : Bool := decide (0 ≤ x) && decide (x < many)
/-- All numbers are from lo to hi. -/
def areB (lo hi : Int) (l : List Int) : Bool := !l.any (outB lo hi)
def feedBad (x : Int) : Bool := !areB 0 1000000 [x]
def brkBad (nf : Int) (x : Brk) : Bool := !ixB x.feed nf || !areB 0 1000000 [x.limit, x.slow, x.fast]
def lpBad (x : Lp) : Bool := !areB 0 1000000 [x.carry] || !areB 0 100 [x.delay]
def rkBad (nb nl sw : Int) (x : Rk) : Bool := !ixB x.row 4 || (!ixB x.brk nb || (!ixB x.loop nl || !ixB x.sw sw))
def lkBad (sw : Int) (x : Lk) : Bool := !ixB x.a sw || (!ixB x.b sw || (x.a == x.b || !areB 1 1000000 [x.lat]))
def hsBad (nr : Int) (x : Hs) : Bool := !ixB x.rack nr || (!areB 1 1000 [x.cores] || (!areB 0 10000 [x.idle] || !areB 0 1000 [x.per]))
def goodB {α : Type} (bad : α → Bool) (lo hi : Int) (l : List α) : Bool := areB lo hi [(l.length : Int)] && !l.any bad
def siteOk (s : SiteD) : Bool :=
  areB 1 8 [s.sw] && (goodB feedBad 1 4 s.feeds && (goodB (brkBad s.feeds.length) 1 8 s.brks && (goodB lpBad 1 4 s.loops && (goodB (rkBad s.brks.length s.loops.length s.sw) 1 8 s.racks && (goodB (lkBad s.sw) 0 16 s.links && goodB (hsBad s.racks.length) 1 16 s.hosts)))))
theorem outB_iff {lo hi x : Int} : outB lo hi x = false ↔ lo ≤ x ∧ x ≤ hi := by simp [outB]
theorem ixB_iff {x m : Int} : ixB x m = true ↔ 0 ≤ x ∧ x < m := by simp [ixB]
theorem areB_iff {lo hi : Int} {l : List Int} : areB lo hi l = true ↔ ∀ x ∈ l, lo ≤ x ∧ x ≤ hi := by
  unfold areB
  rw [Bool.not_eq_true', List.any_eq_false]
  exact ⟨fun h x hx => outB_iff.1 (by have := h x hx; simpa using this), fun h x hx => by rw [outB_iff.2 (h x hx)]; simp⟩
theorem areB1 {lo hi x : Int} : areB lo hi [x] = true ↔ lo ≤ x ∧ x ≤ hi := by simp [areB_iff]
theorem goodB_iff {α : Type} {bad : α → Bool} {lo hi : Int} {l : List α} : goodB bad lo hi l = true ↔ (lo ≤ l.length ∧ (l.length : Int) ≤ hi) ∧ ∀ x ∈ l, bad x = false := by
  unfold goodB
  rw [Bool.and_eq_true, areB1, Bool.not_eq_true', List.any_eq_false]
  simp
theorem feedBad_iff {x : Int} : feedBad x = false ↔ 0 ≤ x ∧ x ≤ 1000000 := by
  unfold feedBad; rw [Bool.not_eq_false', areB1]
theorem brkBad_iff {nf : Int} {x : Brk} : brkBad nf x = false ↔ (0 ≤ x.feed ∧ x.feed < nf) ∧ (0 ≤ x.limit ∧ x.limit ≤ 1000000) ∧ (0 ≤ x.slow ∧ x.slow ≤ 1000000) ∧ 0 ≤ x.fast ∧ x.fast ≤ 1000000 := by
  unfold brkBad
  rw [Bool.or_eq_false_iff, Bool.not_eq_false', Bool.not_eq_false', ixB_iff, areB_iff]
  simp
theorem lpBad_iff {x : Lp} : lpBad x = false ↔ (0 ≤ x.carry ∧ x.carry ≤ 1000000) ∧ 0 ≤ x.delay ∧ x.delay ≤ 100 := by
  unfold lpBad
  rw [Bool.or_eq_false_iff, Bool.not_eq_false', Bool.not_eq_false', areB1, areB1]
theorem rkBad_iff {nb nl sw : Int} {x : Rk} : rkBad nb nl sw x = false ↔ (0 ≤ x.row ∧ x.row < 4) ∧ (0 ≤ x.brk ∧ x.brk < nb) ∧ (0 ≤ x.loop ∧ x.loop < nl) ∧ 0 ≤ x.sw ∧ x.sw < sw := by
  unfold rkBad
  simp only [Bool.or_eq_false_iff, Bool.not_eq_false', ixB_iff]
theorem lkBad_iff {sw : Int} {x : Lk} : lkBad sw x = false ↔ (0 ≤ x.a ∧ x.a < sw) ∧ (0 ≤ x.b ∧ x.b < sw) ∧ x.a ≠ x.b ∧ 1 ≤ x.lat ∧ x.lat ≤ 1000000 := by
  unfold lkBad
  simp only [Bool.or_eq_false_iff, Bool.not_eq_false', ixB_iff, areB1, beq_eq_false_iff_ne]
theorem hsBad_iff {nr : Int} {x : Hs} : hsBad nr x = false ↔ (0 ≤ x.rack ∧ x.rack < nr) ∧ (1 ≤ x.cores ∧ x.cores ≤ 1000) ∧ (0 ≤ x.idle ∧ x.idle ≤ 10000) ∧ 0 ≤ x.per ∧ x.per ≤ 1000 := by
  unfold hsBad
  simp only [Bool.or_eq_false_iff, Bool.not_eq_false', ixB_iff, areB1]
/-- What a valid site is. -/
structure SiteOk (s : SiteD) : Prop where
  sw : 1 ≤ s.sw ∧ s.sw ≤ 8
  nfeeds : 1 ≤ s.feeds.length ∧ s.feeds.length ≤ 4
  feeds : ∀ x ∈ s.feeds, 0 ≤ x ∧ x ≤ 1000000
  nbrks : 1 ≤ s.brks.length ∧ s.brks.length ≤ 8
  brks : ∀ x ∈ s.brks, (0 ≤ x.feed ∧ x.feed < s.feeds.length) ∧ (0 ≤ x.limit ∧ x.limit ≤ 1000000) ∧ (0 ≤ x.slow ∧ x.slow ≤ 1000000) ∧ 0 ≤ x.fast ∧ x.fast ≤ 1000000
  nloops : 1 ≤ s.loops.length ∧ s.loops.length ≤ 4
  loops : ∀ x ∈ s.loops, (0 ≤ x.carry ∧ x.carry ≤ 1000000) ∧ 0 ≤ x.delay ∧ x.delay ≤ 100
  nracks : 1 ≤ s.racks.length ∧ s.racks.length ≤ 8
  racks : ∀ x ∈ s.racks, (0 ≤ x.row ∧ x.row < 4) ∧ (0 ≤ x.brk ∧ x.brk < s.brks.length) ∧ (0 ≤ x.loop ∧ x.loop < s.loops.length) ∧ 0 ≤ x.sw ∧ x.sw < s.sw
  nlinks : s.links.length ≤ 16
  links : ∀ x ∈ s.links, (0 ≤ x.a ∧ x.a < s.sw) ∧ (0 ≤ x.b ∧ x.b < s.sw) ∧ x.a ≠ x.b ∧ 1 ≤ x.lat ∧ x.lat ≤ 1000000
  nhosts : 1 ≤ s.hosts.length ∧ s.hosts.length ≤ 16
  hosts : ∀ x ∈ s.hosts, (0 ≤ x.rack ∧ x.rack < s.racks.length) ∧ (1 ≤ x.cores ∧ x.cores ≤ 1000) ∧ (0 ≤ x.idle ∧ x.idle ≤ 10000) ∧ 0 ≤ x.per ∧ x.per ≤ 1000
theorem siteOk_iff {s : SiteD} : siteOk s = true ↔ SiteOk s := by
  unfold siteOk
  simp only [Bool.and_eq_true, areB1, goodB_iff]
  constructor
  · rintro ⟨h0, ⟨h1, h2⟩, ⟨h3, h4⟩, ⟨h5, h6⟩, ⟨h7, h8⟩, ⟨h9, h10⟩, h11, h12⟩
    exact ⟨h0, by omega, fun x hx => feedBad_iff.1 (h2 x hx), by omega, fun x hx => brkBad_iff.1 (h4 x hx), by omega, fun x hx => lpBad_iff.1 (h6 x hx), by omega, fun x hx => rkBad_iff.1 (h8 x hx), by omega, fun x hx => lkBad_iff.1 (h10 x hx), by omega, fun x hx => hsBad_iff.1 (h12 x hx)⟩
  · intro h
    exact ⟨h.sw, ⟨by have := h.nfeeds; omega, fun x hx => feedBad_iff.2 (h.feeds x hx)⟩, ⟨by have := h.nbrks; omega, fun x hx => brkBad_iff.2 (h.brks x hx)⟩, ⟨by have := h.nloops; omega, fun x hx => lpBad_iff.2 (h.loops x hx)⟩, ⟨by have := h.nracks; omega, fun x hx => rkBad_iff.2 (h.racks x hx)⟩, ⟨by have := h.nlinks; omega, fun x hx => lkBad_iff.2 (h.links x hx)⟩, by have := h.nhosts; omega, fun x hx => hsBad_iff.2 (h.hosts x hx)⟩
/-- How many domains of a kind a site has that is valid. -/
def cntOf (s : SiteD) : Nat → Int
  | 1 => s.hosts.length
  | 2 => s.racks.length
  | 3 => 4
  | 4 => s.feeds.length
  | 5 => s.loops.length
  | _ => 0
def cntD (s : SiteD) (d : Nat) : Int := if siteOk s = true then cntOf s d else 0
def rackAt (s : SiteD) (h : Nat) : Int := ((s.hosts[h]?).map (·.rack)).getD 0
def rkAt (s : SiteD) (h : Nat) : Rk := ((s.racks[(rackAt s h).toNat]?)).getD ⟨0, 0, 0, 0⟩
def feedAt (s : SiteD) (h : Nat) : Int := ((s.brks[(rkAt s h).brk.toNat]?).map (·.feed)).getD 0
/-- In which domain of a kind a host is. -/
def domAt (s : SiteD) (h : Nat) : Nat → Int
  | 1 => h
  | 2 => rackAt s h
  | 3 => (rkAt s h).row
  | 4 => feedAt s h
  | 5 => (rkAt s h).loop
  | _ => -1
def domD (s : SiteD) (d : Nat) (h : Int) : Int := if siteOk s = true ∧ (1 ≤ d ∧ d ≤ 5) ∧ ixB h s.hosts.length = true then domAt s h.toNat d else -1
/-- The hosts of a domain. -/
def memD (s : SiteD) (d : Nat) (n : Int) : List Int := if ixB n (cntD s d) = true then ((List.range s.hosts.length).filter (fun h => domAt s h d == n)).map (fun (h : Nat) => (h : Int)) else []
theorem rack_ok {s : SiteD} (h : SiteOk s) {k : Nat} (hk : k < s.hosts.length) : ∃ x, s.hosts[k]? = some x ∧ rackAt s k = x.rack ∧ 0 ≤ x.rack ∧ x.rack < s.racks.length := by
  have e : s.hosts[k]? = some s.hosts[k] := List.getElem?_eq_getElem hk
  refine ⟨_, e, by unfold rackAt; rw [e]; rfl, ?_⟩
  exact (h.hosts _ (List.getElem_mem hk)).1
theorem rk_ok {s : SiteD} (h : SiteOk s) {k : Nat} (hk : k < s.hosts.length) : ∃ m : Nat, rackAt s k = m ∧ m < s.racks.length ∧ s.racks[m]? = some (rkAt s k) ∧ rkAt s k ∈ s.racks := by
  obtain ⟨x, e, hr, h0, h1⟩ := rack_ok h hk
  obtain ⟨m, hm⟩ : ∃ m : Nat, x.rack = m := ⟨x.rack.toNat, by omega⟩
  rw [hm] at hr h1
  have hm1 : m < s.racks.length := by omega
  have e2 : s.racks[m]? = some s.racks[m] := List.getElem?_eq_getElem hm1
  have e3 : rkAt s k = s.racks[m] := by unfold rkAt; rw [hr]; simp [e2]
  exact ⟨m, hr, hm1, by rw [e2, e3], by rw [e3]; exact List.getElem_mem hm1⟩
theorem feed_ok {s : SiteD} (h : SiteOk s) {k : Nat} (hk : k < s.hosts.length) : ∃ (m : Nat) (x : Brk), (rkAt s k).brk = m ∧ m < s.brks.length ∧ s.brks[m]? = some x ∧ feedAt s k = x.feed ∧ 0 ≤ x.feed ∧ x.feed < s.feeds.length := by
  obtain ⟨-, -, -, -, hr⟩ := rk_ok h hk
  obtain ⟨-, ⟨h0, h1⟩, -⟩ := h.racks _ hr
  obtain ⟨m, hm⟩ : ∃ m : Nat, (rkAt s k).brk = m := ⟨(rkAt s k).brk.toNat, by omega⟩
  rw [hm] at h1
  have hm1 : m < s.brks.length := by omega
  have e2 : s.brks[m]? = some s.brks[m] := List.getElem?_eq_getElem hm1
  exact ⟨m, _, hm, hm1, e2, by unfold feedAt; rw [hm]; simp [e2], (h.brks _ (List.getElem_mem hm1)).1⟩
/-- A host's domain is one of the domains. -/
theorem dom_in {s : SiteD} (h : SiteOk s) {k : Nat} (hk : k < s.hosts.length) {d : Nat} (hd : 1 ≤ d ∧ d ≤ 5) : 0 ≤ domAt s k d ∧ domAt s k d < cntOf s d := by
  obtain ⟨x, -, hr, h0, h1⟩ := rack_ok h hk
  obtain ⟨m, hm, hm1, -, hrk⟩ := rk_ok h hk
  obtain ⟨-, y, -, -, -, hf, h2, h3⟩ := feed_ok h hk
  obtain ⟨h4, h5, h6, h7⟩ := h.racks _ hrk
  rcases (by omega : d = 1 ∨ d = 2 ∨ d = 3 ∨ d = 4 ∨ d = 5) with rfl | rfl | rfl | rfl | rfl
  · simp only [domAt, cntOf]; omega
  · simp only [domAt, cntOf]; omega
  · simp only [domAt, cntOf]; omega
  · simp only [domAt, cntOf]; omega
  · simp only [domAt, cntOf]; omega
end Go.Proofs.Ytplncglgolhfaaa
