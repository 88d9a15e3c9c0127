/-
  DERIVED. Sites in plain words, as the specification asks (stage 12; no program is named).
-/
import Derived.Test.YtplncglgolhfaaaAA
namespace Go.Proofs.Ytplncglgolhfaaa
set_option linter.unusedVariables false
set_option linter.unusedSimpArgs false

def inB (n lo hi : Int) : Bool := decide (lo ≤ n) && decide (n ≤ hi)
theorem inB_iff {n lo hi : Int} : inB n lo hi = true ↔ lo ≤ n ∧ n ≤ hi := by simp [inB]
def feedIn (x : Int) : Bool := inB x 0 1000000
def brkIn (nf : Int) (x : Brk) : Bool := inB x.feed 0 (nf - 1) && (inB x.limit 0 1000000 && (inB x.slow 0 1000000 && inB x.fast 0 1000000))
def lpIn (x : Lp) : Bool := inB x.carry 0 1000000 && inB x.delay 0 100
def rkIn (nb nl sw : Int) (x : Rk) : Bool := inB x.row 0 3 && (inB x.brk 0 (nb - 1) && (inB x.loop 0 (nl - 1) && inB x.sw 0 (sw - 1)))
def lkIn (sw : Int) (x : Lk) : Bool := inB x.a 0 (sw - 1) && (inB x.b 0 (sw - 1) && (!(x.a == x.b) && inB x.lat 1 1000000))
def hsIn (nr : Int) (x : Hs) : Bool := inB x.rack 0 (nr - 1) && (inB x.cores 1 1000 && (inB x.idle 0 10000 && inB x.per 0 1000))
def pwOk (s : SiteD) : Bool := inB s.feeds.length 1 4 && (inB s.brks.length 1 8 && (s.feeds.all feedIn && s.brks.all (brkIn s.feeds.length)))
def rmOk (s : SiteD) : Bool := inB s.loops.length 1 4 && (inB s.sw 1 8 && (inB s.racks.length 1 8 && (!decide (16 < (s.links.length : Int)) && (s.loops.all lpIn && (s.racks.all (rkIn s.brks.length s.loops.length s.sw) && s.links.all (lkIn s.sw))))))
def hoOk (s : SiteD) : Bool := inB s.hosts.length 1 16 && s.hosts.all (hsIn s.racks.length)
theorem ref_ok (s : SiteD) : (pwOk s && (rmOk s && hoOk s)) = siteOk s := by
  rw [Bool.eq_iff_iff, siteOk_iff]
  unfold pwOk rmOk hoOk
  simp only [Bool.and_eq_true, inB_iff, List.all_eq_true, feedIn, brkIn, lpIn, rkIn, lkIn, hsIn, Bool.not_eq_true', decide_eq_false_iff_not, beq_eq_false_iff_ne]
  constructor
  · rintro ⟨⟨h1, h2, h3, h4⟩, ⟨h5, h6, h7, h8, h9, h10, h11⟩, h12, h13⟩
    refine ⟨h6, by omega, h3, by omega, fun x hx => ?_, by omega, fun x hx => ?_, by omega, fun x hx => ?_, by omega, fun x hx => ?_, by omega, fun x hx => ?_⟩
    · have := h4 x hx; refine ⟨⟨?_, ?_⟩, ⟨?_, ?_⟩, ⟨?_, ?_⟩, ?_, ?_⟩ <;> omega
    · have := h9 x hx; refine ⟨⟨?_, ?_⟩, ?_, ?_⟩ <;> omega
    · have := h10 x hx; refine ⟨⟨?_, ?_⟩, ⟨?_, ?_⟩, ⟨?_, ?_⟩, ?_, ?_⟩ <;> omega
    · have := h11 x hx; refine ⟨⟨?_, ?_⟩, ⟨?_, ?_⟩, this.2.2.1, ?_, ?_⟩ <;> omega
    · have := h13 x hx; refine ⟨⟨?_, ?_⟩, ⟨?_, ?_⟩, ⟨?_, ?_⟩, ?_, ?_⟩ <;> omega
  · intro h
    have n1 := h.nfeeds; have n2 := h.nbrks; have n3 := h.nloops; have n4 := h.nracks; have n5 := h.nlinks; have n6 := h.nhosts
    refine ⟨⟨by omega, by omega, h.feeds, fun x hx => ?_⟩, ⟨by omega, h.sw, by omega, by omega, fun x hx => ?_, fun x hx => ?_, fun x hx => ?_⟩, by omega, fun x hx => ?_⟩
    · have := h.brks x hx; refine ⟨⟨?_, ?_⟩, ⟨?_, ?_⟩, ⟨?_, ?_⟩, ?_, ?_⟩ <;> omega
    · have := h.loops x hx; refine ⟨⟨?_, ?_⟩, ?_, ?_⟩ <;> omega
    · have := h.racks x hx; refine ⟨⟨?_, ?_⟩, ⟨?_, ?_⟩, ⟨?_, ?_⟩, ?_, ?_⟩ <;> omega
    · have := h.links x hx; refine ⟨⟨?_, ?_⟩, ⟨?_, ?_⟩, this.2.2.1, ?_, ?_⟩ <;> omega
    · have := h.hosts x hx; refine ⟨⟨?_, ?_⟩, ⟨?_, ?_⟩, ⟨?_, ?_⟩, ?_, ?_⟩ <;> omega
theorem all_take_succ {α : Type} {f : α → Bool} {l : List α} {k : Nat} {x : α} (h : l[k]? = some x) (h1 : (l.take k).all f = true) (h2 : f x = true) : (l.take (k + 1)).all f = true := by
  rw [List.take_add_one, h, List.all_append, h1]; simp [h2]
theorem all_false {α : Type} {f : α → Bool} {l : List α} {k : Nat} {x : α} (h : l[k]? = some x) (h2 : f x = false) : l.all f = false := by
  rw [List.all_eq_false]; exact ⟨x, List.mem_of_getElem? h, by rw [h2]; simp⟩
end Go.Proofs.Ytplncglgolhfaaa
