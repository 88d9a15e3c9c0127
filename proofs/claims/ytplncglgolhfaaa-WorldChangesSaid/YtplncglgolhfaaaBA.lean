/-
  DERIVED. Rows of numbers in memory; a site in memory (stage 12).
-/
import Derived.Test.YtplncglgolhfaaaAA
import Derived.Test.YtplncglgolhfaaaProg
import Derived.WalkKit
import Derived.ProofKit
import Derived.Below
import Derived.BigQuiet
import Derived.Laws.Rows
import Derived.Laws.OwnMore
import Derived.Lib.Hide
import Derived.Deep.QuietTactic
import Derived.Deep.DrawnRows
import Derived.Deep.AppendLies
import Derived.StillTailTactics
namespace Go.Proofs.Ytplncglgolhfaaa
open Go.RowKit
attribute [local go_sem] Oper.semAt_some
set_option maxRecDepth 100000
set_option linter.unusedVariables false
set_option linter.unusedSimpArgs false

theorem below_join {B C : Nat} {a w w' : World} (h : Below B a w) (k : Below C w w') (hc : B ≤ C) : Below B a w' := h.trans (k.mono hc)
theorem below_drewN {B n : Nat} {a w : World} (h : Below B a w) : Below B a (w.drewN n) := ⟨h.os, h.tape, h.output, h.size, h.block⟩
theorem at_lt {X : World} {b : Nat} {o : Obj} (h : X.heap[b]? = some o) : b < X.heap.size := (Array.getElem?_eq_some_iff.1 h).1
theorem heap_alloc_new (w : World) (o : Obj) : (w.alloc o).heap[w.heap.size]? = some o := by unfold World.alloc; simp
theorem cell_of {w : World} {b : Nat} {cs : Array Value} {t : TypeId} {o : Nat} {v : Value} (h : w.heap[b]? = some (.cells cs t (0, 0))) (hv : cs[o]? = some v) : w.cell? ⟨b, o, none⟩ = some v := by
  unfold World.cell?
  simp [h, hv]
/-- Rows of k numbers, as a slice's address and capacity. -/
def Rw {α : Type} (k : Nat) (F : α → Nat → Int) (w : World) (A : Option Addr) (c : Nat) (l : List α) : Prop :=
  l.length ≤ c ∧ c ≤ maxLen ∧ (0 < l.length → ∃ b o, A = some ⟨b, o, none⟩ ∧ b < w.heap.size ∧ ∀ (j : Nat) (x : α), l[j]? = some x → ∀ i, i < k → w.cell? ⟨b, o + j * k + i, none⟩ = some (.int .i64 (F x i)))
section
variable {α : Type} {k : Nat} {F : α → Nat → Int} {w w' : World} {A : Option Addr} {c : Nat} {l : List α}
theorem Rw.on {B : Nat} (h : Rw k F w A c l) (hb : Below B w w') (hB : w.heap.size ≤ B) : Rw k F w' A c l := by
  obtain ⟨h1, h2, h4⟩ := h
  refine ⟨h1, h2, fun h0 => ?_⟩
  obtain ⟨b, o, e, hlt, hc⟩ := h4 h0
  exact ⟨b, o, e, Nat.lt_of_lt_of_le hlt hb.size, fun j x hj i hi => (hb.cell (p := ⟨b, o + j * k + i, none⟩) (by show b < B; omega)).trans (hc j x hj i hi)⟩
theorem Rw.at_ (h : Rw k F w A c l) {j : Nat} {x : α} (hj : l[j]? = some x) : ∃ b o, A = some ⟨b, o, none⟩ ∧ b < w.heap.size ∧ ∀ i, i < k → w.cell? ⟨b, o + j * k + i, none⟩ = some (.int .i64 (F x i)) := by
  obtain ⟨h1, h2, h4⟩ := h
  obtain ⟨b, o, e, hlt, hc⟩ := h4 (by have := (List.getElem?_eq_some_iff.1 hj).1; omega)
  exact ⟨b, o, e, hlt, fun i hi => hc j x hj i hi⟩
theorem Rw.nil (w : World) (A : Option Addr) : Rw k F w A 0 ([] : List α) := ⟨Nat.le_refl _, Nat.zero_le _, fun h => absurd h (Nat.lt_irrefl _)⟩
end
def inF (x : Int) (_ : Nat) : Int := x
theorem rw_lit (l : List Int) (h : l.length ≤ maxLen) (w : World) : Rw 1 inF (w.alloc (.cells (l.map (fun x => Value.int .i64 x)).toArray 3)) (some ⟨w.heap.size, 0, none⟩) l.length l := by
  refine ⟨Nat.le_refl _, h, fun h0 => ⟨w.heap.size, 0, rfl, by rw [World.size_alloc]; omega, fun j x hj i hi => ?_⟩⟩
  refine cell_of (heap_alloc_new _ _) ?_
  obtain rfl : i = 0 := by omega
  simp [hj, inF]
/-- Where a site's lists lie. -/
structure SP where
  a1 : Option Addr
  c1 : Nat
  a2 : Option Addr
  c2 : Nat
  a3 : Option Addr
  c3 : Nat
  a4 : Option Addr
  c4 : Nat
  a5 : Option Addr
  c5 : Nat
  a6 : Option Addr
  c6 : Nat
def siV (p : SP) (s : SiteD) : Value := .agg #[.slice p.a1 s.feeds.length p.c1, .slice p.a2 s.brks.length p.c2, .slice p.a3 s.loops.length p.c3, .slice p.a4 s.racks.length p.c4, .int .i64 s.sw, .slice p.a5 s.links.length p.c5, .slice p.a6 s.hosts.length p.c6]
/-- A site's lists in memory. -/
structure SiAt (w : World) (p : SP) (s : SiteD) : Prop where
  feeds : Rw 1 inF w p.a1 p.c1 s.feeds
  brks : Rw 4 brkF w p.a2 p.c2 s.brks
  loops : Rw 2 lpF w p.a3 p.c3 s.loops
  racks : Rw 4 rkF w p.a4 p.c4 s.racks
  links : Rw 3 lkF w p.a5 p.c5 s.links
  hosts : Rw 4 hsF w p.a6 p.c6 s.hosts
theorem SiAt.on {w w' : World} {p : SP} {s : SiteD} {B : Nat} (h : SiAt w p s) (hb : Below B w w') (hB : w.heap.size ≤ B) : SiAt w' p s :=
  ⟨h.feeds.on hb hB, h.brks.on hb hB, h.loops.on hb hB, h.racks.on hb hB, h.links.on hb hB, h.hosts.on hb hB⟩
/-- A site's own block. -/
def SiBox (w : World) (b : Nat) (p : SP) (s : SiteD) : Prop :=
  w.heap[b]? = some (.cells #[.slice p.a1 s.feeds.length p.c1, .slice p.a2 s.brks.length p.c2, .slice p.a3 s.loops.length p.c3, .slice p.a4 s.racks.length p.c4, .int .i64 s.sw, .slice p.a5 s.links.length p.c5, .slice p.a6 s.hosts.length p.c6] 29 (0, 0))
theorem SiBox.on {w w' : World} {b : Nat} {p : SP} {s : SiteD} {B : Nat} (h : SiBox w b p s) (hb : Below B w w') (hB : w.heap.size ≤ B) : SiBox w' b p s :=
  (hb.block _ (Nat.lt_of_lt_of_le (at_lt h) hB)).trans h
theorem SiBox.lt {w : World} {b : Nat} {p : SP} {s : SiteD} (h : SiBox w b p s) : b < w.heap.size := at_lt h
section
variable {w : World} {b : Nat} {p : SP} {s : SiteD}
theorem SiBox.c0 (h : SiBox w b p s) : w.cell? ⟨b, 0, none⟩ = some (.slice p.a1 s.feeds.length p.c1) := cell_of h rfl
theorem SiBox.c1 (h : SiBox w b p s) : w.cell? ⟨b, 1, none⟩ = some (.slice p.a2 s.brks.length p.c2) := cell_of h rfl
theorem SiBox.c2 (h : SiBox w b p s) : w.cell? ⟨b, 2, none⟩ = some (.slice p.a3 s.loops.length p.c3) := cell_of h rfl
theorem SiBox.c3 (h : SiBox w b p s) : w.cell? ⟨b, 3, none⟩ = some (.slice p.a4 s.racks.length p.c4) := cell_of h rfl
theorem SiBox.c4 (h : SiBox w b p s) : w.cell? ⟨b, 4, none⟩ = some (.int .i64 s.sw) := cell_of h rfl
theorem SiBox.c5 (h : SiBox w b p s) : w.cell? ⟨b, 5, none⟩ = some (.slice p.a5 s.links.length p.c5) := cell_of h rfl
theorem SiBox.c6 (h : SiBox w b p s) : w.cell? ⟨b, 6, none⟩ = some (.slice p.a6 s.hosts.length p.c6) := cell_of h rfl
end
theorem siBox_new (w : World) (p : SP) (s : SiteD) : SiBox (w.alloc (.cells #[.slice p.a1 s.feeds.length p.c1, .slice p.a2 s.brks.length p.c2, .slice p.a3 s.loops.length p.c3, .slice p.a4 s.racks.length p.c4, .int .i64 s.sw, .slice p.a5 s.links.length p.c5, .slice p.a6 s.hosts.length p.c6] 29)) w.heap.size p s := heap_alloc_new _ _
end Go.Proofs.Ytplncglgolhfaaa
