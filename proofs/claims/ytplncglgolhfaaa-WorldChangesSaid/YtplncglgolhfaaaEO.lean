/-
  DERIVED. Cuts of replicas; worlds that a function has made; results of a world and an error (stage 13).
-/
import Derived.Test.YtplncglgolhfaaaEN
import Derived.Test.YtplncglgolhfaaaEL
namespace Go.Proofs.Ytplncglgolhfaaa
open Go.RowKit
set_option maxRecDepth 100000
set_option linter.unusedVariables false
set_option linter.unusedSimpArgs false

theorem first_run {A : Option Addr} {c P : Nat} {l : List Rep} {W0 : World} (h : Rv 2 repV W0 A c l) (hP : P ≤ l.length) : ∀ W' : World, (Instr.slice 34 (.slice A l.length c) none (some (.int .i64 (P : Int))) none).run Try.prog W' = .ok (.slice A P c) W' := by
  have hu := Try.underlying34
  obtain ⟨i0, hi0, hz0, hz1, hz2⟩ := info_parts rep_info
  have hlc := h.1
  have hm := h.2.1
  have hjc : (P : Int) ≤ (l.length : Int) := by omega
  have hPc : (P : Int) ≤ (c : Int) := by omega
  have hlc2 : (l.length : Int) ≤ (c : Int) := by omega
  unfold maxLen at hm
  intro W'
  cases A with
  | none =>
    obtain ⟨rfl, rfl⟩ := h.none_nil
    obtain rfl : P = 0 := by simpa using hP
    clear h
    go_simp
  | some ad =>
    obtain ⟨b, o, sp⟩ := ad
    clear h
    by_cases hc : c = 0
    · subst hc
      obtain rfl : P = 0 := by omega
      go_simp
    · go_simp
      (try (split <;> simp_all))
theorem rest_run {A : Option Addr} {c P : Nat} {l : List Rep} {W0 : World} (h : Rv 2 repV W0 A c l) (hP : P ≤ l.length) : ∃ A' c', (∀ W' : World, (Instr.slice 34 (.slice A l.length c) (some (.int .i64 (P : Int))) none none).run Try.prog W' = .ok (.slice A' (l.length - P) c') W') ∧
    ∀ X : World, Rv 2 repV X A c l → Rv 2 repV X A' c' (l.drop P) := by
  have hu := Try.underlying34
  obtain ⟨i0, hi0, hz0, hz1, hz2⟩ := info_parts rep_info
  have hlc := h.1
  have hm := h.2.1
  have hjc : (P : Int) ≤ (l.length : Int) := by omega
  have hPc : (P : Int) ≤ (c : Int) := by omega
  have hlc2 : (l.length : Int) ≤ (c : Int) := by omega
  unfold maxLen at hm
  cases A with
  | none =>
    obtain ⟨rfl, rfl⟩ := h.none_nil
    obtain rfl : P = 0 := by simpa using hP
    refine ⟨none, 0, fun W' => ?_, fun X hX => by simpa using hX⟩
    clear h
    go_simp
  | some ad =>
    by_cases hcP : c = P
    · have hl : l.length = P := by omega
      refine ⟨some ad, 0, fun W' => ?_, fun X hX => ?_⟩
      · rw [hl, hcP]
        clear h
        go_simp
      · rw [List.drop_eq_nil_of_le (by omega)]
        exact ⟨Nat.le_refl _, Nat.zero_le _, (by intro h; cases h), fun h => absurd h (Nat.lt_irrefl _)⟩
    · by_cases hP0 : P = 0
      · subst hP0
        refine ⟨some ad, c, fun W' => ?_, fun X hX => by simpa using hX⟩
        clear h
        go_simp
        (try simp [Addr.add])
      · obtain ⟨x, hx⟩ : ∃ x, l[0]? = some x := ⟨_, List.getElem?_eq_getElem (by omega)⟩
        obtain ⟨b, o, e, -⟩ := h.at_ hx
        injection e with e
        subst e
        refine ⟨some ⟨b, o + P * 2, none⟩, c - P, fun W' => ?_, fun X hX => hX.drop P hP⟩
        clear h
        go_simp
/-- A world whose lists a function has made itself. -/
def OwnW (base : Nat) (w : World) (p : WP) (d : WorldD) : Prop :=
  w.ownsRow base 51 2 (.slice p.a1 d.hosts.length p.c1) d.hosts.length (cellsV 2 hstV d.hosts) ∧ w.ownsRow base 41 2 (.slice p.a2 d.reps.length p.c2) d.reps.length (cellsV 2 repV d.reps)
theorem OwnW.wo {base : Nat} {w : World} {p : WP} {d : WorldD} (h : OwnW base w p d) (hp : ∀ x ∈ d.hosts, x.phase < 256) : WoAt w p d := by
  obtain ⟨A1, c1, e1, r1⟩ := own_rv h.1
  obtain ⟨A2, c2, e2, r2⟩ := own_rv h.2
  injection e1 with e1 _ e1'
  injection e2 with e2 _ e2'
  subst e1 e1' e2 e2'
  exact ⟨r1, r2, hp⟩
theorem OwnW.on {base B : Nat} {w w' : World} {p : WP} {d : WorldD} (h : OwnW base w p d) (hb : Below B w w') (hB : w.heap.size ≤ B) : OwnW base w' p d := ⟨own_on h.1 hb hB, own_on h.2 hb hB⟩
theorem OwnW.mono {base base' : Nat} {w : World} {p : WP} {d : WorldD} (h : OwnW base w p d) (hb : base' ≤ base) : OwnW base' w p d := ⟨own_mono h.1 hb, own_mono h.2 hb⟩
def zeroD : WorldD := ⟨[], []⟩
def zeroP : WP := ⟨none, 0, none, 0⟩
theorem ownW_zero (base : Nat) (w : World) : OwnW base w zeroP zeroD := ⟨World.ownsRow_nil _ _ _ _, World.ownsRow_nil _ _ _ _⟩
theorem own_block2 {w : World} {base g n : Nat} {T : TypeId} {xs : List Value} (hg : base ≤ g) (h : w.heap[g]? = some (.cells xs.toArray T (0, 0))) (hl : xs.length = n * 2) (hm : n ≤ maxLen) : w.ownsRow base T 2 (.slice (some ⟨g, 0, none⟩) n n) n xs :=
  ⟨hl, .inr ⟨g, n, xs.toArray, rfl, hg, h, Nat.le_refl _, hm, by simpa using hl, by rw [← hl]; simp⟩⟩
theorem row_store2 {W : World} {b : Nat} {y0 y1 : Value} {T : TypeId} (h : W.heap[b]? = some (.cells #[y0, y1] T (0, 0))) (x0 x1 : Value) :
    ((W.setCell ⟨b, 0, none⟩ x0).setCell ⟨b, 1, none⟩ x1).heap[b]? = some (.cells #[x0, x1] T (0, 0)) := set_field (set_field h x0) x1
theorem ret2t {fn : Func} {a : Act} {W : World} {R : Ending → World → Prop} {b i j : Nat} {x0 x1 y : Value} (hfn : fn.results = #[.cell i 36, .tmp j]) (hp : a.tmps[i]?.getD undef = .pointer (some ⟨b, 0, none⟩)) (hj : a.tmps[j]?.getD undef = y) (hd : a.defers = [])
    (h : W.heap[b]? = some (.cells #[x0, x1] 36 (0, 0))) (hR : R (.returned (.tuple #[.agg #[x0, x1], y])) W) : bodyPost Try.prog fn R .ret a W := by
  have c0 : W.cell? ⟨b, 0, none⟩ = some x0 := cell_of h rfl
  have c1 : W.cell? ⟨b, 1, none⟩ = some x1 := cell_of h rfl
  exact bodyPost_ret (v := .tuple #[.agg #[x0, x1], y]) (by simp [results, hfn, hp, hj, go_sem, c0, c1]) hd hR
/-- What Start, Stop and Set answer. -/
def startP (d : WorldD) (x : Rep) : WorldD × Int :=
  if (ascB d.reps && (!decide (x.svc < 0) && !decide (x.host < 0))) = true then
    if hasB d.reps x = true then (zeroD, 6) else if 24 ≤ d.reps.length then (zeroD, 9) else (⟨d.hosts, startL d.reps x⟩, 0)
  else (zeroD, 1)
def stopP (d : WorldD) (x : Rep) : WorldD × Int :=
  if ascB d.reps = true then if hasB d.reps x = true then (⟨d.hosts, stopL d.reps x⟩, 0) else (zeroD, 7) else (zeroD, 1)
def setP (d : WorldD) (host : Int) (h : Hst) : WorldD × Int :=
  if (ascB d.reps && ixB host d.hosts.length) = true then (⟨d.hosts.set host.toNat h, d.reps⟩, 0) else (zeroD, 1)
/-- A result: a world that is the function's own, and an error. -/
def ResW (w : World) (q : WorldD × Int) (e : Ending) (w' : World) : Prop :=
  ∃ p, e = .returned (.tuple #[.agg (woA p q.1), .int .i64 q.2]) ∧ OwnW w.heap.size w' p q.1 ∧ Below w.heap.size w w'
theorem resW_zero {w w' : World} {q : WorldD × Int} {n : Int} (hq : q = (zeroD, n)) (hb : Below w.heap.size w w') : ResW w q (.returned (.tuple #[.agg #[.slice none 0 0, .slice none 0 0], .int .i64 n])) w' := by
  subst hq
  exact ⟨zeroP, rfl, ownW_zero _ _, hb⟩
theorem Rv.plain {α : Type} {k : Nat} {F : α → Nat → Value} {w : World} {A : Option Addr} {c : Nat} {l : List α} (h : Rv k F w A c l) (hl : 0 < l.length) : ∀ ad, A = some ad → ad.spot = none := by
  intro ad e
  obtain ⟨b, o, e2, -⟩ := h.2.2.2 hl
  rw [e] at e2
  injection e2 with e2
  subst e2; rfl
end Go.Proofs.Ytplncglgolhfaaa
