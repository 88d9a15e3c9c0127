/-
  DERIVED. Several texts in one.
-/
import Derived.Test.YtidpiokkfnhobaaPV53
import Derived.Test.YtidpiokkfnhobaaPV51
import Derived.Deep.QuietTactic
import Derived.Laws.AppendOwn
import Derived.Lib.SliceRun
import Derived.Deep.Onto
import Derived.Deep.LoopGhost
import Derived.BigQuiet
set_option linter.unusedVariables false
set_option linter.unusedSimpArgs false

namespace Go.Proofs.Ytidpiokkfnhobaa.v5
open Go.RowKit Go.Shelf
set_option maxRecDepth 100000
set_option linter.unusedSimpArgs false
set_option linter.unusedVariables false

/-- Arcs as cells. -/
def cellsA (l : List (Int × Int × Int)) : List Value := l.flatMap fun p => [.int .i64 p.1, .int .i64 p.2.1, .int .i64 p.2.2]
theorem cellsA_len (l : List (Int × Int × Int)) : (cellsA l).length = l.length * 3 := by
  induction l with
  | nil => rfl
  | cons q l ih => show (cellsA l).length + 1 + 1 + 1 = _; rw [ih, List.length_cons]; omega
theorem cellsA_get (l : List (Int × Int × Int)) : ∀ j p, l[j]? = some p → (cellsA l)[j * 3]? = some (.int .i64 p.1) ∧ (cellsA l)[j * 3 + 1]? = some (.int .i64 p.2.1) ∧ (cellsA l)[j * 3 + 2]? = some (.int .i64 p.2.2) := by
  induction l with
  | nil => intro j p h; simp at h
  | cons q l ih =>
    intro j p h
    cases j with
    | zero => simp at h; subst h; exact ⟨rfl, rfl, rfl⟩
    | succ j =>
      have := ih j p (by simpa using h)
      rw [show (j + 1) * 3 = j * 3 + 1 + 1 + 1 by omega]
      exact this
theorem cellsA_of {l : List (Int × Int × Int)} {j : Nat} {u : Value} (h : (cellsA l)[j]? = some u) : ∃ p, l[j / 3]? = some p ∧ ((j % 3 = 0 ∧ u = .int .i64 p.1) ∨ (j % 3 = 1 ∧ u = .int .i64 p.2.1) ∨ (j % 3 = 2 ∧ u = .int .i64 p.2.2)) := by
  have hj := (List.getElem?_eq_some_iff.1 h).1
  rw [cellsA_len] at hj
  obtain ⟨p, hp⟩ : ∃ p, l[j / 3]? = some p := ⟨_, List.getElem?_eq_getElem (by omega)⟩
  obtain ⟨c0, c1, c2⟩ := cellsA_get l _ p hp
  refine ⟨p, hp, ?_⟩
  have h3 : j % 3 = 0 ∨ j % 3 = 1 ∨ j % 3 = 2 := by omega
  rcases h3 with e | e | e
  · rw [show j / 3 * 3 = j by omega, h] at c0; injection c0 with c0; exact .inl ⟨e, c0⟩
  · rw [show j / 3 * 3 + 1 = j by omega, h] at c1; injection c1 with c1; exact .inr (.inl ⟨e, c1⟩)
  · rw [show j / 3 * 3 + 2 = j by omega, h] at c2; injection c2 with c2; exact .inr (.inr ⟨e, c2⟩)
theorem cellsA_one {l : List (Int × Int × Int)} : ∀ u ∈ cellsA l, u.oneCell' = true := by
  intro u hu
  unfold cellsA at hu
  rw [List.mem_flatMap] at hu
  obtain ⟨p, -, h⟩ := hu
  simp at h
  rcases h with rfl | rfl | rfl <;> rfl
theorem own_ptSl {w : World} {base : Nat} {v : Value} {l : List (Int × Int × Int)} (h : w.ownsRow base 57 3 v l.length (cellsA l)) : PtSl w v l := by
  have hc := h
  obtain ⟨k1, ⟨e, e2⟩ | ⟨g, cap, cur, e, k3, k4, k5, k6, k7, k8⟩⟩ := h
  · subst e
    obtain rfl : l = [] := List.eq_nil_of_length_eq_zero e2
    exact ⟨none, 0, rfl, Nat.le_refl _, Nat.zero_le _, fun h => absurd h (Nat.lt_irrefl _)⟩
  · subst e
    refine ⟨some ⟨g, 0, none⟩, cap, rfl, k5, k6, fun _ => ⟨g, 0, rfl, (Array.getElem?_eq_some_iff.1 k4).1, fun j x hj => ?_⟩⟩
    have hj' := (List.getElem?_eq_some_iff.1 hj).1
    obtain ⟨c1, c2, c3⟩ := cellsA_get l j x hj
    rw [Nat.zero_add]
    exact ⟨(hc.cellAt (j * 3) (by omega)).trans c1, (hc.cellAt (j * 3 + 1) (by omega)).trans c2, (hc.cellAt (j * 3 + 2) (by omega)).trans c3⟩
theorem own_set {X : World} {base : Nat} {e : TypeId} {size n g cap i : Nat} {xs : List Value} {v : Value} (h : X.ownsRow base e size (.slice (some ⟨g, 0, none⟩) n cap) n xs) :
    (X.setCell ⟨g, i, none⟩ v).ownsRow base e size (.slice (some ⟨g, 0, none⟩) n cap) n (xs.set i v) := by
  obtain ⟨k1, ⟨e0, -⟩ | ⟨g', cap', cur, e0, k3, k4, k5, k6, k7, k8⟩⟩ := h
  · cases e0
  · injection e0 with e1 _ e2
    injection e1 with e1
    injection e1 with e1
    subst e1 e2
    refine ⟨by rw [List.length_set]; exact k1, .inr ⟨g, cap, cur.setIfInBounds i v, rfl, k3, row_set3 k4 v, k5, k6, by rw [Array.size_setIfInBounds]; exact k7, ?_⟩⟩
    rw [Array.toList_setIfInBounds, List.take_set, k8]
theorem arc_info : (Try.prog.info? 57).map (fun i => (i.zero, i.size, i.bytes)) = some (some (.agg #[.int .i64 0, .int .i64 0, .int .i64 0]), 3, 24) := by kernel_rfl
end Go.Proofs.Ytidpiokkfnhobaa.v5

namespace Go.Proofs.Ytidpiokkfnhobaa.v5
open Go.RowKit Go.Shelf
set_option maxRecDepth 100000
set_option linter.unusedSimpArgs false
set_option linter.unusedVariables false

theorem Best.gr {N s t : Nat} {L : List (Int × Int × Int)} {lf : List Ar} {v : Int} (h : Best N s t L lf v) : Gr N (ends (arsOf L)) s t lf v := ⟨h.ends_, h.flow, h.value, h.no⟩
end Go.Proofs.Ytidpiokkfnhobaa.v5

namespace Go.Proofs.Ytidpiokkfnhobaa.v5
open Go.RowKit Go.Shelf
set_option maxRecDepth 100000
set_option linter.unusedSimpArgs false
set_option linter.unusedVariables false

/-- Edges by small numbers, as a slice. -/
def EdSl (w : World) (v : Value) (l : List (Nat × Nat × Nat)) : Prop :=
  ∃ A c, v = .slice A l.length c ∧ l.length ≤ c ∧ c ≤ maxLen ∧ (∀ p ∈ l, p.1 ≤ 255 ∧ p.2.1 ≤ 255 ∧ p.2.2 ≤ 255) ∧ (0 < l.length → ∃ b o, A = some ⟨b, o, none⟩ ∧ b < w.heap.size ∧ ∀ j p, l[j]? = some p → w.cell? ⟨b, o + j * 3, none⟩ = some (.int .u8 (p.1 : Int)) ∧ w.cell? ⟨b, o + j * 3 + 1, none⟩ = some (.int .u8 (p.2.1 : Int)) ∧ w.cell? ⟨b, o + j * 3 + 2, none⟩ = some (.int .u8 (p.2.2 : Int)))
theorem EdSl.shape {w : World} {v : Value} {l : List (Nat × Nat × Nat)} (h : EdSl w v l) : ∃ A c, v = .slice A l.length c ∧ l.length ≤ c ∧ c ≤ maxLen := by
  obtain ⟨A, c, h1, h2, h3, -⟩ := h
  exact ⟨A, c, h1, h2, h3⟩
theorem EdSl.at_ {w : World} {v : Value} {l : List (Nat × Nat × Nat)} (h : EdSl w v l) {k : Nat} {p : Nat × Nat × Nat} (hk : l[k]? = some p) : ∃ b o c, v = .slice (some ⟨b, o, none⟩) l.length c ∧ b < w.heap.size ∧ w.cell? ⟨b, o + k * 3, none⟩ = some (.int .u8 (p.1 : Int)) ∧ w.cell? ⟨b, o + k * 3 + 1, none⟩ = some (.int .u8 (p.2.1 : Int)) ∧ w.cell? ⟨b, o + k * 3 + 2, none⟩ = some (.int .u8 (p.2.2 : Int)) := by
  obtain ⟨A, c, h1, h2, h3, -, h4⟩ := h
  obtain ⟨b, o, e, hlt, hc⟩ := h4 (by have := (List.getElem?_eq_some_iff.1 hk).1; omega)
  subst e
  exact ⟨b, o, c, h1, hlt, hc k p hk⟩
theorem EdSl.on {w w' : World} {v : Value} {l : List (Nat × Nat × Nat)} {B : Nat} (h : EdSl w v l) (hb : Below B w w') (hB : w.heap.size ≤ B) : EdSl w' v l := by
  obtain ⟨A, c, h1, h2, h3, h5, h4⟩ := h
  refine ⟨A, c, h1, h2, h3, h5, fun h0 => ?_⟩
  obtain ⟨b, o, e, hlt, hc⟩ := h4 h0
  refine ⟨b, o, e, Nat.lt_of_lt_of_le hlt hb.size, fun j p hj => ?_⟩
  obtain ⟨c1, c2, c3⟩ := hc j p hj
  exact ⟨(hb.cell (p := ⟨b, o + j * 3, none⟩) (by show b < B; omega)).trans c1, (hb.cell (p := ⟨b, o + j * 3 + 1, none⟩) (by show b < B; omega)).trans c2, (hb.cell (p := ⟨b, o + j * 3 + 2, none⟩) (by show b < B; omega)).trans c3⟩
end Go.Proofs.Ytidpiokkfnhobaa.v5

namespace Go.Proofs.Ytidpiokkfnhobaa.v5
set_option linter.unusedSimpArgs false
set_option linter.unusedVariables false
open Go.RowKit Go.Shelf
set_option maxRecDepth 100000

theorem Best.cut {N s t : Nat} {l : List (Int × Int × Int)} {lf : List Ar} {v : Int} (h : Best N s t l lf v) (hs : s < N) :
    v = capS (arsOf l) (reachB lf s) ∧ reachB lf s s = true ∧ reachB lf s t = false ∧ (∀ S : Nat → Bool, S s = true → S t = false → v ≤ capS (arsOf l) S ∧ (capS (arsOf l) S = v → ∀ n, reachB lf s n = true → S n = true)) := by
  obtain ⟨h1, h2, h3⟩ := h.gr.cut hs
  refine ⟨by rw [← capS_ends h.ends_]; exact h1, (reachB_iff _ _ _).2 Reach.here, reachB_no h.no, fun S a b => ⟨by rw [← capS_ends h.ends_]; exact h2 S a b, fun e n hn => h3 S a b (by rw [capS_ends h.ends_]; exact e) n ((reachB_iff _ _ _).1 hn)⟩⟩
end Go.Proofs.Ytidpiokkfnhobaa.v5

namespace Go.Proofs.Ytidpiokkfnhobaa.v5
open Go.RowKit Go.Shelf
set_option maxRecDepth 100000
set_option linter.unusedSimpArgs false
set_option linter.unusedVariables false

/-- Small loads, as a slice. -/
def U8Sl (w : World) (v : Value) (l : List Nat) : Prop :=
  ∃ A c, v = .slice A l.length c ∧ l.length ≤ c ∧ c ≤ maxLen ∧ (A = none → c = 0) ∧ (∀ x ∈ l, x ≤ 255) ∧ (0 < l.length → ∃ b o, A = some ⟨b, o, none⟩ ∧ b < w.heap.size ∧ ∀ (j : Nat) (x : Nat), l[j]? = some x → w.cell? ⟨b, o + j, none⟩ = some (.int .u8 (x : Int)))
theorem U8Sl.at_ {w : World} {v : Value} {l : List Nat} (h : U8Sl w v l) {k : Nat} {x : Nat} (hk : l[k]? = some x) : ∃ b o c, v = .slice (some ⟨b, o, none⟩) l.length c ∧ b < w.heap.size ∧ x ≤ 255 ∧ w.cell? ⟨b, o + k, none⟩ = some (.int .u8 (x : Int)) := by
  obtain ⟨A, c, h1, h2, h3, -, h5, h4⟩ := h
  have hl := (List.getElem?_eq_some_iff.1 hk).1
  obtain ⟨b, o, rfl, hlt, hc⟩ := h4 (by omega)
  exact ⟨b, o, c, h1, hlt, h5 x (List.mem_of_getElem? hk), hc k x hk⟩
theorem U8Sl.shape {w : World} {v : Value} {l : List Nat} (h : U8Sl w v l) : ∃ A c, v = .slice A l.length c ∧ l.length ≤ c ∧ c ≤ maxLen := by
  obtain ⟨A, c, h1, h2, h3, -⟩ := h
  exact ⟨A, c, h1, h2, h3⟩
theorem U8Sl.on {w w' : World} {v : Value} {l : List Nat} {B : Nat} (h : U8Sl w v l) (hb : Below B w w') (hB : w.heap.size ≤ B) : U8Sl w' v l := by
  obtain ⟨A, c, h1, h2, h3, h5, h6, h4⟩ := h
  refine ⟨A, c, h1, h2, h3, h5, h6, fun h0 => ?_⟩
  obtain ⟨b, o, e, hlt, hc⟩ := h4 h0
  exact ⟨b, o, e, Nat.lt_of_lt_of_le hlt hb.size, fun j x hj => (hb.cell (p := ⟨b, o + j, none⟩) (by show b < B; omega)).trans (hc j x hj)⟩
end Go.Proofs.Ytidpiokkfnhobaa.v5

namespace Go.Proofs.Ytidpiokkfnhobaa.v5
set_option linter.unusedSimpArgs false
set_option linter.unusedVariables false

/-- A step: by which arc, from which node, whether against the arc, and whether it is there. -/
structure Stp where
  arc : Int
  src : Int
  back : Bool
  is : Bool
def stp0 : Stp := ⟨0, 0, false, false⟩
def mvOf (i : Nat) (b : Bool) : Nat := 2 * i + (if b = true then 1 else 0)
theorem mvOf_div (i : Nat) (b : Bool) : mvOf i b / 2 = i := by unfold mvOf; cases b <;> simp <;> omega
theorem mvOf_mod (i : Nat) (b : Bool) : mvOf i b % 2 = if b = true then 1 else 0 := by unfold mvOf; cases b <;> simp <;> omega
theorem mv_along {l : List Ar} {i : Nat} {a : Ar} (h : l[i]? = some a) : mvFrom l (mvOf i false) = some a.u ∧ mvTo l (mvOf i false) = some a.v ∧ mvRoom l (mvOf i false) = a.cap - a.x := by
  unfold mvFrom mvTo mvRoom
  rw [mvOf_div, mvOf_mod, h]
  simp
theorem mv_back {l : List Ar} {i : Nat} {a : Ar} (h : l[i]? = some a) : mvFrom l (mvOf i true) = some a.v ∧ mvTo l (mvOf i true) = some a.u ∧ mvRoom l (mvOf i true) = a.x := by
  unfold mvFrom mvTo mvRoom
  rw [mvOf_div, mvOf_mod, h]
  simp
theorem mv_cases {l : List Ar} {m p q : Nat} (h1 : mvFrom l m = some p) (h2 : mvTo l m = some q) : ∃ a, l[m / 2]? = some a ∧ ((m = mvOf (m / 2) false ∧ a.u = p ∧ a.v = q ∧ mvRoom l m = a.cap - a.x) ∨ (m = mvOf (m / 2) true ∧ a.v = p ∧ a.u = q ∧ mvRoom l m = a.x)) := by
  unfold mvFrom at h1
  unfold mvTo at h2
  unfold mvRoom
  rcases ha : l[m / 2]? with _ | a
  · rw [ha] at h1; cases h1
  · rw [ha] at h1 h2
    refine ⟨a, rfl, ?_⟩
    rcases Nat.mod_two_eq_zero_or_one m with e | e
    · simp [e] at h1 h2
      refine .inl ⟨?_, h1, h2, by simp [e]⟩
      show m = 2 * (m / 2) + (if false = true then 1 else 0)
      simp; omega
    · simp [e] at h1 h2
      refine .inr ⟨?_, h1, h2, by simp [e]⟩
      show m = 2 * (m / 2) + (if true = true then 1 else 0)
      simp; omega
/-- A search under way: the steps so far, and the nodes in the order in which they were reached. -/
structure Srch (l : List Ar) (s N : Nat) (B : List Stp) (seen : List Nat) : Prop where
  len : B.length = N
  nodup : seen.Nodup
  lt : ∀ v ∈ seen, v < N
  first : seen[0]? = some s
  is_ : ∀ v x, B[v]? = some x → (x.is = true ↔ v ∈ seen)
  step : ∀ k v, seen[k]? = some v → 0 < k → ∃ (i u j : Nat) (b : Bool), B[v]? = some ⟨(i : Int), (u : Int), b, true⟩ ∧ i < l.length ∧ mvFrom l (mvOf i b) = some u ∧ mvTo l (mvOf i b) = some v ∧ 0 < mvRoom l (mvOf i b) ∧ seen[j]? = some u ∧ j < k
section
variable {l : List Ar} {s N : Nat} {B : List Stp} {seen : List Nat}
theorem Srch.start (hs : s < N) : Srch l s N ((List.replicate N stp0).set s ⟨-1, (s : Int), false, true⟩) [s] := by
  refine ⟨by simp, by simp, fun v hv => ?_, rfl, fun v x hx => ?_, fun k v hk h0 => ?_⟩
  · rw [List.mem_singleton] at hv; omega
  · rw [List.getElem?_set] at hx
    rw [List.mem_singleton]
    by_cases e : s = v
    · subst e
      rw [if_pos rfl, if_pos (by simpa using hs)] at hx
      injection hx with hx
      subst hx
      simp
    · rw [if_neg e] at hx
      have hv : v < N := by have := (List.getElem?_eq_some_iff.1 hx).1; simpa using this
      rw [List.getElem?_replicate, if_pos hv] at hx
      injection hx with hx
      subst hx
      simp [stp0]
      exact fun e2 => e e2.symm
  · have := (List.getElem?_eq_some_iff.1 hk).1
    simp at this
    omega
theorem Srch.visit (h : Srch l s N B seen) {i u j q : Nat} {b : Bool} (hi : i < l.length) (hf : mvFrom l (mvOf i b) = some u) (ht : mvTo l (mvOf i b) = some q) (hr : 0 < mvRoom l (mvOf i b)) (hj : seen[j]? = some u) (hq : q ∉ seen) (hqN : q < N) :
    Srch l s N (B.set q ⟨(i : Int), (u : Int), b, true⟩) (seen ++ [q]) := by
  have hjl := (List.getElem?_eq_some_iff.1 hj).1
  refine ⟨by rw [List.length_set]; exact h.len, ?_, fun v hv => ?_, ?_, fun v x hx => ?_, fun k v hk h0 => ?_⟩
  · rw [List.nodup_append]
    refine ⟨h.nodup, by simp, fun a ha b hb => ?_⟩
    rw [List.mem_singleton] at hb
    subst hb
    exact fun e => hq (e ▸ ha)
  · rcases List.mem_append.1 hv with h1 | h1
    · exact h.lt v h1
    · rw [List.mem_singleton] at h1; omega
  · rw [List.getElem?_append_left (by omega)]; exact h.first
  · rw [List.getElem?_set] at hx
    rw [List.mem_append, List.mem_singleton]
    by_cases e : q = v
    · subst e
      rw [if_pos rfl, if_pos (by rw [h.len]; exact hqN)] at hx
      injection hx with hx
      subst hx
      simp
    · rw [if_neg e] at hx
      rw [h.is_ v x hx]
      exact ⟨Or.inl, fun h1 => h1.elim id fun h2 => absurd h2.symm e⟩
  · have hkl := (List.getElem?_eq_some_iff.1 hk).1
    rw [List.length_append, List.length_singleton] at hkl
    by_cases e : k < seen.length
    · rw [List.getElem?_append_left e] at hk
      obtain ⟨i', u', j', b', g1, g2, g3, g4, g5, g6, g7⟩ := h.step k v hk h0
      have hvq : v ≠ q := fun e => hq (e ▸ List.mem_of_getElem? hk)
      refine ⟨i', u', j', b', ?_, g2, g3, g4, g5, ?_, g7⟩
      · rw [List.getElem?_set, if_neg (fun e => hvq e.symm)]; exact g1
      · rw [List.getElem?_append_left (by omega)]; exact g6
    · obtain rfl : k = seen.length := by omega
      rw [List.getElem?_append_right (Nat.le_refl _), Nat.sub_self] at hk
      obtain rfl : q = v := by simpa using hk
      refine ⟨i, u, j, b, ?_, hi, hf, ht, hr, ?_, hjl⟩
      · rw [List.getElem?_set, if_pos rfl, if_pos (by rw [h.len]; exact hqN)]
      · rw [List.getElem?_append_left hjl]; exact hj
/-- All moves of the first p nodes have been looked at. -/
def Clo (l : List Ar) (seen : List Nat) (p : Nat) : Prop := ∀ j u, j < p → seen[j]? = some u → ∀ m q, mvFrom l m = some u → mvTo l m = some q → 0 < mvRoom l m → q ∈ seen
/-- The moves along the first i arcs from a node have been looked at. -/
def Par (l : List Ar) (seen : List Nat) (u i : Nat) : Prop := ∀ m q, m / 2 < i → mvFrom l m = some u → mvTo l m = some q → 0 < mvRoom l m → q ∈ seen
theorem Clo.next {p u : Nat} (h : Clo l seen p) (hu : seen[p]? = some u) (hp : Par l seen u l.length) : Clo l seen (p + 1) := fun j v hj hv m q h1 h2 h3 => by
  by_cases e : j < p
  · exact h j v e hv m q h1 h2 h3
  · obtain rfl : j = p := by omega
    rw [hu] at hv
    injection hv with hv
    subst hv
    obtain ⟨a, ha, -⟩ := mv_cases h1 h2
    exact hp m q (List.getElem?_eq_some_iff.1 ha).1 h1 h2 h3
theorem Par.zero (u : Nat) : Par l seen u 0 := fun m q h => absurd h (Nat.not_lt_zero _)
theorem Par.next {u i : Nat} {a : Ar} (h : Par l seen u i) (ha : l[i]? = some a) (h1 : a.u = u → a.x < a.cap → a.v ∈ seen) (h2 : a.v = u → 0 < a.x → a.u ∈ seen) : Par l seen u (i + 1) := fun m q h0 g1 g2 g3 => by
  by_cases e : m / 2 < i
  · exact h m q e g1 g2 g3
  · have e2 : m / 2 = i := by omega
    obtain ⟨b, hb, hc⟩ := mv_cases g1 g2
    rw [e2, ha] at hb
    injection hb with hb
    subst hb
    rcases hc with ⟨-, c1, c2, c3⟩ | ⟨-, c1, c2, c3⟩
    · rw [c3] at g3; rw [← c2]; exact h1 c1 (by omega)
    · rw [c3] at g3; rw [← c2]; exact h2 c1 g3
theorem Srch.reach (h : Srch l s N B seen) : ∀ (k v : Nat), seen[k]? = some v → Reach l s v := by
  intro k
  induction k using Nat.strongRecOn with
  | ind k ih =>
    intro v hv
    rcases Nat.eq_zero_or_pos k with rfl | h0
    · rw [h.first] at hv
      injection hv with hv
      subst hv
      exact Reach.here
    · obtain ⟨i, u, j, b, -, -, g3, g4, g5, g6, g7⟩ := h.step k v hv h0
      exact reach_move g3 g4 g5 (ih j g7 u g6)
/-- What has been reached when nothing waits any more. -/
theorem Srch.done (h : Srch l s N B seen) (hc : Clo l seen seen.length) (n : Nat) : Reach l s n ↔ n ∈ seen := by
  constructor
  · intro hn
    refine reach_in (S := fun n => n ∈ seen) ?_ (fun m p q h1 h2 h3 hp => ?_) hn
    · exact List.mem_of_getElem? h.first
    · obtain ⟨j, hj⟩ := List.getElem?_of_mem hp
      exact hc j p (List.getElem?_eq_some_iff.1 hj).1 hj m q h1 h2 h3
  · intro hn
    obtain ⟨j, hj⟩ := List.getElem?_of_mem hn
    exact h.reach j n hj
end
end Go.Proofs.Ytidpiokkfnhobaa.v5

namespace Go.Proofs.Ytidpiokkfnhobaa.v5
open Go.RowKit Go.Shelf
set_option maxRecDepth 100000
set_option linter.unusedSimpArgs false
set_option linter.unusedVariables false

/-- Steps as cells. -/
def cellsT (l : List Stp) : List Value := l.flatMap fun x => [.int .i64 x.arc, .int .i64 x.src, .bool x.back, .bool x.is]
theorem cellsT_cons (q : Stp) (l : List Stp) : cellsT (q :: l) = .int .i64 q.arc :: .int .i64 q.src :: .bool q.back :: .bool q.is :: cellsT l := rfl
theorem cellsT_get (l : List Stp) : ∀ j x, l[j]? = some x → (cellsT l)[j * 4]? = some (.int .i64 x.arc) ∧ (cellsT l)[j * 4 + 1]? = some (.int .i64 x.src) ∧ (cellsT l)[j * 4 + 2]? = some (.bool x.back) ∧ (cellsT l)[j * 4 + 3]? = some (.bool x.is) := by
  induction l with
  | nil => intro j p h; simp at h
  | cons q l ih =>
    intro j p h
    cases j with
    | zero => simp at h; subst h; exact ⟨rfl, rfl, rfl, rfl⟩
    | succ j =>
      have := ih j p (by simpa using h)
      rw [show (j + 1) * 4 = j * 4 + 1 + 1 + 1 + 1 by omega]
      exact this
theorem cellsT_set (l : List Stp) : ∀ (j : Nat) (x : Stp), cellsT (l.set j x) = ((((cellsT l).set (j * 4) (.int .i64 x.arc)).set (j * 4 + 1) (.int .i64 x.src)).set (j * 4 + 2) (.bool x.back)).set (j * 4 + 3) (.bool x.is) := by
  induction l with
  | nil => intro j x; simp [cellsT]
  | cons q l ih =>
    intro j x
    cases j with
    | zero => rfl
    | succ j =>
      have e : (q :: l).set (j + 1) x = q :: l.set j x := rfl
      rw [e, cellsT_cons, cellsT_cons, ih, show (j + 1) * 4 = j * 4 + 1 + 1 + 1 + 1 by omega]
      rfl
section
variable {X Y : World} {g : Nat} {B : List Stp}
end
end Go.Proofs.Ytidpiokkfnhobaa.v5

namespace Go.Proofs.Ytidpiokkfnhobaa.v5
open Go.RowKit Go.Shelf
set_option maxRecDepth 100000
set_option linter.unusedSimpArgs false
set_option linter.unusedVariables false

theorem ends_len0 (l : List Ar) : (ends l).length = l.length := by unfold ends; simp
/-- A search while the arcs of a node are looked at. -/
structure SrI (l : List Ar) (s N p u i : Nat) (B : List Stp) (seen : List Nat) : Prop where
  srch : Srch l s N B seen
  clo : Clo l seen p
  par : Par l seen u i
  at_ : seen[p]? = some u
section
variable {l : List Ar} {s N p u i : Nat} {B : List Stp} {seen : List Nat} {a : Ar}
theorem SrI.pl (h : SrI l s N p u i B seen) : p < seen.length := (List.getElem?_eq_some_iff.1 h.at_).1
theorem SrI.done (h : SrI l s N p u l.length B seen) : Srch l s N B seen ∧ Clo l seen (p + 1) ∧ p + 1 ≤ seen.length := ⟨h.srch, h.clo.next h.at_ h.par, h.pl⟩
end
/-- A net's arcs and what they carry: as numbers, and as flow. -/
theorem arc_is {N : Nat} {L : List (Int × Int × Int)} {l : List Ar} (hok : ntOk (N : Int) L = true) (he : ends l = ends (arsOf L)) {i : Nat} {p : Int × Int × Int} (hp : L[i]? = some p) : ∃ a, l[i]? = some a ∧ p = ((a.u : Int), (a.v : Int), a.cap) ∧ a.u < N ∧ a.v < N ∧ a.u ≠ a.v ∧ 0 ≤ a.cap ∧ a.cap ≤ 100000000 := by
  obtain ⟨g1, g2, g3, g4, g5⟩ := arOk_iff.1 ((ntOk_iff.1 hok).2.2.2 p (List.mem_of_getElem? hp))
  have h1 : (arsOf L)[i]? = some (arOf p) := by unfold arsOf; rw [List.getElem?_map, hp]; rfl
  obtain ⟨b, hb, e1, e2, e3⟩ := ends_get he.symm h1
  obtain ⟨x, y, c⟩ := p
  have e1' : b.u = x.toNat := e1
  have e2' : b.v = y.toNat := e2
  have e3' : b.cap = c := e3
  simp only at g1 g2 g3 g4 g5
  refine ⟨b, hb, ?_, by omega, by omega, by omega, by omega, by omega⟩
  rw [e1', e2', e3']
  congr 1
  · omega
  · congr 1; omega
end Go.Proofs.Ytidpiokkfnhobaa.v5

namespace Go.Proofs.Ytidpiokkfnhobaa.v5
set_option linter.unusedSimpArgs false
set_option linter.unusedVariables false

/-- The way back along the steps. -/
def PathTo (l : List Ar) (B : List Stp) (s : Nat) : Nat → List Nat → Prop
  | v, [] => v = s
  | v, m :: ms => v ≠ s ∧ ∃ (i u : Nat) (b : Bool), B[v]? = some ⟨(i : Int), (u : Int), b, true⟩ ∧ m = mvOf i b ∧ i < l.length ∧ mvFrom l m = some u ∧ 0 < mvRoom l m ∧ PathTo l B s u ms
section
variable {l : List Ar} {s N : Nat} {B : List Stp} {seen : List Nat}
end
theorem mvRoom_cases {l : List Ar} {i : Nat} {b : Bool} {a : Ar} (ha : l[i]? = some a) : mvRoom l (mvOf i b) = if b = true then a.x else a.cap - a.x := by
  cases b
  · rw [(mv_along ha).2.2]; simp
  · rw [(mv_back ha).2.2]; simp
end Go.Proofs.Ytidpiokkfnhobaa.v5

namespace Go.Proofs.Ytidpiokkfnhobaa.v5
open Go.RowKit Go.Shelf
set_option maxRecDepth 100000
set_option linter.unusedSimpArgs false
set_option linter.unusedVariables false

/-- Numbers in a block of their own. -/
def NumAt (w : World) (g : Nat) (l : List Int) : Prop := w.heap[g]? = some (.cells (ints l).toArray 3 (0, 0))
section
variable {X Y : World} {g : Nat} {l : List Int}
theorem NumAt.on {B : Nat} (h : NumAt X g l) (hb : Below B X Y) (hB : X.heap.size ≤ B) : NumAt Y g l := (hb.block _ (Nat.lt_of_lt_of_le (at_lt h) hB)).trans h
theorem NumAt.cell (h : NumAt X g l) {j : Nat} {x : Int} (hj : l[j]? = some x) : X.cell? ⟨g, j, none⟩ = some (.int .i64 x) := cell_of h (by simp [ints, hj])
theorem NumAt.frz (h : NumAt X g l) (o : Nat) : X.frozen? ⟨g, o, none⟩ = false := by simp [World.frozen?, show X.heap[g]? = _ from h]
theorem NumAt.set (h : NumAt X g l) (j : Nat) (x : Int) : NumAt (X.setCell ⟨g, j, none⟩ (.int .i64 x)) g (l.set j x) := by
  have := row_set3 (i := j) h (.int .i64 x)
  unfold NumAt
  rw [this]
  simp [ints, List.map_set]
end
/-- A flow under way. -/
structure GrI (N s t : Nat) (ar : List (Int × Int × Int)) (l : List Ar) (gk : Nat) : Prop where
  flow : IsFlow N l s t
  ends_ : ends l = ends (arsOf ar)
  rest : gain l s + (gk : Int) = 100000000 * (ar.length : Int)
theorem GrI.start {N s t : Nat} {ar : List (Int × Int × Int)} (hok : ntOk (N : Int) ar = true) : GrI N s t ar (arsOf ar) (100000000 * ar.length) := by
  have hn := arsOf_nodes (ntOk_iff.1 hok).2.2.2
  obtain ⟨h1, h2⟩ := IsFlow.none (N := N) (s := s) (t := t) (l := arsOf ar) (fun a ha => ⟨(hn a ha).1, (hn a ha).2.1⟩) (fun a ha => ⟨(hn a ha).2.2.2.2, (hn a ha).2.2.2.1⟩)
  exact ⟨h1, rfl, by rw [h2]; omega⟩
theorem GrI.next {N s t : Nat} {ar : List (Int × Int × Int)} {l : List Ar} {gk : Nat} {ms : List Nat} {d : Int} (h : GrI N s t ar l gk) (hok : ntOk (N : Int) ar = true) (hs : s < N) (hst : s ≠ t) (hd : 0 < d) (hc : Chain l s t ms) (hr : ∀ m ∈ ms, d ≤ mvRoom l m) (hn : (ms.map (· / 2)).Nodup) : GrI N s t ar (sends l ms d) (gk - d.toNat) ∧ gk - d.toNat < gk := by
  obtain ⟨h1, h2, h3⟩ := h.flow.along hst (by omega) hc hr hn
  have hn2 := arsOf_nodes (ntOk_iff.1 hok).2.2.2
  have he := h3.trans h.ends_
  have hll : (sends l ms d).length = ar.length := by
    have := congrArg List.length he
    rw [ends_len0, ends_len0, arsOf_len] at this
    exact this
  have hb := value_bound (M := 100000000) h1 hs hst (fun a ha => by
    obtain ⟨j, hj⟩ := List.getElem?_of_mem ha
    obtain ⟨b, hb, e1, e2, e3⟩ := ends_get he hj
    have := (hn2 b (List.mem_of_getElem? hb)).2.2.1
    omega) (by omega)
  rw [hll] at hb
  have hre := h.rest
  exact ⟨⟨h1, he, by rw [h2]; omega⟩, by omega⟩
/-- A step of the way back, as the walk wants it. -/
theorem GrI.step {N s t v : Nat} {ar : List (Int × Int × Int)} {l : List Ar} {gk m : Nat} {rest : List Nat} {B : List Stp} (h : GrI N s t ar l gk) (hok : ntOk (N : Int) ar = true) (hB : B.length = N) (hp : PathTo l B s v (m :: rest)) :
    v ≠ s ∧ v < N ∧ ∃ (i u : Nat) (b : Bool) (a : Ar) (p : Int × Int × Int), B[v]? = some ⟨(i : Int), (u : Int), b, true⟩ ∧ m = mvOf i b ∧ i < ar.length ∧ ar[i]? = some p ∧ l[i]? = some a ∧ p = ((a.u : Int), (a.v : Int), a.cap) ∧ 0 ≤ a.x ∧ a.x ≤ a.cap ∧ a.cap ≤ 100000000 ∧ 0 < mvRoom l m ∧ mvRoom l m = (if b = true then a.x else a.cap - a.x) ∧ PathTo l B s u rest := by
  obtain ⟨h0, i, u, b, h1, h2, h3, h4, h5, h6⟩ := hp
  have hll : l.length = ar.length := by
    have := congrArg List.length h.ends_
    rw [ends_len0, ends_len0, arsOf_len] at this
    exact this
  have hvN : v < N := by have := (List.getElem?_eq_some_iff.1 h1).1; omega
  have hi : i < ar.length := by omega
  obtain ⟨p, hpp⟩ : ∃ p, ar[i]? = some p := ⟨_, List.getElem?_eq_getElem hi⟩
  obtain ⟨a, ha, e, -, -, -, -, hc⟩ := arc_is hok h.ends_ hpp
  obtain ⟨x0, x1⟩ := h.flow.fits a (List.mem_of_getElem? ha)
  exact ⟨h0, hvN, i, u, b, a, p, h1, h2, hi, hpp, ha, e, x0, x1, hc, h5, by rw [h2]; exact mvRoom_cases ha, h6⟩
end Go.Proofs.Ytidpiokkfnhobaa.v5
