/-
  DERIVED. Rows of k cells, services, wishes and worlds in memory (stage 13).
-/
import Derived.Test.YtplncglgolhfaaaDB
import Derived.Test.YtplncglgolhfaaaBE
import Derived.RegionTactic
import Derived.Deep.RegionHeld3
namespace Go.Proofs.Ytplncglgolhfaaa
open Go.RowKit
attribute [local go_sem] Oper.semAt_some
set_option maxRecDepth 100000
set_option linter.unusedVariables false
set_option linter.unusedSimpArgs false

theorem wrap_in {x : Int} (h : -9223372036854775808 ≤ x) (h2 : x ≤ 9223372036854775807) : IntKind.i64.wrap x = x := by
  unfold IntKind.wrap
  simp [IntKind.signed, IntKind.bits]
  omega
/-- Rows of k cells, as a slice's address and capacity. -/
def Rv {α : Type} (k : Nat) (F : α → Nat → Value) (w : World) (A : Option Addr) (c : Nat) (l : List α) : Prop :=
  l.length ≤ c ∧ c ≤ maxLen ∧ (A = none → c = 0) ∧ (0 < l.length → ∃ b o, A = some ⟨b, o, none⟩ ∧ b < w.heap.size ∧ ∀ (j : Nat) (x : α), l[j]? = some x → ∀ i, i < k → w.cell? ⟨b, o + j * k + i, none⟩ = some (F x i))
section
variable {α : Type} {k : Nat} {F : α → Nat → Value} {w w' : World} {A : Option Addr} {c : Nat} {l : List α}
theorem Rv.on {B : Nat} (h : Rv k F w A c l) (hb : Below B w w') (hB : w.heap.size ≤ B) : Rv k F w' A c l := by
  obtain ⟨h1, h2, h3, h4⟩ := h
  refine ⟨h1, h2, h3, fun h0 => ?_⟩
  obtain ⟨b, o, e, hlt, hc⟩ := h4 h0
  exact ⟨b, o, e, Nat.lt_of_lt_of_le hlt hb.size, fun j x hj i hi => (hb.cell (p := ⟨b, o + j * k + i, none⟩) (by show b < B; omega)).trans (hc j x hj i hi)⟩
theorem Rv.at_ (h : Rv k F w A c l) {j : Nat} {x : α} (hj : l[j]? = some x) : ∃ b o, A = some ⟨b, o, none⟩ ∧ b < w.heap.size ∧ ∀ i, i < k → w.cell? ⟨b, o + j * k + i, none⟩ = some (F x i) := by
  obtain ⟨h1, h2, -, h4⟩ := h
  obtain ⟨b, o, e, hlt, hc⟩ := h4 (by have := (List.getElem?_eq_some_iff.1 hj).1; omega)
  exact ⟨b, o, e, hlt, fun i hi => hc j x hj i hi⟩
theorem Rv.nil (w : World) : Rv k F w none 0 ([] : List α) := ⟨Nat.le_refl _, Nat.zero_le _, fun _ => rfl, fun h => absurd h (Nat.lt_irrefl _)⟩
theorem Rv.none_nil (h : Rv k F w none c l) : l = [] ∧ c = 0 := by
  have := h.2.2.1 rfl
  exact ⟨List.eq_nil_of_length_eq_zero (by have := h.1; omega), this⟩
theorem Rv.take (h : Rv k F w A c l) (m : Nat) (hm : m ≤ l.length) : Rv k F w A c (l.take m) := by
  obtain ⟨h1, h2, h3, h4⟩ := h
  have hl : (l.take m).length = m := by rw [List.length_take]; omega
  refine ⟨by omega, h2, h3, fun h0 => ?_⟩
  obtain ⟨b, o, e, hlt, hc⟩ := h4 (by omega)
  refine ⟨b, o, e, hlt, fun j x hj => hc j x ?_⟩
  rw [List.getElem?_take] at hj
  split at hj
  · exact hj
  · cases hj
theorem Rv.drop {b o : Nat} (h : Rv k F w (some ⟨b, o, none⟩) c l) (m : Nat) (hm : m ≤ l.length) : Rv k F w (some ⟨b, o + m * k, none⟩) (c - m) (l.drop m) := by
  obtain ⟨h1, h2, h3, h4⟩ := h
  refine ⟨by simp; omega, by omega, (by intro h; cases h), fun h0 => ?_⟩
  obtain ⟨b', o', e, hlt, hc⟩ := h4 (by simp at h0; omega)
  injection e with e
  injection e with e1 e2
  subst e1 e2
  refine ⟨b, o + m * k, rfl, hlt, fun j x hj i hi => ?_⟩
  rw [List.getElem?_drop] at hj
  have := hc (m + j) x hj i hi
  rwa [show o + (m + j) * k + i = o + m * k + j * k + i by rw [Nat.add_mul]; omega] at this
end
/-- Rows as cells. -/
def cellsV {α : Type} (k : Nat) (F : α → Nat → Value) (l : List α) : List Value := l.flatMap fun x => (List.range k).map fun i => F x i
section
variable {α : Type} {k : Nat} {F : α → Nat → Value}
theorem cellsV_at : ∀ {l : List α} {j : Nat} {x : α}, l[j]? = some x → ∀ i, i < k → (cellsV k F l)[j * k + i]? = some (F x i) := by
  intro l
  induction l with
  | nil => intro j x h; simp at h
  | cons y l ih =>
    intro j x h i hi
    have e : cellsV k F (y :: l) = ((List.range k).map fun i => F y i) ++ cellsV k F l := rfl
    rw [e]
    cases j with
    | zero =>
      simp at h
      subst h
      rw [Nat.zero_mul, Nat.zero_add, List.getElem?_append_left (by simp; omega)]
      simp [hi]
    | succ j =>
      rw [List.getElem?_append_right (by simp; rw [Nat.succ_mul]; omega)]
      have := ih (j := j) (x := x) (by simpa using h) i hi
      rw [show (j + 1) * k + i - (List.map (fun i => F y i) (List.range k)).length = j * k + i by simp [Nat.succ_mul]; omega]
      exact this
theorem cellsV_len (l : List α) : (cellsV k F l).length = l.length * k := by
  induction l with
  | nil => simp [cellsV]
  | cons y l ih =>
    have e : cellsV k F (y :: l) = ((List.range k).map fun i => F y i) ++ cellsV k F l := rfl
    rw [e, List.length_append, ih, List.length_cons, Nat.succ_mul]
    simp; omega
theorem cellsV_append (l m : List α) : cellsV k F (l ++ m) = cellsV k F l ++ cellsV k F m := by simp [cellsV]
theorem cellsV_one (h1 : ∀ x i, (F x i).oneCell' = true) (l : List α) : ∀ u ∈ cellsV k F l, u.oneCell' = true := by
  intro u hu
  obtain ⟨x, -, hx⟩ := List.mem_flatMap.1 hu
  obtain ⟨i, -, rfl⟩ := List.mem_map.1 hx
  exact h1 x i
/-- What lies in the cells behind a slice's address. -/
theorem Rv.cells {w : World} {A : Option Addr} {c : Nat} {l : List α} (h : Rv k F w A c l) (hk : 0 < k) : ∀ ad, A = some ad → ∀ j u, (cellsV k F l)[j]? = some u → w.cell? (ad.add j) = some u := by
  intro ad hA j u hj
  have hjl := (List.getElem?_eq_some_iff.1 hj).1
  rw [cellsV_len] at hjl
  have hq : j / k < l.length := Nat.div_lt_of_lt_mul (by rw [Nat.mul_comm]; exact hjl)
  obtain ⟨x, hx⟩ : ∃ x, l[j / k]? = some x := ⟨_, List.getElem?_eq_getElem hq⟩
  obtain ⟨b, o, e, -, hc⟩ := h.at_ hx
  rw [hA] at e
  injection e with e
  subst e
  have hr : j % k < k := Nat.mod_lt _ hk
  have hd : j / k * k + j % k = j := by rw [Nat.mul_comm]; exact Nat.div_add_mod j k
  have h1 := cellsV_at (F := F) hx (j % k) hr
  rw [hd, hj] at h1
  injection h1 with h1
  have h2 := hc (j % k) hr
  rw [show o + j / k * k + j % k = o + j by omega] at h2
  rw [h1]
  have e : (⟨b, o, none⟩ : Addr).add j = ⟨b, o + j, none⟩ := by unfold Addr.add; split <;> simp_all
  rw [e]; exact h2
/-- A block of rows is a list in memory. -/
theorem rv_block {l : List α} {w : World} {b : Nat} {T : TypeId} (h : w.heap[b]? = some (.cells (cellsV k F l).toArray T (0, 0))) (hl : l.length ≤ maxLen) : Rv k F w (some ⟨b, 0, none⟩) l.length l := by
  refine ⟨Nat.le_refl _, hl, (by intro h; cases h), fun _ => ⟨b, 0, rfl, at_lt h, fun j x hj i hi => ?_⟩⟩
  rw [Nat.zero_add]
  refine cell_of h ?_
  have := cellsV_at (F := F) hj i hi
  simpa using this
/-- A list that a walk has made is a list in memory. -/
theorem own_rv {w : World} {base : Nat} {T : TypeId} {v : Value} {l : List α} (h : w.ownsRow base T k v l.length (cellsV k F l)) : ∃ A c, v = .slice A l.length c ∧ Rv k F w A c l := by
  have hc := h
  obtain ⟨k1, ⟨e, e2⟩ | ⟨g, cap, cur, e, k3, k4, k5, k6, k7, k8⟩⟩ := h
  · subst e
    obtain rfl : l = [] := List.eq_nil_of_length_eq_zero e2
    exact ⟨none, 0, rfl, Rv.nil _⟩
  · subst e
    refine ⟨some ⟨g, 0, none⟩, cap, rfl, k5, k6, (by intro h; cases h), fun _ => ⟨g, 0, rfl, at_lt k4, fun j x hj i hi => ?_⟩⟩
    have h1 := cellsV_at (F := F) hj i hi
    have h2 := (List.getElem?_eq_some_iff.1 h1).1
    have := hc.cellAt (j * k + i) (by rwa [cellsV_len] at h2)
    rw [show 0 + j * k + i = j * k + i by omega, this, h1]
end
theorem rv_int {α : Type} {k : Nat} {G : α → Nat → Int} {w : World} {A : Option Addr} {c : Nat} {l : List α} (h : Rv k (fun x i => .int .i64 (G x i)) w A c l) : Rw k G w A c l := ⟨h.1, h.2.1, h.2.2.2⟩
def hstV (x : Hst) : Nat → Value
  | 0 => .int .u8 (x.phase : Int)
  | _ => .int .i64 x.fw
def repV (x : Rep) : Nat → Value
  | 0 => .int .i64 x.svc
  | _ => .int .i64 x.host
def nrV (x : Nr) : Nat → Value
  | 0 => .int .i64 x.svc
  | _ => .int .i64 x.lat
def inV (x : Int) (_ : Nat) : Value := .int .i64 x
/-- Where a service's lists lie. -/
structure SvA where
  a1 : Option Addr
  c1 : Nat
  a2 : Option Addr
  c2 : Nat
def svV (x : Svc × SvA) : Nat → Value
  | 0 => .int .i64 x.1.cores
  | 1 => .int .i64 x.1.reps
  | 2 => .int .i64 x.1.least
  | 3 => .int .u8 (x.1.dom : Int)
  | 4 => .int .i64 x.1.spread
  | 5 => .slice x.2.a1 x.1.apart.length x.2.c1
  | 6 => .slice x.2.a2 x.1.near.length x.2.c2
  | _ => .int .i64 x.1.fw
def svA (x : Svc × SvA) : Array Value := #[.int .i64 x.1.cores, .int .i64 x.1.reps, .int .i64 x.1.least, .int .u8 (x.1.dom : Int), .int .i64 x.1.spread, .slice x.2.a1 x.1.apart.length x.2.c1, .slice x.2.a2 x.1.near.length x.2.c2, .int .i64 x.1.fw]
/-- A service's lists. -/
structure SvAt (w : World) (x : Svc × SvA) : Prop where
  apart : Rv 1 inV w x.2.a1 x.2.c1 x.1.apart
  near : Rv 2 nrV w x.2.a2 x.2.c2 x.1.near
  dom : x.1.dom < 256
theorem SvAt.on {w w' : World} {x : Svc × SvA} {B : Nat} (h : SvAt w x) (hb : Below B w w') (hB : w.heap.size ≤ B) : SvAt w' x := ⟨h.apart.on hb hB, h.near.on hb hB, h.dom⟩
/-- A wish's services in memory. -/
structure WiAt (w : World) (A : Option Addr) (c : Nat) (xs : List (Svc × SvA)) : Prop where
  row : Rv 8 svV w A c xs
  each : ∀ x ∈ xs, SvAt w x
theorem WiAt.on {w w' : World} {A : Option Addr} {c : Nat} {xs : List (Svc × SvA)} {B : Nat} (h : WiAt w A c xs) (hb : Below B w w') (hB : w.heap.size ≤ B) : WiAt w' A c xs := ⟨h.row.on hb hB, fun x hx => (h.each x hx).on hb hB⟩
def svs (xs : List (Svc × SvA)) : List Svc := xs.map (·.1)
theorem svs_len (xs : List (Svc × SvA)) : (svs xs).length = xs.length := by simp [svs]
theorem svs_at {xs : List (Svc × SvA)} {i : Nat} {x : Svc × SvA} (h : xs[i]? = some x) : (svs xs)[i]? = some x.1 := by simp [svs, h]
/-- Where a world's lists lie. -/
structure WP where
  a1 : Option Addr
  c1 : Nat
  a2 : Option Addr
  c2 : Nat
def woA (p : WP) (d : WorldD) : Array Value := #[.slice p.a1 d.hosts.length p.c1, .slice p.a2 d.reps.length p.c2]
structure WoAt (w : World) (p : WP) (d : WorldD) : Prop where
  hosts : Rv 2 hstV w p.a1 p.c1 d.hosts
  reps : Rv 2 repV w p.a2 p.c2 d.reps
  phase : ∀ h ∈ d.hosts, h.phase < 256
theorem WoAt.on {w w' : World} {p : WP} {d : WorldD} {B : Nat} (h : WoAt w p d) (hb : Below B w w') (hB : w.heap.size ≤ B) : WoAt w' p d := ⟨h.hosts.on hb hB, h.reps.on hb hB, h.phase⟩
def WoBox (w : World) (b : Nat) (p : WP) (d : WorldD) : Prop := w.heap[b]? = some (.cells (woA p d) 36 (0, 0))
theorem WoBox.on {w w' : World} {b : Nat} {p : WP} {d : WorldD} {B : Nat} (h : WoBox w b p d) (hb : Below B w w') (hB : w.heap.size ≤ B) : WoBox w' b p d := (hb.block _ (Nat.lt_of_lt_of_le (at_lt h) hB)).trans h
theorem WoBox.c0 {w : World} {b : Nat} {p : WP} {d : WorldD} (h : WoBox w b p d) : w.cell? ⟨b, 0, none⟩ = some (.slice p.a1 d.hosts.length p.c1) := cell_of h rfl
theorem WoBox.c1 {w : World} {b : Nat} {p : WP} {d : WorldD} (h : WoBox w b p d) : w.cell? ⟨b, 1, none⟩ = some (.slice p.a2 d.reps.length p.c2) := cell_of h rfl
def WiBox (w : World) (b : Nat) (A : Option Addr) (n c : Nat) : Prop := w.heap[b]? = some (.cells #[.slice A n c] 32 (0, 0))
theorem WiBox.on {w w' : World} {b : Nat} {A : Option Addr} {n c B : Nat} (h : WiBox w b A n c) (hb : Below B w w') (hB : w.heap.size ≤ B) : WiBox w' b A n c := (hb.block _ (Nat.lt_of_lt_of_le (at_lt h) hB)).trans h
theorem WiBox.c0 {w : World} {b : Nat} {A : Option Addr} {n c : Nat} (h : WiBox w b A n c) : w.cell? ⟨b, 0, none⟩ = some (.slice A n c) := cell_of h rfl
theorem box_new (w : World) (cs : Array Value) (T : TypeId) : (w.alloc (.cells cs T)).heap[w.heap.size]? = some (.cells cs T (0, 0)) := heap_alloc_new _ _
theorem box_on {w w' : World} {b : Nat} {o : Obj} {B : Nat} (h : w.heap[b]? = some o) (hb : Below B w w') (hB : w.heap.size ≤ B) : w'.heap[b]? = some o := (hb.block _ (Nat.lt_of_lt_of_le (at_lt h) hB)).trans h
theorem old_heap {X : World} {b : Nat} {o : Obj} (o' : Obj) (h : X.heap[b]? = some o) : (X.alloc o').heap[b]? = some o := (Below.heap_alloc _ _ _ (at_lt h)).trans h
theorem set_else {W : World} {b k o : Nat} {v : Value} {ob : Obj} (h : W.heap[k]? = some ob) (hne : k ≠ b) : (W.setCell ⟨b, o, none⟩ v).heap[k]? = some ob := by
  rw [Below.heap_setCell _ ⟨b, o, none⟩ v k hne]; exact h
theorem rep_at {w : World} {b o c : Nat} {l : List Rep} (h : Rv 2 repV w (some ⟨b, o, none⟩) c l) {j : Nat} {x : Rep} (hj : l[j]? = some x) : w.cell? ⟨b, o + j * 2, none⟩ = some (.int .i64 x.svc) ∧ w.cell? ⟨b, o + j * 2 + 1, none⟩ = some (.int .i64 x.host) := by
  obtain ⟨b', o', e, -, h0⟩ := h.at_ hj
  injection e with e
  injection e with e1 e2
  subst e1 e2
  exact ⟨h0 0 (by omega), h0 1 (by omega)⟩
theorem hst_at {w : World} {b o c : Nat} {l : List Hst} (h : Rv 2 hstV w (some ⟨b, o, none⟩) c l) {j : Nat} {x : Hst} (hj : l[j]? = some x) : w.cell? ⟨b, o + j * 2, none⟩ = some (.int .u8 (x.phase : Int)) ∧ w.cell? ⟨b, o + j * 2 + 1, none⟩ = some (.int .i64 x.fw) := by
  obtain ⟨b', o', e, -, h0⟩ := h.at_ hj
  injection e with e
  injection e with e1 e2
  subst e1 e2
  exact ⟨h0 0 (by omega), h0 1 (by omega)⟩
theorem near_at {w : World} {b o c : Nat} {l : List Nr} (h : Rv 2 nrV w (some ⟨b, o, none⟩) c l) {j : Nat} {x : Nr} (hj : l[j]? = some x) : w.cell? ⟨b, o + j * 2, none⟩ = some (.int .i64 x.svc) ∧ w.cell? ⟨b, o + j * 2 + 1, none⟩ = some (.int .i64 x.lat) := by
  obtain ⟨b', o', e, -, h0⟩ := h.at_ hj
  injection e with e
  injection e with e1 e2
  subst e1 e2
  exact ⟨h0 0 (by omega), h0 1 (by omega)⟩
theorem int_at {w : World} {b o c : Nat} {l : List Int} (h : Rv 1 inV w (some ⟨b, o, none⟩) c l) {j : Nat} {x : Int} (hj : l[j]? = some x) : w.cell? ⟨b, o + j, none⟩ = some (.int .i64 x) := by
  obtain ⟨b', o', e, -, h0⟩ := h.at_ hj
  injection e with e
  injection e with e1 e2
  subst e1 e2
  have := h0 0 (by omega)
  rwa [Nat.mul_one, Nat.add_zero] at this
theorem sv_at {w : World} {b o c : Nat} {l : List (Svc × SvA)} (h : Rv 8 svV w (some ⟨b, o, none⟩) c l) {j : Nat} {x : Svc × SvA} (hj : l[j]? = some x) :
    w.cell? ⟨b, o + j * 8, none⟩ = some (.int .i64 x.1.cores) ∧ w.cell? ⟨b, o + j * 8 + 1, none⟩ = some (.int .i64 x.1.reps) ∧ w.cell? ⟨b, o + j * 8 + 2, none⟩ = some (.int .i64 x.1.least) ∧ w.cell? ⟨b, o + j * 8 + 3, none⟩ = some (.int .u8 (x.1.dom : Int)) ∧ w.cell? ⟨b, o + j * 8 + 4, none⟩ = some (.int .i64 x.1.spread) ∧ w.cell? ⟨b, o + j * 8 + 5, none⟩ = some (.slice x.2.a1 x.1.apart.length x.2.c1) ∧ w.cell? ⟨b, o + j * 8 + 6, none⟩ = some (.slice x.2.a2 x.1.near.length x.2.c2) ∧ w.cell? ⟨b, o + j * 8 + 7, none⟩ = some (.int .i64 x.1.fw) := by
  obtain ⟨b', o', e, -, h0⟩ := h.at_ hj
  injection e with e
  injection e with e1 e2
  subst e1 e2
  exact ⟨h0 0 (by omega), h0 1 (by omega), h0 2 (by omega), h0 3 (by omega), h0 4 (by omega), h0 5 (by omega), h0 6 (by omega), h0 7 (by omega)⟩
end Go.Proofs.Ytplncglgolhfaaa
