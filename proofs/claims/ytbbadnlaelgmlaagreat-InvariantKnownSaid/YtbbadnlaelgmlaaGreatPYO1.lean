/-
  DERIVED. Several texts in one.
-/
import Derived.Test.YtbbadnlaelgmlaaGreatPYB2
import Derived.Test.YtbbadnlaelgmlaaGreatPYN1
import Derived.Test.YtbbadnlaelgmlaaGreatPYA2
import Derived.Deep.RegionWith
import Derived.Test.YtbbadnlaelgmlaaGreatPYB3
set_option linter.unusedVariables false
set_option linter.unusedSimpArgs false

namespace Go.Proofs.YtbbadnlaelgmlaaGreat
set_option linter.unusedVariables false
set_option linter.unusedSimpArgs false
set_option maxRecDepth 100000

structure Bn where
  kind : Nat
  a : Int
  b : Int
  deriving DecidableEq
def svAt (ss : List Svc) (i : Nat) : Svc := (ss[i]?).getD ⟨0, 0, 0, 0, 0, [], [], 0⟩
theorem svAt_eq {ss : List Svc} {i : Nat} {x : Svc} (h : ss[i]? = some x) : svAt ss i = x := by unfold svAt; rw [h]; rfl
def fwAt (d : WorldD) (h : Int) : Int := ((d.hosts[h.toNat]?).map (·.fw)).getD 0
/-- What is broken of one kind: of each i one, or of each i some. -/
def bk1 (k : Nat) (f : Nat → Bool) (n : Nat) : List Bn := ((List.range n).filter f).map fun (i : Nat) => ⟨k, (i : Int), 0⟩
def bk2 (k : Nat) (f : Nat → List Int) (n : Nat) : List Bn := (List.range n).flatMap fun i => (f i).map fun x => ⟨k, (i : Int), x⟩
def bk0 (k i : Nat) (b : Bool) : List Bn := if b = true then [⟨k, (i : Int), 0⟩] else []
theorem bk1_zero (k : Nat) (f : Nat → Bool) : bk1 k f 0 = [] := rfl
theorem bk2_zero (k : Nat) (f : Nat → List Int) : bk2 k f 0 = [] := rfl
theorem bk1_succ (k : Nat) (f : Nat → Bool) (n : Nat) : bk1 k f (n + 1) = bk1 k f n ++ bk0 k n (f n) := by
  unfold bk1 bk0
  rw [List.range_succ, List.filter_append, List.map_append]
  congr 1
  rcases h : f n with _ | _ <;> simp [h]
theorem bk2_succ (k : Nat) (f : Nat → List Int) (n : Nat) : bk2 k f (n + 1) = bk2 k f n ++ (f n).map fun x => ⟨k, (n : Int), x⟩ := by
  unfold bk2
  rw [List.range_succ, List.flatMap_append]
  simp
theorem bk1_len (k : Nat) (f : Nat → Bool) (n : Nat) : (bk1 k f n).length ≤ n := by
  unfold bk1
  rw [List.length_map]
  exact Nat.le_trans (List.length_filter_le _ _) (by simp)
theorem bk2_len (k m : Nat) (f : Nat → List Int) : ∀ n : Nat, (∀ i, i < n → (f i).length ≤ m) → (bk2 k f n).length ≤ n * m
  | 0, _ => by simp [bk2_zero]
  | n + 1, h => by
    rw [bk2_succ, List.length_append, List.length_map, Nat.succ_mul]
    have := bk2_len k m f n (fun i hi => h i (by omega))
    have := h n (by omega)
    omega
section
variable (s : SiteD) (ss : List Svc) (d : WorldD)
def bnCor (h : Nat) : Bool := decide ((hsAt s h).cores < usedD ss d.reps (h : Int))
def isOn (l : List Rep) (h : Int) : Bool := l.any fun r => r.host == h
def bnPha (h : Nat) : Bool := (decide (2 ≤ phAt d h) && decide (phAt d h ≤ 4)) && isOn d.reps (h : Int)
def bnLea (i : Nat) : Bool := decide ((((whereD d.reps (i : Int)).length : Nat) : Int) < (svAt ss i).least)
/-- How many of some hosts are in a domain. -/
def inDm (k : Nat) (l : List Int) (n : Nat) : Nat := (l.filter fun h => domD s k h == (n : Int)).length
def sprL (x : Svc) (l : List Int) (n : Nat) : List Int := ((List.range n).filter fun k => decide (x.spread < ((inDm s x.dom l k : Nat) : Int))).map fun (k : Nat) => (k : Int)
def bnSpr (i : Nat) : List Int := sprL s (svAt ss i) (whereD d.reps (i : Int)) (cntD s (svAt ss i).dom).toNat
def shrB (l : List Int) (o : Int) : Bool := l.any fun h => hasB d.reps ⟨o, h⟩
def bnApt (i : Nat) : List Int := (svAt ss i).apart.filter (shrB d (whereD d.reps (i : Int)))
noncomputable def nerB (x : Nr) (h : Int) : Bool := (nats (witI s h x.lat)).any fun k => hasB d.reps ⟨x.svc, k⟩
noncomputable def lonB (l : List Int) (x : Nr) : Bool := l.any fun h => !nerB s d x h
noncomputable def bnNea (i : Nat) : List Int := ((svAt ss i).near.filter (lonB s d (whereD d.reps (i : Int)))).map (·.svc)
def bnFrm (i : Nat) : List Int := (whereD d.reps (i : Int)).filter fun h => decide (fwAt d h < (svAt ss i).fw)
def bnBrk (i : Nat) : Bool := decide (((s.brks[i]?).map (·.limit)).getD 0 < loadN s ss d (isBrk s (i : Int)))
def bnFed (i : Nat) : Bool := decide ((s.feeds[i]?).getD 0 < loadN s ss d (isFeed s (i : Int)))
def bnLop (i : Nat) : Bool := decide (((s.loops[i]?).map (·.carry)).getD 0 < loadN s ss d (isLoop s (i : Int)))
noncomputable def bnK : Nat → List Bn
  | 1 => bk1 1 (bnCor s ss d) s.hosts.length
  | 2 => bk1 2 (bnPha d) s.hosts.length
  | 3 => bk1 3 (bnLea ss d) ss.length
  | 4 => bk2 4 (bnSpr s ss d) ss.length
  | 5 => bk2 5 (bnApt ss d) ss.length
  | 6 => bk2 6 (bnNea s ss d) ss.length
  | 7 => bk2 7 (bnFrm ss d) ss.length
  | 8 => bk1 8 (bnBrk s ss d) s.brks.length
  | 9 => bk1 9 (bnFed s ss d) s.feeds.length
  | 10 => bk1 10 (bnLop s ss d) s.loops.length
  | _ => []
/-- What is broken of the first kinds. -/
noncomputable def bnTo (n : Nat) : List Bn := (List.range n).flatMap fun i => bnK s ss d (i + 1)
/-- All that is broken; nothing where the world is not valid. -/
noncomputable def bnV (r : Bool) : List Bn := if r = true then bnTo s ss d 10 else []
end
theorem bnTo_succ (s : SiteD) (ss : List Svc) (d : WorldD) (n : Nat) : bnTo s ss d (n + 1) = bnTo s ss d n ++ bnK s ss d (n + 1) := by
  unfold bnTo
  rw [List.range_succ, List.flatMap_append]
  simp
/-- Kept: the first of the later ones that is not among those before. -/
def newB (l : List Bn) (x : Bn) : Bool := !decide (x ∈ l)
def keptO (l m : List Bn) : Option Bn := m.find? (newB l)
def keptX (l m : List Bn) : Bn := (keptO l m).getD ⟨0, 0, 0⟩
def keptB (l m : List Bn) : Bool := (keptO l m).isNone
theorem newB_iff {l : List Bn} {x : Bn} : newB l x = true ↔ x ∉ l := by simp [newB]
theorem keptB_iff {l m : List Bn} : keptB l m = true ↔ ∀ x ∈ m, x ∈ l := by
  unfold keptB keptO
  rw [Option.isNone_iff_eq_none, List.find?_eq_none]
  constructor
  · intro h x hx
    have := h x hx
    rw [newB_iff] at this
    exact Decidable.not_not.1 this
  · intro h x hx
    rw [newB_iff]
    exact fun k => k (h x hx)
theorem keptX_none {l m : List Bn} (h : keptB l m = true) : keptX l m = ⟨0, 0, 0⟩ := by
  unfold keptB at h
  unfold keptX
  rw [Option.isNone_iff_eq_none.1 h]; rfl
theorem find_at {p : Bn → Bool} {m : List Bn} {k : Nat} {x : Bn} (h0 : ∀ y ∈ m.take k, p y = false) (hx : m[k]? = some x) (hp : p x = true) : m.find? p = some x := by
  induction m generalizing k with
  | nil => simp at hx
  | cons y m ih =>
    cases k with
    | zero =>
      simp at hx; subst hx
      rw [List.find?_cons_of_pos hp]
    | succ k =>
      have hy := h0 y (by simp)
      rw [List.find?_cons_of_neg (by rw [hy]; simp)]
      exact ih (fun z hz => h0 z (by rw [List.take_succ_cons]; exact List.mem_cons_of_mem _ hz)) (by simpa using hx)
end Go.Proofs.YtbbadnlaelgmlaaGreat

namespace Go.Proofs.YtbbadnlaelgmlaaGreat
open Go.RowKit
set_option maxRecDepth 100000
set_option linter.unusedVariables false
set_option linter.unusedSimpArgs false

theorem frz0 {X : World} {b : Nat} {cs : Array Value} {T : TypeId} (h : X.heap[b]? = some (.cells cs T (0, 0))) (o : Nat) : X.frozen? ⟨b, o, none⟩ = false := by
  simp [World.frozen?, h]
theorem set_one {X : World} {b : Nat} {v u : Value} {T : TypeId} (h : X.heap[b]? = some (.cells #[v] T (0, 0))) : (X.setCell ⟨b, 0, none⟩ u).heap[b]? = some (.cells #[u] T (0, 0)) := by
  simp [World.setCell, Array.getElem?_modify, h]
theorem own_set {X : World} {base : Nat} {e : TypeId} {size n cap g4 g o : Nat} {u : Value} {xs : List Value} (h : X.ownsRow base e size (.slice (some ⟨g4, 0, none⟩) n cap) n xs) (hne : g4 ≠ g) : (X.setCell ⟨g, o, none⟩ u).ownsRow base e size (.slice (some ⟨g4, 0, none⟩) n cap) n xs := by
  obtain ⟨k1, ⟨h2, -⟩ | ⟨g', cap', cur, e2, k3, k4, k⟩⟩ := h
  · cases h2
  · have e3 : g' = g4 := by injection e2 with e2 _ _; injection e2 with e2; injection e2 with e2 _ _; exact e2.symm
    subst e3
    exact ⟨k1, .inr ⟨g', cap', cur, e2, k3, by rw [Below.heap_setCell _ ⟨g, o, none⟩ _ g' hne]; exact k4, k⟩⟩
theorem bn_info : (Tryz.prog.info? 44).map (fun i => (i.zero, i.size, i.bytes)) = some (some (.agg #[.int .u8 0, .int .i64 0, .int .i64 0]), 3, 24) := by kernel_rfl
def bnF (x : Bn) : Nat → Value
  | 0 => .int .u8 (x.kind : Int)
  | 1 => .int .i64 x.a
  | _ => .int .i64 x.b
theorem bn_one (x : Bn) : cellsV 3 bnF [x] = [.int .u8 (x.kind : Int), .int .i64 x.a, .int .i64 x.b] := rfl
/-- The block that the slice in a box lies in. -/
def lbk (X : World) (g : Nat) : Option Nat := match X.heap[g]? with
  | some (.cells cs _ _) => (cs[0]?).bind Value.ownBlock
  | _ => none
theorem lbk_eq {X : World} {g : Nat} {v : Value} {T : TypeId} {fr : Nat × Nat} (h : X.heap[g]? = some (.cells #[v] T fr)) : lbk X g = v.ownBlock := by
  unfold lbk; rw [h]; rfl
/-- All stands but the box g and the list in it, which may have moved to a new block. -/
structure Kg (g : Nat) (X Y : World) : Prop where
  os : Y.os = X.os
  tape : Y.tape = X.tape
  output : Y.output = X.output
  size : X.heap.size ≤ Y.heap.size
  same : ∀ (k : Nat) (o : Obj), k ≠ g → lbk X g ≠ some k → X.heap[k]? = some o → Y.heap[k]? = some o
  lb : lbk Y g = lbk X g ∨ ∃ b, lbk Y g = some b ∧ X.heap.size ≤ b
section
variable {g B m : Nat} {w X Y Z : World} {o : Obj}
theorem Kg.refl (g : Nat) (X : World) : Kg g X X := ⟨rfl, rfl, rfl, Nat.le_refl _, fun _ _ _ _ h => h, .inl rfl⟩
theorem Kg.trans (h : Kg g X Y) (k : Kg g Y Z) : Kg g X Z := by
  refine ⟨k.os.trans h.os, k.tape.trans h.tape, k.output.trans h.output, Nat.le_trans h.size k.size, fun i p h1 h2 h3 => k.same i p h1 (fun e => ?_) (h.same i p h1 h2 h3), ?_⟩
  · rcases h.lb with h4 | ⟨b, h4, h5⟩
    · exact h2 (h4 ▸ e)
    · rw [h4] at e
      injection e with e
      have := at_lt h3
      omega
  · rcases k.lb with h4 | ⟨b, h4, h5⟩
    · rw [h4]; exact h.lb
    · exact .inr ⟨b, h4, Nat.le_trans h.size h5⟩
theorem Kg.of_below (h : Below B X Y) (hB : X.heap.size ≤ B) (hg : g < X.heap.size) : Kg g X Y :=
  ⟨h.os, h.tape, h.output, h.size, fun k o _ _ hk => (h.block k (Nat.lt_of_lt_of_le (at_lt hk) hB)).trans hk, .inl (by unfold lbk; rw [h.block g (by omega)])⟩
theorem Kg.below (h : Kg g X Y) (k : Below B w X) (hg : B ≤ g) (hl : ∀ b, lbk X g = some b → B ≤ b) (hB : B ≤ w.heap.size) : Below B w Y := by
  refine ⟨h.os.trans k.os, h.tape.trans k.tape, h.output.trans k.output, Nat.le_trans k.size h.size, fun i hi => ?_⟩
  have hlt : i < X.heap.size := Nat.lt_of_lt_of_le (Nat.lt_of_lt_of_le hi hB) k.size
  have h3 := Array.getElem?_eq_getElem hlt
  rw [h.same i _ (by omega) (fun e => by have := hl i e; omega) h3, ← h3]
  exact k.block i hi
/-- A block that is neither the box nor the list. -/
structure Loc (g : Nat) (X : World) (m : Nat) (o : Obj) : Prop where
  at_ : X.heap[m]? = some o
  ne : m ≠ g
  off : lbk X g ≠ some m
theorem Loc.on (h : Loc g X m o) (k : Kg g X Y) : Loc g Y m o := by
  refine ⟨k.same m o h.ne h.off h.at_, h.ne, fun e => ?_⟩
  rcases k.lb with h4 | ⟨b, h4, h5⟩
  · exact h.off (h4 ▸ e)
  · rw [h4] at e
    injection e with e
    have := at_lt h.at_
    omega
theorem Loc.cell {cs : Array Value} {T : TypeId} (h : Loc g X m (.cells cs T (0, 0))) {i : Nat} {v : Value} (hv : cs[i]? = some v) : X.cell? ⟨m, i, none⟩ = some v := cell_of h.at_ hv
end
/-- The list so far: a box with a slice of its own. -/
structure Col (B g : Nat) (l : List Bn) (X : World) : Prop where
  ex : ∃ v, X.heap[g]? = some (.cells #[v] 40 (0, 0)) ∧ X.ownsRow B 44 3 v l.length (cellsV 3 bnF l)
theorem Col.lb {B g : Nat} {l : List Bn} {X : World} (h : Col B g l X) {b : Nat} (hb : lbk X g = some b) : B ≤ b ∧ b < X.heap.size ∧ b ≠ g := by
  obtain ⟨v, h1, h2⟩ := h.ex
  rw [lbk_eq h1] at hb
  have h3 := ownsRow_lt h2 hb
  refine ⟨h3.1, h3.2, fun e => ?_⟩
  subst e
  obtain ⟨k1, ⟨rfl, -⟩ | ⟨g', cap, cur, rfl, k3, k4, k⟩⟩ := h2
  · cases hb
  · injection hb with hb
    subst hb
    rw [h1] at k4
    injection k4 with k4
    injection k4 with _ k5 _
    exact absurd k5 (by decide)
theorem Col.on {B g C : Nat} {l : List Bn} {X Y : World} (h : Col B g l X) (hb : Below C X Y) (hC : X.heap.size ≤ C) : Col B g l Y := by
  obtain ⟨v, h1, h2⟩ := h.ex
  exact ⟨v, box_on h1 hb hC, own_on h2 hb hC⟩
/-- What a function that finds broken invariants has: a scene, the list so far, the box of the kind. -/
structure Fnd (z : Sn) (W0 : World) (g kb kd : Nat) (fv : Value) (l : List Bn) (X : World) : Prop where
  sn : SnAt W0 z
  be : Below W0.heap.size W0 X
  gb : W0.heap.size ≤ g
  gl : g < X.heap.size
  co : Col W0.heap.size g l X
  kx : Loc g X kb (.cells #[.int .u8 (kd : Int), fv] 68 (0, 0))
section
variable {z : Sn} {W0 X Y : World} {g kb kd : Nat} {fv : Value} {l l' : List Bn}
theorem Fnd.snx (h : Fnd z W0 g kb kd fv l X) : SnAt X z := h.sn.on h.be (Nat.le_refl _)
theorem Fnd.kg (h : Fnd z W0 g kb kd fv l X) (hb : Below X.heap.size X Y) : Kg g X Y := Kg.of_below hb (Nat.le_refl _) h.gl
theorem Fnd.next (h : Fnd z W0 g kb kd fv l X) (k : Kg g X Y) (hc : Col W0.heap.size g l' Y) : Fnd z W0 g kb kd fv l' Y :=
  ⟨h.sn, k.below h.be h.gb (fun b hb => (h.co.lb hb).1) (Nat.le_refl _), h.gb, Nat.lt_of_lt_of_le h.gl k.size, hc, h.kx.on k⟩
theorem Fnd.on (h : Fnd z W0 g kb kd fv l X) (hb : Below X.heap.size X Y) : Fnd z W0 g kb kd fv l Y := h.next (h.kg hb) (h.co.on hb (Nat.le_refl _))
theorem Fnd.new (h : Fnd z W0 g kb kd fv l X) (o : Obj) : Loc g (X.alloc o) X.heap.size o := by
  refine ⟨heap_alloc_new _ _, by have := h.gl; omega, fun e => ?_⟩
  have h2 : Fnd z W0 g kb kd fv l (X.alloc o) := h.on ((Below.refl _ _).alloc (Nat.le_refl _) _)
  have e2 : lbk X g = some X.heap.size := by
    rw [← e]; unfold lbk; rw [Below.heap_alloc _ _ _ h.gl]
  have := (h.co.lb e2).2.1
  omega
end
set_option maxHeartbeats 8000000 in
/-- The closure that collects. -/
theorem c_coll (z : Sn) (W0 : World) (g kb kd : Nat) (fv : Value) (l : List Bn) (a b : Int) (w : World) (h : Fnd z W0 g kb kd fv l w) (hl : l.length ≤ 10000) :
    Calls Tryz.prog 29 #[.int .i64 a, .int .i64 b, .pointer (some ⟨g, 0, none⟩), .pointer (some ⟨kb, 0, none⟩)] w fun e w' => e = .returned (.tuple #[]) ∧ Fnd z W0 g kb kd fv (l ++ [⟨kd, a, b⟩]) w' ∧ Kg g w w' := by
  obtain ⟨v, hv, ho⟩ := h.co.ex
  have x1 : w.cell? ⟨kb, 0, none⟩ = some (.int .u8 (kd : Int)) := h.kx.cell rfl
  have hlb := lbk_eq hv
  have HV := Lib.hid hv
  have HF := Lib.hid h
  have hgl := h.gl
  have hB : W0.heap.size ≤ w.heap.size := h.be.size
  obtain ⟨n, hn⟩ : ∃ n, l.length = n := ⟨_, rfl⟩
  rw [hn] at ho hl
  have HN := Lib.hid hn
  have HLB := Lib.hid hlb
  obtain ⟨A, c, rfl⟩ := own_shape ho
  have HO := Lib.hid ho
  have x0 : w.cell? ⟨g, 0, none⟩ = some (.slice A n c) := cell_of hv rfl
  have HNG : ∀ g4, (Value.slice A n c).ownBlock = some g4 → g4 ≠ g := fun g4 e => (h.co.lb (hlb.trans e)).2.2
  have HNG2 := Lib.hid HNG
  clear HNG
  obtain ⟨i1, hi1, hz1, hz2, hz3⟩ := info_parts bn_info
  obtain ⟨Q, hQ⟩ : ∃ Q : Ending → World → Prop, Q = fun e w' => e = .returned (.tuple #[]) ∧ Fnd z W0 g kb kd fv (l ++ [⟨kd, a, b⟩]) w' ∧ Kg g w w' := ⟨_, rfl⟩
  rw [← hQ]
  have HQ := Lib.hid hQ
  clear h hv ho hn hlb hQ
  obtain ⟨B, hBB⟩ : ∃ B, W0.heap.size = B := ⟨_, rfl⟩
  rw [hBB] at HO hB
  have HBB := Lib.hid hBB
  clear hBB
  go_enter Tryz.func29, Tryz.ntmps29
  go_wp2_with (at_builtin; refine wpList_append_lies _ rfl _ _ 40 rfl B 44 i1 (.agg #[.int .u8 0, .int .i64 0, .int .i64 0]) 3 24 Tryz.underlying40 hi1 hz1 hz2 hz3 rfl (by decide) (.slice A n c) n _ rfl (own_on HO.out ((Below.refl w.heap.size w).alloc (Nat.le_refl _) _) (Nat.le_refl _)) ⟨w.heap.size, 0, none⟩ 1 1 [.int .u8 (kd : Int), .int .i64 a, .int .i64 b] rfl rfl (World.news_of_block (heap_alloc_new _ _)) (by simp [Value.oneCell']) (by decide) (by unfold maxLen; omega) (by omega) (by simp; omega) (w.heap.size + 1) (by simp) ?_; intro g4 cap4 Z hown hgrow hat hlt; have HOZ := Lib.hid hown; have HG := Lib.hid hgrow; have HAT := Lib.hid hat; have HZG := Lib.hid ((hgrow.block g (by simp; omega) (fun e => HNG2.out g e.symm rfl)).trans ((Below.heap_alloc _ _ _ hgl).trans HV.out)); have hzf := frz0 HZG.out 0; have hzc : Z.cell? ⟨g, 0, none⟩ = some (.slice A n c) := cell_of HZG.out rfl; clear hown hgrow hat)
  obtain ⟨Y, hY⟩ : ∃ Y, Z.setCell ⟨g, 0, none⟩ (.slice (some ⟨g4, 0, none⟩) (n + 1) cap4) = Y := ⟨_, rfl⟩
  rw [hY]
  go_end0
  have hng : g4 ≠ g := by
    rcases HAT.out with e | e
    · exact HNG2.out g4 e
    · omega
  have hy1 : Y.heap[g]? = some (.cells #[.slice (some ⟨g4, 0, none⟩) (n + 1) cap4] 40 (0, 0)) := by rw [← hY]; exact set_one HZG.out
  have hy2 : Y.ownsRow B 44 3 (.slice (some ⟨g4, 0, none⟩) (n + 1) cap4) (n + 1) (cellsV 3 bnF l ++ [.int .u8 (kd : Int), .int .i64 a, .int .i64 b]) := by rw [← hY]; exact own_set HOZ.out hng
  have hsz : w.heap.size + 1 ≤ Z.heap.size := by have := HG.out.size; simpa using this
  have hk : Kg g w Y := by
    refine ⟨by rw [← hY]; exact HG.out.os, by rw [← hY]; exact HG.out.tape, by rw [← hY]; exact HG.out.output, by rw [← hY]; simp [World.setCell]; omega, fun k o h1 h2 h3 => ?_, ?_⟩
    · rw [← hY, Below.heap_setCell _ ⟨g, 0, none⟩ _ k h1, HG.out.block k (by simp; have := at_lt h3; omega) (fun e => h2 (by rw [HLB.out]; exact e.symm)), Below.heap_alloc _ _ _ (at_lt h3)]
      exact h3
    · rw [lbk_eq hy1, HLB.out]
      rcases HAT.out with e | e
      · exact .inl (by rw [e]; rfl)
      · exact .inr ⟨g4, rfl, by omega⟩
  rw [HQ.out]
  refine ⟨rfl, HF.out.next hk ⟨_, hy1, ?_⟩, hk⟩
  rw [HBB.out, List.length_append, HN.out, cellsV_append, bn_one]
  exact hy2
end Go.Proofs.YtbbadnlaelgmlaaGreat

namespace Go.Proofs.YtbbadnlaelgmlaaGreat
open Go.RowKit
set_option maxRecDepth 100000
set_option linter.unusedVariables false
set_option linter.unusedSimpArgs false

theorem scn_cells {g : Nat} {X : World} {b : Nat} {z : Sn} {T : TypeId} (h : Loc g X b (.cells #[.slice z.p.a1 z.s.feeds.length z.p.c1, .slice z.p.a2 z.s.brks.length z.p.c2, .slice z.p.a3 z.s.loops.length z.p.c3, .slice z.p.a4 z.s.racks.length z.p.c4, .int .i64 z.s.sw, .slice z.p.a5 z.s.links.length z.p.c5, .slice z.p.a6 z.s.hosts.length z.p.c6, .slice z.A z.xs.length z.c, .slice z.q.a1 z.d.hosts.length z.q.c1, .slice z.q.a2 z.d.reps.length z.q.c2] T (0, 0))) : X.cell? ⟨b, 0, none⟩ = some (.slice z.p.a1 z.s.feeds.length z.p.c1) ∧ X.cell? ⟨b, 1, none⟩ = some (.slice z.p.a2 z.s.brks.length z.p.c2) ∧ X.cell? ⟨b, 2, none⟩ = some (.slice z.p.a3 z.s.loops.length z.p.c3) ∧ X.cell? ⟨b, 3, none⟩ = some (.slice z.p.a4 z.s.racks.length z.p.c4) ∧ X.cell? ⟨b, 4, none⟩ = some (.int .i64 z.s.sw) ∧ X.cell? ⟨b, 5, none⟩ = some (.slice z.p.a5 z.s.links.length z.p.c5) ∧ X.cell? ⟨b, 6, none⟩ = some (.slice z.p.a6 z.s.hosts.length z.p.c6) ∧ X.cell? ⟨b, 7, none⟩ = some (.slice z.A z.xs.length z.c) ∧ X.cell? ⟨b, 8, none⟩ = some (.slice z.q.a1 z.d.hosts.length z.q.c1) ∧ X.cell? ⟨b, 9, none⟩ = some (.slice z.q.a2 z.d.reps.length z.q.c2) :=
  ⟨h.cell rfl, h.cell rfl, h.cell rfl, h.cell rfl, h.cell rfl, h.cell rfl, h.cell rfl, h.cell rfl, h.cell rfl, h.cell rfl⟩
theorem lp_at' {z : Sn} {w : World} (h : SnAt w z) {i : Nat} {x : Lp} (hx : z.s.loops[i]? = some x) : ∃ b o, z.p.a3 = some ⟨b, o, none⟩ ∧ b < w.heap.size ∧ w.cell? ⟨b, o + i * 2, none⟩ = some (.int .i64 x.carry) ∧ w.cell? ⟨b, o + i * 2 + 1, none⟩ = some (.int .i64 x.delay) := by
  obtain ⟨b, o, e, hb, hc⟩ := h.si.loops.at_ hx
  exact ⟨b, o, e, hb, hc 0 (by omega), hc 1 (by omega)⟩
theorem sv_of {z : Sn} {w : World} (h : SnAt w z) {i : Nat} {x : Svc × SvA} (hx : z.xs[i]? = some x) : ∃ b o, z.A = some ⟨b, o, none⟩ ∧ b < w.heap.size ∧ w.cell? ⟨b, o + i * 8, none⟩ = some (.int .i64 x.1.cores) ∧ w.cell? ⟨b, o + i * 8 + 1, none⟩ = some (.int .i64 x.1.reps) ∧ w.cell? ⟨b, o + i * 8 + 2, none⟩ = some (.int .i64 x.1.least) ∧ w.cell? ⟨b, o + i * 8 + 3, none⟩ = some (.int .u8 (x.1.dom : Int)) ∧ w.cell? ⟨b, o + i * 8 + 4, none⟩ = some (.int .i64 x.1.spread) ∧ w.cell? ⟨b, o + i * 8 + 5, none⟩ = some (.slice x.2.a1 x.1.apart.length x.2.c1) ∧ w.cell? ⟨b, o + i * 8 + 6, none⟩ = some (.slice x.2.a2 x.1.near.length x.2.c2) ∧ w.cell? ⟨b, o + i * 8 + 7, none⟩ = some (.int .i64 x.1.fw) := by
  obtain ⟨b, o, e, hb, hc⟩ := h.wi.row.at_ hx
  have := h.wi.row
  rw [e] at this
  exact ⟨b, o, e, hb, sv_at this hx⟩
section
variable {z : Sn} (ok : z.Ok)
include ok
theorem few_hosts : z.s.hosts.length ≤ 16 := (siteOk_iff.1 ok.1).nhosts.2
theorem few_svcs : z.xs.length ≤ 8 := by have := ok.2.1.1; unfold Sn.ss at this; rw [svs_len] at this; exact this
theorem few_brks : z.s.brks.length ≤ 8 := by have := (siteOk_iff.1 ok.1).nbrks.2; omega
theorem few_feeds : z.s.feeds.length ≤ 4 := by have := (siteOk_iff.1 ok.1).nfeeds.2; omega
theorem few_loops : z.s.loops.length ≤ 4 := by have := (siteOk_iff.1 ok.1).nloops.2; omega
theorem few_reps : z.d.reps.length ≤ 24 := ok.2.2.2.2.1
theorem hosts_same : z.d.hosts.length = z.s.hosts.length := ok.2.2.1
end
theorem c_runsTo (z : Sn) (s : Int) (r : Int) (hr : (((whereD z.d.reps s).length : Nat) : Int) = r) (hm : z.d.reps.length ≤ 1000) (w : World) (h : SnAt w z) :
    Calls Tryz.prog 95 #[.agg #[.slice z.q.a1 z.d.hosts.length z.q.c1, .slice z.q.a2 z.d.reps.length z.q.c2], .int .i64 s] w fun e w' => e = .returned (.int .i64 r) ∧ Below w.heap.size w w' := by subst hr; exact c_woRuns z.q z.d s hm w h.wo
theorem c_whereTo (z : Sn) (s : Int) (l : List Int) (hr : whereD z.d.reps s = l) (hm : z.d.reps.length ≤ 1000) (w : World) (h : SnAt w z) :
    Calls Tryz.prog 97 #[.agg #[.slice z.q.a1 z.d.hosts.length z.q.c1, .slice z.q.a2 z.d.reps.length z.q.c2], .int .i64 s] w fun e w' => ∃ A c, e = .returned (.slice A l.length c) ∧ Rw 1 inF w' A c l ∧ Below w.heap.size w w' := by
  subst hr
  refine (c_woWhere z.q z.d s hm w h.wo).mono fun e w' q => ?_
  obtain ⟨v, e1, ho, hb⟩ := q
  obtain ⟨A, c, rfl, hr⟩ := own_rw ho
  exact ⟨A, c, e1, hr, hb⟩
theorem c_hasTo (z : Sn) (s h : Int) (r : Bool) (hr : hasB z.d.reps ⟨s, h⟩ = r) (w : World) (hz : SnAt w z) :
    Calls Tryz.prog 100 #[.agg #[.slice z.q.a1 z.d.hosts.length z.q.c1, .slice z.q.a2 z.d.reps.length z.q.c2], .agg #[.int .i64 s, .int .i64 h]] w fun e w' => e = .returned (.bool r) ∧ Below w.heap.size w w' := c_woHas z.q z.d ⟨s, h⟩ r hr w hz.wo
end Go.Proofs.YtbbadnlaelgmlaaGreat

namespace Go.Proofs.YtbbadnlaelgmlaaGreat
open Go.RowKit
set_option maxRecDepth 100000
set_option linter.unusedVariables false
set_option linter.unusedSimpArgs false

set_option maxHeartbeats 16000000 in
theorem c_findCores (z : Sn) (W0 : World) (g kb : Nat) (fv : Value) (l : List Bn) (ok : z.Ok) (hl : l.length ≤ 5000) (w : World) (h : Fnd z W0 g kb 1 fv l w) :
    Calls Tryz.prog 49 #[.agg #[.slice z.p.a1 z.s.feeds.length z.p.c1, .slice z.p.a2 z.s.brks.length z.p.c2, .slice z.p.a3 z.s.loops.length z.p.c3, .slice z.p.a4 z.s.racks.length z.p.c4, .int .i64 z.s.sw, .slice z.p.a5 z.s.links.length z.p.c5, .slice z.p.a6 z.s.hosts.length z.p.c6, .slice z.A z.xs.length z.c, .slice z.q.a1 z.d.hosts.length z.q.c1, .slice z.q.a2 z.d.reps.length z.q.c2], .func (.func 29) #[] #[.pointer (some ⟨g, 0, none⟩), .pointer (some ⟨kb, 0, none⟩)]] w fun e w' => e = .returned (.tuple #[]) ∧ Fnd z W0 g kb 1 fv (l ++ bnK z.s z.ss z.d 1) w' ∧ Kg g w w' := by
  obtain ⟨W, h1⟩ : ∃ W, W = w.alloc (.cells #[.slice z.p.a1 z.s.feeds.length z.p.c1, .slice z.p.a2 z.s.brks.length z.p.c2, .slice z.p.a3 z.s.loops.length z.p.c3, .slice z.p.a4 z.s.racks.length z.p.c4, .int .i64 z.s.sw, .slice z.p.a5 z.s.links.length z.p.c5, .slice z.p.a6 z.s.hosts.length z.p.c6, .slice z.A z.xs.length z.c, .slice z.q.a1 z.d.hosts.length z.q.c1, .slice z.q.a2 z.d.reps.length z.q.c2] 71) := ⟨_, rfl⟩
  have B1 : Below w.heap.size w W := by rw [h1]; exact (Below.refl _ _).alloc (Nat.le_refl _) _
  have L0 : Loc g W w.heap.size (.cells #[.slice z.p.a1 z.s.feeds.length z.p.c1, .slice z.p.a2 z.s.brks.length z.p.c2, .slice z.p.a3 z.s.loops.length z.p.c3, .slice z.p.a4 z.s.racks.length z.p.c4, .int .i64 z.s.sw, .slice z.p.a5 z.s.links.length z.p.c5, .slice z.p.a6 z.s.hosts.length z.p.c6, .slice z.A z.xs.length z.c, .slice z.q.a1 z.d.hosts.length z.q.c1, .slice z.q.a2 z.d.reps.length z.q.c2] 71 (0, 0)) := by rw [h1]; exact h.new _
  have HF := Lib.hid (h.on B1)
  have HKG := Lib.hid (h.kg B1)
  have HS := Lib.hid (fun (X : World) (hX : Kg g W X) => (scn_cells (L0.on hX) : X.cell? ⟨w.heap.size, 0, none⟩ = some (.slice z.p.a1 z.s.feeds.length z.p.c1) ∧ X.cell? ⟨w.heap.size, 1, none⟩ = some (.slice z.p.a2 z.s.brks.length z.p.c2) ∧ X.cell? ⟨w.heap.size, 2, none⟩ = some (.slice z.p.a3 z.s.loops.length z.p.c3) ∧ X.cell? ⟨w.heap.size, 3, none⟩ = some (.slice z.p.a4 z.s.racks.length z.p.c4) ∧ X.cell? ⟨w.heap.size, 4, none⟩ = some (.int .i64 z.s.sw) ∧ X.cell? ⟨w.heap.size, 5, none⟩ = some (.slice z.p.a5 z.s.links.length z.p.c5) ∧ X.cell? ⟨w.heap.size, 6, none⟩ = some (.slice z.p.a6 z.s.hosts.length z.p.c6) ∧ X.cell? ⟨w.heap.size, 7, none⟩ = some (.slice z.A z.xs.length z.c) ∧ X.cell? ⟨w.heap.size, 8, none⟩ = some (.slice z.q.a1 z.d.hosts.length z.q.c1) ∧ X.cell? ⟨w.heap.size, 9, none⟩ = some (.slice z.q.a2 z.d.reps.length z.q.c2)))
  have HK0 := Lib.hid (Kg.refl g W)
  obtain ⟨n1, n2, n3, n4, n5, n6, n7, n8⟩ := h.snx.bounds
  have HOK := Lib.hid ok
  have HL := Lib.hid hl
  have HPO : ∀ X, Fnd z W0 g kb 1 fv (l ++ bnK z.s z.ss z.d 1) X → Kg g W X → (Ending.returned (.tuple #[]) = .returned (.tuple #[]) ∧ Fnd z W0 g kb 1 fv (l ++ bnK z.s z.ss z.d 1) X ∧ Kg g w X) := fun X hx hk => ⟨rfl, hx, HKG.out.trans hk⟩
  obtain ⟨Q, hQ⟩ : ∃ Q : Ending → World → Prop, Q = fun e w' => e = .returned (.tuple #[]) ∧ Fnd z W0 g kb 1 fv (l ++ bnK z.s z.ss z.d 1) w' ∧ Kg g w w' := ⟨_, rfl⟩
  have HQ := Lib.hid (fun X hx hk => (by rw [hQ]; exact HPO X hx hk : Q (.returned (.tuple #[])) X))
  rw [← hQ]
  clear h B1 L0 hl HKG HPO hQ ok
  obtain ⟨f0, f1, f2, f3, f4, f5, f6, f7, f8, f9⟩ := HS.out W HK0.out
  rw [h1] at f0 f1 f2 f3 f4 f5 f6 f7 f8 f9
  generalize hBB : w.heap.size = B at *
  go_enter Tryz.func49, Tryz.ntmps49
  go_wp2_with (fail)
  rw [← h1]
  clear h1 f0 f1 f2 f3 f4 f5 f6 f7 f8 f9
  have HNN := Lib.hid (few_hosts HOK.out)
  have hnn := HNN.out
  go_loopw [4, 9] (fun hv i wr => ∃ k : Nat, k ≤ z.s.hosts.length ∧ i = .int .i64 (k : Int) ∧ Hid (Fnd z W0 g kb 1 fv (l ++ bk1 1 (bnCor z.s z.ss z.d) k) wr) ∧ Hid (Kg g W wr)) (fun _ i _ => z.s.hosts.length - (intOf i).toNat)
  case atStart => exact ⟨0, Nat.zero_le _, rfl, Lib.hid (by rw [bk1_zero, List.append_nil]; exact HF.out), HK0⟩
  case round =>
    obtain ⟨k, hk, rfl, hFr, hKr⟩ := hrel
    have hki : ((k : Nat) : Int).toNat = k := by omega
    by_cases hlt : k < z.s.hosts.length
    · obtain ⟨x, hx⟩ : ∃ x, z.s.hosts[k]? = some x := ⟨_, List.getElem?_eq_getElem hlt⟩
      have hki2 : (k : Int) < (z.s.hosts.length : Int) := by omega
      obtain ⟨m, hm⟩ : ∃ m, l ++ bk1 1 (bnCor z.s z.ss z.d) k = m := ⟨_, rfl⟩
      have HSU := Lib.hid (show l ++ bk1 1 (bnCor z.s z.ss z.d) (k + 1) = m ++ bk0 1 k ((bnCor z.s z.ss z.d) k) by rw [bk1_succ, ← List.append_assoc, hm])
      have HML := Lib.hid (show m.length ≤ 10000 by rw [← hm, List.length_append]; have := bk1_len 1 (bnCor z.s z.ss z.d) k; have := HL.out; omega)
      rw [hm] at hFr
      clear hm
      have hsn := hFr.out.snx
      obtain ⟨pb, po, e6, hpb, x0, x1, x2, x3⟩ := hs_at hsn hx
      obtain ⟨u, hu⟩ : ∃ u, usedD z.ss z.d.reps (k : Int) = u := ⟨_, rfl⟩
      have HU := Lib.hid hu
      have HX := Lib.hid hx
      clear hu hx
      obtain ⟨V, hV⟩ : ∃ X, wr = X := ⟨_, rfl⟩
      have bV : Below wr.heap.size wr V := by rw [hV]; exact Below.refl _ _
      have HFV := Lib.hid (hFr.out.on bV)
      have HKV := Lib.hid (hKr.out.trans (hFr.out.kg bV))
      have HC := Lib.hid (fun (X : World) (hX : Below V.heap.size V X) => (by
        have hk2 := HFV.out.kg hX
        have hbx := bV.trans (hX.mono bV.size)
        obtain ⟨f0, f1, f2, f3, f4, f5, f6, f7, f8, f9⟩ := HS.out X (HKV.out.trans hk2)
        rw [e6] at f6
        exact ⟨f0, f1, f2, f3, f4, f5, f6, f7, f8, f9, (hbx.cell (p := ⟨pb, po + k * 4 + 1, none⟩) hpb).trans x1⟩ : X.cell? ⟨B, 0, none⟩ = some (.slice z.p.a1 z.s.feeds.length z.p.c1) ∧ X.cell? ⟨B, 1, none⟩ = some (.slice z.p.a2 z.s.brks.length z.p.c2) ∧ X.cell? ⟨B, 2, none⟩ = some (.slice z.p.a3 z.s.loops.length z.p.c3) ∧ X.cell? ⟨B, 3, none⟩ = some (.slice z.p.a4 z.s.racks.length z.p.c4) ∧ X.cell? ⟨B, 4, none⟩ = some (.int .i64 z.s.sw) ∧ X.cell? ⟨B, 5, none⟩ = some (.slice z.p.a5 z.s.links.length z.p.c5) ∧ X.cell? ⟨B, 6, none⟩ = some (.slice (some ⟨pb, po, none⟩) z.s.hosts.length z.p.c6) ∧ X.cell? ⟨B, 7, none⟩ = some (.slice z.A z.xs.length z.c) ∧ X.cell? ⟨B, 8, none⟩ = some (.slice z.q.a1 z.d.hosts.length z.q.c1) ∧ X.cell? ⟨B, 9, none⟩ = some (.slice z.q.a2 z.d.reps.length z.q.c2) ∧ X.cell? ⟨pb, po + k * 4 + 1, none⟩ = some (.int .i64 x.cores)))
      have HSN := Lib.hid (fun (X : World) (hX : Below V.heap.size V X) => (HFV.out.on hX).snx)
      have HKbV := Lib.hid (Below.refl V.heap.size V)
      rcases hd : decide (x.cores < u) with _ | _
      · have HD := Lib.hid hd
        have HSK := Lib.hid (show l ++ bk1 1 (bnCor z.s z.ss z.d) (k + 1) = m ++ [] by rw [HSU.out, show (bnCor z.s z.ss z.d) k = false from (by unfold bnCor; rw [hsAt_eq HX.out, HU.out]; exact HD.out)]; rfl)
        obtain ⟨f0, f1, f2, f3, f4, f5, f6, f7, f8, f9, c0⟩ := HC.out V HKbV.out
        clear e6
        rw [hV]
        clear hV
        go_wp2_with (fail)
        clear f0 f1 f2 f3 f4 f5 f6 f7 f8 f9 c0
        go_region_held3 (fun X => X.cell? ⟨B, 0, none⟩ = some (.slice z.p.a1 z.s.feeds.length z.p.c1) ∧ X.cell? ⟨B, 1, none⟩ = some (.slice z.p.a2 z.s.brks.length z.p.c2) ∧ X.cell? ⟨B, 2, none⟩ = some (.slice z.p.a3 z.s.loops.length z.p.c3) ∧ X.cell? ⟨B, 3, none⟩ = some (.slice z.p.a4 z.s.racks.length z.p.c4) ∧ X.cell? ⟨B, 4, none⟩ = some (.int .i64 z.s.sw) ∧ X.cell? ⟨B, 5, none⟩ = some (.slice z.p.a5 z.s.links.length z.p.c5) ∧ X.cell? ⟨B, 6, none⟩ = some (.slice (some ⟨pb, po, none⟩) z.s.hosts.length z.p.c6) ∧ X.cell? ⟨B, 7, none⟩ = some (.slice z.A z.xs.length z.c) ∧ X.cell? ⟨B, 8, none⟩ = some (.slice z.q.a1 z.d.hosts.length z.q.c1) ∧ X.cell? ⟨B, 9, none⟩ = some (.slice z.q.a2 z.d.reps.length z.q.c2) ∧ X.cell? ⟨pb, po + k * 4 + 1, none⟩ = some (.int .i64 x.cores))
          (first | exact HC.out v201 HKbv201.out | exact HC.out V HKbV.out | fail)
          (first
            | (go_at_call 93; (with_reducible refine (c_usedTo z (k : Int) u HU.out V.drew (HSN.out _ HKbV.out.drew)).mono ?_); rintro e v201 ⟨rfl, bb0⟩; have bb := below_join (Below.refl V.heap.size V).drew bb0 (Nat.le_refl _); have HKbv201 := Lib.hid (below_join HKbV.out bb HKbV.out.size); clear bb bb0)
            | fail)
        go_wp2_with (fail)
        go_roundw
        case rel => exact ⟨k + 1, by omega, by go_num, Lib.hid (by rw [HSK.out, List.append_nil]; exact HFV.out.on HKbv201.out), Lib.hid (HKV.out.trans (HFV.out.kg HKbv201.out))⟩
        case measure => simp only [intOf]; omega
      · have HD := Lib.hid hd
        have HSK := Lib.hid (show l ++ bk1 1 (bnCor z.s z.ss z.d) (k + 1) = m ++ [⟨1, (k : Int), 0⟩] by rw [HSU.out, show (bnCor z.s z.ss z.d) k = true from (by unfold bnCor; rw [hsAt_eq HX.out, HU.out]; exact HD.out)]; rfl)
        obtain ⟨f0, f1, f2, f3, f4, f5, f6, f7, f8, f9, c0⟩ := HC.out V HKbV.out
        clear e6
        rw [hV]
        clear hV
        go_wp2_with (fail)
        clear f0 f1 f2 f3 f4 f5 f6 f7 f8 f9 c0
        go_region_held3 (fun X => X.cell? ⟨B, 0, none⟩ = some (.slice z.p.a1 z.s.feeds.length z.p.c1) ∧ X.cell? ⟨B, 1, none⟩ = some (.slice z.p.a2 z.s.brks.length z.p.c2) ∧ X.cell? ⟨B, 2, none⟩ = some (.slice z.p.a3 z.s.loops.length z.p.c3) ∧ X.cell? ⟨B, 3, none⟩ = some (.slice z.p.a4 z.s.racks.length z.p.c4) ∧ X.cell? ⟨B, 4, none⟩ = some (.int .i64 z.s.sw) ∧ X.cell? ⟨B, 5, none⟩ = some (.slice z.p.a5 z.s.links.length z.p.c5) ∧ X.cell? ⟨B, 6, none⟩ = some (.slice (some ⟨pb, po, none⟩) z.s.hosts.length z.p.c6) ∧ X.cell? ⟨B, 7, none⟩ = some (.slice z.A z.xs.length z.c) ∧ X.cell? ⟨B, 8, none⟩ = some (.slice z.q.a1 z.d.hosts.length z.q.c1) ∧ X.cell? ⟨B, 9, none⟩ = some (.slice z.q.a2 z.d.reps.length z.q.c2) ∧ X.cell? ⟨pb, po + k * 4 + 1, none⟩ = some (.int .i64 x.cores))
          (first | exact HC.out v201 HKbv201.out | exact HC.out V HKbV.out | fail)
          (first
            | (go_at_call 93; (with_reducible refine (c_usedTo z (k : Int) u HU.out V.drew (HSN.out _ HKbV.out.drew)).mono ?_); rintro e v201 ⟨rfl, bb0⟩; have bb := below_join (Below.refl V.heap.size V).drew bb0 (Nat.le_refl _); have HKbv201 := Lib.hid (below_join HKbV.out bb HKbV.out.size); clear bb bb0)
            | fail)
        go_wp2_with (fail)
        go_at_call 29
        refine (c_coll z W0 g kb 1 fv m (k : Int) 0 v201 (HFV.out.on HKbv201.out) HML.out).mono ?_
        rintro e y ⟨rfl, fy, ky⟩
        have HY := Lib.hid fy
        have HKY := Lib.hid ((HKV.out.trans (HFV.out.kg HKbv201.out)).trans ky)
        clear fy ky
        go_wp2_with (fail)
        go_roundw
        case rel => exact ⟨k + 1, by omega, by go_num, Lib.hid (by rw [HSK.out]; exact HY.out), HKY⟩
        case measure => simp only [intOf]; omega
    · obtain rfl : k = z.s.hosts.length := by omega
      go_wp2_with (fail)
      go_end0
      exact HQ.out _ (by have := hFr.out; unfold bnK; exact this) hKr.out
end Go.Proofs.YtbbadnlaelgmlaaGreat

namespace Go.Proofs.YtbbadnlaelgmlaaGreat
open Go.RowKit
set_option maxRecDepth 100000
set_option linter.unusedVariables false
set_option linter.unusedSimpArgs false

set_option maxHeartbeats 16000000 in
theorem c_findLeasts (z : Sn) (W0 : World) (g kb : Nat) (fv : Value) (l : List Bn) (ok : z.Ok) (hl : l.length ≤ 5000) (w : World) (h : Fnd z W0 g kb 3 fv l w) :
    Calls Tryz.prog 51 #[.agg #[.slice z.p.a1 z.s.feeds.length z.p.c1, .slice z.p.a2 z.s.brks.length z.p.c2, .slice z.p.a3 z.s.loops.length z.p.c3, .slice z.p.a4 z.s.racks.length z.p.c4, .int .i64 z.s.sw, .slice z.p.a5 z.s.links.length z.p.c5, .slice z.p.a6 z.s.hosts.length z.p.c6, .slice z.A z.xs.length z.c, .slice z.q.a1 z.d.hosts.length z.q.c1, .slice z.q.a2 z.d.reps.length z.q.c2], .func (.func 29) #[] #[.pointer (some ⟨g, 0, none⟩), .pointer (some ⟨kb, 0, none⟩)]] w fun e w' => e = .returned (.tuple #[]) ∧ Fnd z W0 g kb 3 fv (l ++ bnK z.s z.ss z.d 3) w' ∧ Kg g w w' := by
  obtain ⟨W, h1⟩ : ∃ W, W = w.alloc (.cells #[.slice z.p.a1 z.s.feeds.length z.p.c1, .slice z.p.a2 z.s.brks.length z.p.c2, .slice z.p.a3 z.s.loops.length z.p.c3, .slice z.p.a4 z.s.racks.length z.p.c4, .int .i64 z.s.sw, .slice z.p.a5 z.s.links.length z.p.c5, .slice z.p.a6 z.s.hosts.length z.p.c6, .slice z.A z.xs.length z.c, .slice z.q.a1 z.d.hosts.length z.q.c1, .slice z.q.a2 z.d.reps.length z.q.c2] 71) := ⟨_, rfl⟩
  have B1 : Below w.heap.size w W := by rw [h1]; exact (Below.refl _ _).alloc (Nat.le_refl _) _
  have L0 : Loc g W w.heap.size (.cells #[.slice z.p.a1 z.s.feeds.length z.p.c1, .slice z.p.a2 z.s.brks.length z.p.c2, .slice z.p.a3 z.s.loops.length z.p.c3, .slice z.p.a4 z.s.racks.length z.p.c4, .int .i64 z.s.sw, .slice z.p.a5 z.s.links.length z.p.c5, .slice z.p.a6 z.s.hosts.length z.p.c6, .slice z.A z.xs.length z.c, .slice z.q.a1 z.d.hosts.length z.q.c1, .slice z.q.a2 z.d.reps.length z.q.c2] 71 (0, 0)) := by rw [h1]; exact h.new _
  have HF := Lib.hid (h.on B1)
  have HKG := Lib.hid (h.kg B1)
  have HS := Lib.hid (fun (X : World) (hX : Kg g W X) => (scn_cells (L0.on hX) : X.cell? ⟨w.heap.size, 0, none⟩ = some (.slice z.p.a1 z.s.feeds.length z.p.c1) ∧ X.cell? ⟨w.heap.size, 1, none⟩ = some (.slice z.p.a2 z.s.brks.length z.p.c2) ∧ X.cell? ⟨w.heap.size, 2, none⟩ = some (.slice z.p.a3 z.s.loops.length z.p.c3) ∧ X.cell? ⟨w.heap.size, 3, none⟩ = some (.slice z.p.a4 z.s.racks.length z.p.c4) ∧ X.cell? ⟨w.heap.size, 4, none⟩ = some (.int .i64 z.s.sw) ∧ X.cell? ⟨w.heap.size, 5, none⟩ = some (.slice z.p.a5 z.s.links.length z.p.c5) ∧ X.cell? ⟨w.heap.size, 6, none⟩ = some (.slice z.p.a6 z.s.hosts.length z.p.c6) ∧ X.cell? ⟨w.heap.size, 7, none⟩ = some (.slice z.A z.xs.length z.c) ∧ X.cell? ⟨w.heap.size, 8, none⟩ = some (.slice z.q.a1 z.d.hosts.length z.q.c1) ∧ X.cell? ⟨w.heap.size, 9, none⟩ = some (.slice z.q.a2 z.d.reps.length z.q.c2)))
  have HK0 := Lib.hid (Kg.refl g W)
  obtain ⟨n1, n2, n3, n4, n5, n6, n7, n8⟩ := h.snx.bounds
  have HOK := Lib.hid ok
  have HL := Lib.hid hl
  have HPO : ∀ X, Fnd z W0 g kb 3 fv (l ++ bnK z.s z.ss z.d 3) X → Kg g W X → (Ending.returned (.tuple #[]) = .returned (.tuple #[]) ∧ Fnd z W0 g kb 3 fv (l ++ bnK z.s z.ss z.d 3) X ∧ Kg g w X) := fun X hx hk => ⟨rfl, hx, HKG.out.trans hk⟩
  obtain ⟨Q, hQ⟩ : ∃ Q : Ending → World → Prop, Q = fun e w' => e = .returned (.tuple #[]) ∧ Fnd z W0 g kb 3 fv (l ++ bnK z.s z.ss z.d 3) w' ∧ Kg g w w' := ⟨_, rfl⟩
  have HQ := Lib.hid (fun X hx hk => (by rw [hQ]; exact HPO X hx hk : Q (.returned (.tuple #[])) X))
  rw [← hQ]
  clear h B1 L0 hl HKG HPO hQ ok
  obtain ⟨f0, f1, f2, f3, f4, f5, f6, f7, f8, f9⟩ := HS.out W HK0.out
  rw [h1] at f0 f1 f2 f3 f4 f5 f6 f7 f8 f9
  generalize hBB : w.heap.size = B at *
  go_enter Tryz.func51, Tryz.ntmps51
  go_wp2_with (fail)
  rw [← h1]
  clear h1 f0 f1 f2 f3 f4 f5 f6 f7 f8 f9
  have HNN := Lib.hid (few_svcs HOK.out)
  have hnn := HNN.out
  go_loopw [4, 10] (fun hv i wr => ∃ k : Nat, k ≤ z.xs.length ∧ i = .int .i64 (k : Int) ∧ Hid (Fnd z W0 g kb 3 fv (l ++ bk1 3 (bnLea z.ss z.d) k) wr) ∧ Hid (Kg g W wr)) (fun _ i _ => z.xs.length - (intOf i).toNat)
  case atStart => exact ⟨0, Nat.zero_le _, rfl, Lib.hid (by rw [bk1_zero, List.append_nil]; exact HF.out), HK0⟩
  case round =>
    obtain ⟨k, hk, rfl, hFr, hKr⟩ := hrel
    have hki : ((k : Nat) : Int).toNat = k := by omega
    by_cases hlt : k < z.xs.length
    · obtain ⟨x, hx⟩ : ∃ x, z.xs[k]? = some x := ⟨_, List.getElem?_eq_getElem hlt⟩
      have hki2 : (k : Int) < (z.xs.length : Int) := by omega
      obtain ⟨m, hm⟩ : ∃ m, l ++ bk1 3 (bnLea z.ss z.d) k = m := ⟨_, rfl⟩
      have HSU := Lib.hid (show l ++ bk1 3 (bnLea z.ss z.d) (k + 1) = m ++ bk0 3 k ((bnLea z.ss z.d) k) by rw [bk1_succ, ← List.append_assoc, hm])
      have HML := Lib.hid (show m.length ≤ 10000 by rw [← hm, List.length_append]; have := bk1_len 3 (bnLea z.ss z.d) k; have := HL.out; omega)
      rw [hm] at hFr
      clear hm
      have hsn := hFr.out.snx
      obtain ⟨pb, po, e6, hpb, x0, x1, x2, x3, x4, x5, x6, x7⟩ := sv_of hsn hx
      obtain ⟨u, hu⟩ : ∃ u, (((whereD z.d.reps (k : Int)).length : Nat) : Int) = u := ⟨_, rfl⟩
      have HU := Lib.hid hu
      have HX := Lib.hid hx
      have hrp := few_reps HOK.out
      clear hu hx
      obtain ⟨V, hV⟩ : ∃ X, X = wr.alloc (.cells #[.int .i64 x.1.cores, .int .i64 x.1.reps, .int .i64 x.1.least, .int .u8 (x.1.dom : Int), .int .i64 x.1.spread, .slice x.2.a1 x.1.apart.length x.2.c1, .slice x.2.a2 x.1.near.length x.2.c2, .int .i64 x.1.fw] 94) := ⟨_, rfl⟩
      have bV : Below wr.heap.size wr V := by rw [hV]; exact (Below.refl _ _).alloc (Nat.le_refl _) _
      have LV : Loc g V wr.heap.size (.cells #[.int .i64 x.1.cores, .int .i64 x.1.reps, .int .i64 x.1.least, .int .u8 (x.1.dom : Int), .int .i64 x.1.spread, .slice x.2.a1 x.1.apart.length x.2.c1, .slice x.2.a2 x.1.near.length x.2.c2, .int .i64 x.1.fw] 94 (0, 0)) := by rw [hV]; exact hFr.out.new _
      have HFV := Lib.hid (hFr.out.on bV)
      have HKV := Lib.hid (hKr.out.trans (hFr.out.kg bV))
      have HC := Lib.hid (fun (X : World) (hX : Below V.heap.size V X) => (by
        have hk2 := HFV.out.kg hX
        have hbx := bV.trans (hX.mono bV.size)
        obtain ⟨f0, f1, f2, f3, f4, f5, f6, f7, f8, f9⟩ := HS.out X (HKV.out.trans hk2)
        exact ⟨f0, f1, f2, f3, f4, f5, f6, f7, f8, f9, (LV.on hk2).cell rfl⟩ : X.cell? ⟨B, 0, none⟩ = some (.slice z.p.a1 z.s.feeds.length z.p.c1) ∧ X.cell? ⟨B, 1, none⟩ = some (.slice z.p.a2 z.s.brks.length z.p.c2) ∧ X.cell? ⟨B, 2, none⟩ = some (.slice z.p.a3 z.s.loops.length z.p.c3) ∧ X.cell? ⟨B, 3, none⟩ = some (.slice z.p.a4 z.s.racks.length z.p.c4) ∧ X.cell? ⟨B, 4, none⟩ = some (.int .i64 z.s.sw) ∧ X.cell? ⟨B, 5, none⟩ = some (.slice z.p.a5 z.s.links.length z.p.c5) ∧ X.cell? ⟨B, 6, none⟩ = some (.slice z.p.a6 z.s.hosts.length z.p.c6) ∧ X.cell? ⟨B, 7, none⟩ = some (.slice z.A z.xs.length z.c) ∧ X.cell? ⟨B, 8, none⟩ = some (.slice z.q.a1 z.d.hosts.length z.q.c1) ∧ X.cell? ⟨B, 9, none⟩ = some (.slice z.q.a2 z.d.reps.length z.q.c2) ∧ X.cell? ⟨wr.heap.size, 2, none⟩ = some (.int .i64 x.1.least)))
      have HSN := Lib.hid (fun (X : World) (hX : Below V.heap.size V X) => (HFV.out.on hX).snx)
      have HKbV := Lib.hid (Below.refl V.heap.size V)
      rcases hd : decide (u < x.1.least) with _ | _
      · have HD := Lib.hid hd
        have HSK := Lib.hid (show l ++ bk1 3 (bnLea z.ss z.d) (k + 1) = m ++ [] by rw [HSU.out, show (bnLea z.ss z.d) k = false from (by unfold bnLea; rw [svAt_eq (show z.ss[k]? = some x.1 from svs_at HX.out), HU.out]; exact HD.out)]; rfl)
        obtain ⟨f0, f1, f2, f3, f4, f5, f6, f7, f8, f9, c0⟩ := HC.out V HKbV.out
        rw [e6]
        rw [hV] at f0 f1 f2 f3 f4 f5 f6 f7 f8 f9 c0
        go_wp2_with (fail)
        rw [← hV]
        clear hV f0 f1 f2 f3 f4 f5 f6 f7 f8 f9 c0
        go_region_held3 (fun X => X.cell? ⟨B, 0, none⟩ = some (.slice z.p.a1 z.s.feeds.length z.p.c1) ∧ X.cell? ⟨B, 1, none⟩ = some (.slice z.p.a2 z.s.brks.length z.p.c2) ∧ X.cell? ⟨B, 2, none⟩ = some (.slice z.p.a3 z.s.loops.length z.p.c3) ∧ X.cell? ⟨B, 3, none⟩ = some (.slice z.p.a4 z.s.racks.length z.p.c4) ∧ X.cell? ⟨B, 4, none⟩ = some (.int .i64 z.s.sw) ∧ X.cell? ⟨B, 5, none⟩ = some (.slice z.p.a5 z.s.links.length z.p.c5) ∧ X.cell? ⟨B, 6, none⟩ = some (.slice z.p.a6 z.s.hosts.length z.p.c6) ∧ X.cell? ⟨B, 7, none⟩ = some (.slice z.A z.xs.length z.c) ∧ X.cell? ⟨B, 8, none⟩ = some (.slice z.q.a1 z.d.hosts.length z.q.c1) ∧ X.cell? ⟨B, 9, none⟩ = some (.slice z.q.a2 z.d.reps.length z.q.c2) ∧ X.cell? ⟨wr.heap.size, 2, none⟩ = some (.int .i64 x.1.least))
          (first | exact HC.out v201 HKbv201.out | exact HC.out V HKbV.out | fail)
          (first
            | (go_at_call 95; (with_reducible refine (c_runsTo z (k : Int) u HU.out (by omega) V.drew (HSN.out _ HKbV.out.drew)).mono ?_); rintro e v201 ⟨rfl, bb0⟩; have bb := below_join (Below.refl V.heap.size V).drew bb0 (Nat.le_refl _); have HKbv201 := Lib.hid (below_join HKbV.out bb HKbV.out.size); clear bb bb0)
            | fail)
        go_wp2_with (fail)
        go_roundw
        case rel => exact ⟨k + 1, by omega, by go_num, Lib.hid (by rw [HSK.out, List.append_nil]; exact HFV.out.on HKbv201.out), Lib.hid (HKV.out.trans (HFV.out.kg HKbv201.out))⟩
        case measure => simp only [intOf]; omega
      · have HD := Lib.hid hd
        have HSK := Lib.hid (show l ++ bk1 3 (bnLea z.ss z.d) (k + 1) = m ++ [⟨3, (k : Int), 0⟩] by rw [HSU.out, show (bnLea z.ss z.d) k = true from (by unfold bnLea; rw [svAt_eq (show z.ss[k]? = some x.1 from svs_at HX.out), HU.out]; exact HD.out)]; rfl)
        obtain ⟨f0, f1, f2, f3, f4, f5, f6, f7, f8, f9, c0⟩ := HC.out V HKbV.out
        rw [e6]
        rw [hV] at f0 f1 f2 f3 f4 f5 f6 f7 f8 f9 c0
        go_wp2_with (fail)
        rw [← hV]
        clear hV f0 f1 f2 f3 f4 f5 f6 f7 f8 f9 c0
        go_region_held3 (fun X => X.cell? ⟨B, 0, none⟩ = some (.slice z.p.a1 z.s.feeds.length z.p.c1) ∧ X.cell? ⟨B, 1, none⟩ = some (.slice z.p.a2 z.s.brks.length z.p.c2) ∧ X.cell? ⟨B, 2, none⟩ = some (.slice z.p.a3 z.s.loops.length z.p.c3) ∧ X.cell? ⟨B, 3, none⟩ = some (.slice z.p.a4 z.s.racks.length z.p.c4) ∧ X.cell? ⟨B, 4, none⟩ = some (.int .i64 z.s.sw) ∧ X.cell? ⟨B, 5, none⟩ = some (.slice z.p.a5 z.s.links.length z.p.c5) ∧ X.cell? ⟨B, 6, none⟩ = some (.slice z.p.a6 z.s.hosts.length z.p.c6) ∧ X.cell? ⟨B, 7, none⟩ = some (.slice z.A z.xs.length z.c) ∧ X.cell? ⟨B, 8, none⟩ = some (.slice z.q.a1 z.d.hosts.length z.q.c1) ∧ X.cell? ⟨B, 9, none⟩ = some (.slice z.q.a2 z.d.reps.length z.q.c2) ∧ X.cell? ⟨wr.heap.size, 2, none⟩ = some (.int .i64 x.1.least))
          (first | exact HC.out v201 HKbv201.out | exact HC.out V HKbV.out | fail)
          (first
            | (go_at_call 95; (with_reducible refine (c_runsTo z (k : Int) u HU.out (by omega) V.drew (HSN.out _ HKbV.out.drew)).mono ?_); rintro e v201 ⟨rfl, bb0⟩; have bb := below_join (Below.refl V.heap.size V).drew bb0 (Nat.le_refl _); have HKbv201 := Lib.hid (below_join HKbV.out bb HKbV.out.size); clear bb bb0)
            | fail)
        go_wp2_with (fail)
        go_at_call 29
        refine (c_coll z W0 g kb 3 fv m (k : Int) 0 v201 (HFV.out.on HKbv201.out) HML.out).mono ?_
        rintro e y ⟨rfl, fy, ky⟩
        have HY := Lib.hid fy
        have HKY := Lib.hid ((HKV.out.trans (HFV.out.kg HKbv201.out)).trans ky)
        clear fy ky
        go_wp2_with (fail)
        go_roundw
        case rel => exact ⟨k + 1, by omega, by go_num, Lib.hid (by rw [HSK.out]; exact HY.out), HKY⟩
        case measure => simp only [intOf]; omega
    · obtain rfl : k = z.xs.length := by omega
      go_wp2_with (fail)
      go_end0
      exact HQ.out _ (by have := hFr.out; unfold bnK; unfold Sn.ss; rw [svs_len]; exact this) hKr.out
end Go.Proofs.YtbbadnlaelgmlaaGreat

namespace Go.Proofs.YtbbadnlaelgmlaaGreat
open Go.RowKit
set_option maxRecDepth 100000
set_option linter.unusedVariables false
set_option linter.unusedSimpArgs false

set_option maxHeartbeats 16000000 in
theorem c_findBreakers (z : Sn) (W0 : World) (g kb : Nat) (fv : Value) (l : List Bn) (ok : z.Ok) (hl : l.length ≤ 5000) (w : World) (h : Fnd z W0 g kb 8 fv l w) :
    Calls Tryz.prog 56 #[.agg #[.slice z.p.a1 z.s.feeds.length z.p.c1, .slice z.p.a2 z.s.brks.length z.p.c2, .slice z.p.a3 z.s.loops.length z.p.c3, .slice z.p.a4 z.s.racks.length z.p.c4, .int .i64 z.s.sw, .slice z.p.a5 z.s.links.length z.p.c5, .slice z.p.a6 z.s.hosts.length z.p.c6, .slice z.A z.xs.length z.c, .slice z.q.a1 z.d.hosts.length z.q.c1, .slice z.q.a2 z.d.reps.length z.q.c2], .func (.func 29) #[] #[.pointer (some ⟨g, 0, none⟩), .pointer (some ⟨kb, 0, none⟩)]] w fun e w' => e = .returned (.tuple #[]) ∧ Fnd z W0 g kb 8 fv (l ++ bnK z.s z.ss z.d 8) w' ∧ Kg g w w' := by
  obtain ⟨W, h1⟩ : ∃ W, W = w.alloc (.cells #[.slice z.p.a1 z.s.feeds.length z.p.c1, .slice z.p.a2 z.s.brks.length z.p.c2, .slice z.p.a3 z.s.loops.length z.p.c3, .slice z.p.a4 z.s.racks.length z.p.c4, .int .i64 z.s.sw, .slice z.p.a5 z.s.links.length z.p.c5, .slice z.p.a6 z.s.hosts.length z.p.c6, .slice z.A z.xs.length z.c, .slice z.q.a1 z.d.hosts.length z.q.c1, .slice z.q.a2 z.d.reps.length z.q.c2] 71) := ⟨_, rfl⟩
  have B1 : Below w.heap.size w W := by rw [h1]; exact (Below.refl _ _).alloc (Nat.le_refl _) _
  have L0 : Loc g W w.heap.size (.cells #[.slice z.p.a1 z.s.feeds.length z.p.c1, .slice z.p.a2 z.s.brks.length z.p.c2, .slice z.p.a3 z.s.loops.length z.p.c3, .slice z.p.a4 z.s.racks.length z.p.c4, .int .i64 z.s.sw, .slice z.p.a5 z.s.links.length z.p.c5, .slice z.p.a6 z.s.hosts.length z.p.c6, .slice z.A z.xs.length z.c, .slice z.q.a1 z.d.hosts.length z.q.c1, .slice z.q.a2 z.d.reps.length z.q.c2] 71 (0, 0)) := by rw [h1]; exact h.new _
  have HF := Lib.hid (h.on B1)
  have HKG := Lib.hid (h.kg B1)
  have HS := Lib.hid (fun (X : World) (hX : Kg g W X) => (scn_cells (L0.on hX) : X.cell? ⟨w.heap.size, 0, none⟩ = some (.slice z.p.a1 z.s.feeds.length z.p.c1) ∧ X.cell? ⟨w.heap.size, 1, none⟩ = some (.slice z.p.a2 z.s.brks.length z.p.c2) ∧ X.cell? ⟨w.heap.size, 2, none⟩ = some (.slice z.p.a3 z.s.loops.length z.p.c3) ∧ X.cell? ⟨w.heap.size, 3, none⟩ = some (.slice z.p.a4 z.s.racks.length z.p.c4) ∧ X.cell? ⟨w.heap.size, 4, none⟩ = some (.int .i64 z.s.sw) ∧ X.cell? ⟨w.heap.size, 5, none⟩ = some (.slice z.p.a5 z.s.links.length z.p.c5) ∧ X.cell? ⟨w.heap.size, 6, none⟩ = some (.slice z.p.a6 z.s.hosts.length z.p.c6) ∧ X.cell? ⟨w.heap.size, 7, none⟩ = some (.slice z.A z.xs.length z.c) ∧ X.cell? ⟨w.heap.size, 8, none⟩ = some (.slice z.q.a1 z.d.hosts.length z.q.c1) ∧ X.cell? ⟨w.heap.size, 9, none⟩ = some (.slice z.q.a2 z.d.reps.length z.q.c2)))
  have HK0 := Lib.hid (Kg.refl g W)
  obtain ⟨n1, n2, n3, n4, n5, n6, n7, n8⟩ := h.snx.bounds
  have HOK := Lib.hid ok
  have HL := Lib.hid hl
  have HPO : ∀ X, Fnd z W0 g kb 8 fv (l ++ bnK z.s z.ss z.d 8) X → Kg g W X → (Ending.returned (.tuple #[]) = .returned (.tuple #[]) ∧ Fnd z W0 g kb 8 fv (l ++ bnK z.s z.ss z.d 8) X ∧ Kg g w X) := fun X hx hk => ⟨rfl, hx, HKG.out.trans hk⟩
  obtain ⟨Q, hQ⟩ : ∃ Q : Ending → World → Prop, Q = fun e w' => e = .returned (.tuple #[]) ∧ Fnd z W0 g kb 8 fv (l ++ bnK z.s z.ss z.d 8) w' ∧ Kg g w w' := ⟨_, rfl⟩
  have HQ := Lib.hid (fun X hx hk => (by rw [hQ]; exact HPO X hx hk : Q (.returned (.tuple #[])) X))
  rw [← hQ]
  clear h B1 L0 hl HKG HPO hQ ok
  obtain ⟨f0, f1, f2, f3, f4, f5, f6, f7, f8, f9⟩ := HS.out W HK0.out
  rw [h1] at f0 f1 f2 f3 f4 f5 f6 f7 f8 f9
  generalize hBB : w.heap.size = B at *
  go_enter Tryz.func56, Tryz.ntmps56
  go_wp2_with (fail)
  rw [← h1]
  clear h1 f0 f1 f2 f3 f4 f5 f6 f7 f8 f9
  have HNN := Lib.hid (few_brks HOK.out)
  have hnn := HNN.out
  go_loopw [4, 10] (fun hv i wr => ∃ k : Nat, k ≤ z.s.brks.length ∧ i = .int .i64 (k : Int) ∧ Hid (Fnd z W0 g kb 8 fv (l ++ bk1 8 (bnBrk z.s z.ss z.d) k) wr) ∧ Hid (Kg g W wr)) (fun _ i _ => z.s.brks.length - (intOf i).toNat)
  case atStart => exact ⟨0, Nat.zero_le _, rfl, Lib.hid (by rw [bk1_zero, List.append_nil]; exact HF.out), HK0⟩
  case round =>
    obtain ⟨k, hk, rfl, hFr, hKr⟩ := hrel
    have hki : ((k : Nat) : Int).toNat = k := by omega
    by_cases hlt : k < z.s.brks.length
    · obtain ⟨x, hx⟩ : ∃ x, z.s.brks[k]? = some x := ⟨_, List.getElem?_eq_getElem hlt⟩
      have hki2 : (k : Int) < (z.s.brks.length : Int) := by omega
      obtain ⟨m, hm⟩ : ∃ m, l ++ bk1 8 (bnBrk z.s z.ss z.d) k = m := ⟨_, rfl⟩
      have HSU := Lib.hid (show l ++ bk1 8 (bnBrk z.s z.ss z.d) (k + 1) = m ++ bk0 8 k ((bnBrk z.s z.ss z.d) k) by rw [bk1_succ, ← List.append_assoc, hm])
      have HML := Lib.hid (show m.length ≤ 10000 by rw [← hm, List.length_append]; have := bk1_len 8 (bnBrk z.s z.ss z.d) k; have := HL.out; omega)
      rw [hm] at hFr
      clear hm
      have hsn := hFr.out.snx
      obtain ⟨pb, po, e6, hpb, x0, x1, x2, x3⟩ := bk_at hsn hx
      obtain ⟨u, hu⟩ : ∃ u, loadN z.s z.ss z.d (isBrk z.s (k : Int)) = u := ⟨_, rfl⟩
      have HU := Lib.hid hu
      clear hu
      have HX := Lib.hid hx
      clear hx
      obtain ⟨V, hV⟩ : ∃ X, X = wr.alloc (.cells #[.int .i64 x.feed, .int .i64 x.limit, .int .i64 x.slow, .int .i64 x.fast] 83) := ⟨_, rfl⟩
      have bV : Below wr.heap.size wr V := by rw [hV]; exact (Below.refl _ _).alloc (Nat.le_refl _) _
      have LV : Loc g V wr.heap.size (.cells #[.int .i64 x.feed, .int .i64 x.limit, .int .i64 x.slow, .int .i64 x.fast] 83 (0, 0)) := by rw [hV]; exact hFr.out.new _
      have HFV := Lib.hid (hFr.out.on bV)
      have HKV := Lib.hid (hKr.out.trans (hFr.out.kg bV))
      have HC := Lib.hid (fun (X : World) (hX : Below V.heap.size V X) => (by
        have hk2 := HFV.out.kg hX
        have hbx := bV.trans (hX.mono bV.size)
        obtain ⟨f0, f1, f2, f3, f4, f5, f6, f7, f8, f9⟩ := HS.out X (HKV.out.trans hk2)
        rw [e6] at f1
        exact ⟨f0, f1, f2, f3, f4, f5, f6, f7, f8, f9, (LV.on hk2).cell rfl⟩ : X.cell? ⟨B, 0, none⟩ = some (.slice z.p.a1 z.s.feeds.length z.p.c1) ∧ X.cell? ⟨B, 1, none⟩ = some (.slice (some ⟨pb, po, none⟩) z.s.brks.length z.p.c2) ∧ X.cell? ⟨B, 2, none⟩ = some (.slice z.p.a3 z.s.loops.length z.p.c3) ∧ X.cell? ⟨B, 3, none⟩ = some (.slice z.p.a4 z.s.racks.length z.p.c4) ∧ X.cell? ⟨B, 4, none⟩ = some (.int .i64 z.s.sw) ∧ X.cell? ⟨B, 5, none⟩ = some (.slice z.p.a5 z.s.links.length z.p.c5) ∧ X.cell? ⟨B, 6, none⟩ = some (.slice z.p.a6 z.s.hosts.length z.p.c6) ∧ X.cell? ⟨B, 7, none⟩ = some (.slice z.A z.xs.length z.c) ∧ X.cell? ⟨B, 8, none⟩ = some (.slice z.q.a1 z.d.hosts.length z.q.c1) ∧ X.cell? ⟨B, 9, none⟩ = some (.slice z.q.a2 z.d.reps.length z.q.c2) ∧ X.cell? ⟨wr.heap.size, 1, none⟩ = some (.int .i64 x.limit)))
      have HSN := Lib.hid (fun (X : World) (hX : Below V.heap.size V X) => (HFV.out.on hX).snx)
      have HKbV := Lib.hid (Below.refl V.heap.size V)
      have HCX := Lib.hid (fun (X : World) (hX : Below V.heap.size V X) => c_pwOfBreaker z true ⟨fun _ => HOK.out, fun _ => rfl⟩ (k : Int) X (HSN.out _ hX) u HU.out)
      rw [e6] at HCX
      rcases hd : decide (x.limit < u) with _ | _
      · have HD := Lib.hid hd
        have HSK := Lib.hid (show l ++ bk1 8 (bnBrk z.s z.ss z.d) (k + 1) = m ++ [] by rw [HSU.out, show (bnBrk z.s z.ss z.d) k = false from (by unfold bnBrk; rw [HX.out, HU.out]; exact HD.out)]; rfl)
        obtain ⟨f0, f1, f2, f3, f4, f5, f6, f7, f8, f9, c0⟩ := HC.out V HKbV.out
        rw [e6]
        rw [hV] at f0 f1 f2 f3 f4 f5 f6 f7 f8 f9 c0
        go_wp2_with (fail)
        rw [← hV]
        clear hV f0 f1 f2 f3 f4 f5 f6 f7 f8 f9 c0
        go_region_held3 (fun X => X.cell? ⟨B, 0, none⟩ = some (.slice z.p.a1 z.s.feeds.length z.p.c1) ∧ X.cell? ⟨B, 1, none⟩ = some (.slice (some ⟨pb, po, none⟩) z.s.brks.length z.p.c2) ∧ X.cell? ⟨B, 2, none⟩ = some (.slice z.p.a3 z.s.loops.length z.p.c3) ∧ X.cell? ⟨B, 3, none⟩ = some (.slice z.p.a4 z.s.racks.length z.p.c4) ∧ X.cell? ⟨B, 4, none⟩ = some (.int .i64 z.s.sw) ∧ X.cell? ⟨B, 5, none⟩ = some (.slice z.p.a5 z.s.links.length z.p.c5) ∧ X.cell? ⟨B, 6, none⟩ = some (.slice z.p.a6 z.s.hosts.length z.p.c6) ∧ X.cell? ⟨B, 7, none⟩ = some (.slice z.A z.xs.length z.c) ∧ X.cell? ⟨B, 8, none⟩ = some (.slice z.q.a1 z.d.hosts.length z.q.c1) ∧ X.cell? ⟨B, 9, none⟩ = some (.slice z.q.a2 z.d.reps.length z.q.c2) ∧ X.cell? ⟨wr.heap.size, 1, none⟩ = some (.int .i64 x.limit))
          (first | exact HC.out v201 HKbv201.out | exact HC.out V HKbV.out | fail)
          (first
            | (go_at_call 105; (with_reducible refine (HCX.out V.drew HKbV.out.drew).mono ?_); rintro e v201 ⟨rfl, bb0⟩; have bb := below_join (Below.refl V.heap.size V).drew bb0 (Nat.le_refl _); have HKbv201 := Lib.hid (below_join HKbV.out bb HKbV.out.size); clear bb bb0)
            | fail)
        go_wp2_with (fail)
        go_roundw
        case rel => exact ⟨k + 1, by omega, by go_num, Lib.hid (by rw [HSK.out, List.append_nil]; exact HFV.out.on HKbv201.out), Lib.hid (HKV.out.trans (HFV.out.kg HKbv201.out))⟩
        case measure => simp only [intOf]; omega
      · have HD := Lib.hid hd
        have HSK := Lib.hid (show l ++ bk1 8 (bnBrk z.s z.ss z.d) (k + 1) = m ++ [⟨8, (k : Int), 0⟩] by rw [HSU.out, show (bnBrk z.s z.ss z.d) k = true from (by unfold bnBrk; rw [HX.out, HU.out]; exact HD.out)]; rfl)
        obtain ⟨f0, f1, f2, f3, f4, f5, f6, f7, f8, f9, c0⟩ := HC.out V HKbV.out
        rw [e6]
        rw [hV] at f0 f1 f2 f3 f4 f5 f6 f7 f8 f9 c0
        go_wp2_with (fail)
        rw [← hV]
        clear hV f0 f1 f2 f3 f4 f5 f6 f7 f8 f9 c0
        go_region_held3 (fun X => X.cell? ⟨B, 0, none⟩ = some (.slice z.p.a1 z.s.feeds.length z.p.c1) ∧ X.cell? ⟨B, 1, none⟩ = some (.slice (some ⟨pb, po, none⟩) z.s.brks.length z.p.c2) ∧ X.cell? ⟨B, 2, none⟩ = some (.slice z.p.a3 z.s.loops.length z.p.c3) ∧ X.cell? ⟨B, 3, none⟩ = some (.slice z.p.a4 z.s.racks.length z.p.c4) ∧ X.cell? ⟨B, 4, none⟩ = some (.int .i64 z.s.sw) ∧ X.cell? ⟨B, 5, none⟩ = some (.slice z.p.a5 z.s.links.length z.p.c5) ∧ X.cell? ⟨B, 6, none⟩ = some (.slice z.p.a6 z.s.hosts.length z.p.c6) ∧ X.cell? ⟨B, 7, none⟩ = some (.slice z.A z.xs.length z.c) ∧ X.cell? ⟨B, 8, none⟩ = some (.slice z.q.a1 z.d.hosts.length z.q.c1) ∧ X.cell? ⟨B, 9, none⟩ = some (.slice z.q.a2 z.d.reps.length z.q.c2) ∧ X.cell? ⟨wr.heap.size, 1, none⟩ = some (.int .i64 x.limit))
          (first | exact HC.out v201 HKbv201.out | exact HC.out V HKbV.out | fail)
          (first
            | (go_at_call 105; (with_reducible refine (HCX.out V.drew HKbV.out.drew).mono ?_); rintro e v201 ⟨rfl, bb0⟩; have bb := below_join (Below.refl V.heap.size V).drew bb0 (Nat.le_refl _); have HKbv201 := Lib.hid (below_join HKbV.out bb HKbV.out.size); clear bb bb0)
            | fail)
        go_wp2_with (fail)
        go_at_call 29
        refine (c_coll z W0 g kb 8 fv m (k : Int) 0 v201 (HFV.out.on HKbv201.out) HML.out).mono ?_
        rintro e y ⟨rfl, fy, ky⟩
        have HY := Lib.hid fy
        have HKY := Lib.hid ((HKV.out.trans (HFV.out.kg HKbv201.out)).trans ky)
        clear fy ky
        go_wp2_with (fail)
        go_roundw
        case rel => exact ⟨k + 1, by omega, by go_num, Lib.hid (by rw [HSK.out]; exact HY.out), HKY⟩
        case measure => simp only [intOf]; omega
    · obtain rfl : k = z.s.brks.length := by omega
      go_wp2_with (fail)
      go_end0
      exact HQ.out _ (by have := hFr.out; unfold bnK; exact this) hKr.out
end Go.Proofs.YtbbadnlaelgmlaaGreat

namespace Go.Proofs.YtbbadnlaelgmlaaGreat
open Go.RowKit
set_option maxRecDepth 100000
set_option linter.unusedVariables false
set_option linter.unusedSimpArgs false

set_option maxHeartbeats 16000000 in
theorem c_findFeeds (z : Sn) (W0 : World) (g kb : Nat) (fv : Value) (l : List Bn) (ok : z.Ok) (hl : l.length ≤ 5000) (w : World) (h : Fnd z W0 g kb 9 fv l w) :
    Calls Tryz.prog 57 #[.agg #[.slice z.p.a1 z.s.feeds.length z.p.c1, .slice z.p.a2 z.s.brks.length z.p.c2, .slice z.p.a3 z.s.loops.length z.p.c3, .slice z.p.a4 z.s.racks.length z.p.c4, .int .i64 z.s.sw, .slice z.p.a5 z.s.links.length z.p.c5, .slice z.p.a6 z.s.hosts.length z.p.c6, .slice z.A z.xs.length z.c, .slice z.q.a1 z.d.hosts.length z.q.c1, .slice z.q.a2 z.d.reps.length z.q.c2], .func (.func 29) #[] #[.pointer (some ⟨g, 0, none⟩), .pointer (some ⟨kb, 0, none⟩)]] w fun e w' => e = .returned (.tuple #[]) ∧ Fnd z W0 g kb 9 fv (l ++ bnK z.s z.ss z.d 9) w' ∧ Kg g w w' := by
  obtain ⟨W, h1⟩ : ∃ W, W = w.alloc (.cells #[.slice z.p.a1 z.s.feeds.length z.p.c1, .slice z.p.a2 z.s.brks.length z.p.c2, .slice z.p.a3 z.s.loops.length z.p.c3, .slice z.p.a4 z.s.racks.length z.p.c4, .int .i64 z.s.sw, .slice z.p.a5 z.s.links.length z.p.c5, .slice z.p.a6 z.s.hosts.length z.p.c6, .slice z.A z.xs.length z.c, .slice z.q.a1 z.d.hosts.length z.q.c1, .slice z.q.a2 z.d.reps.length z.q.c2] 71) := ⟨_, rfl⟩
  have B1 : Below w.heap.size w W := by rw [h1]; exact (Below.refl _ _).alloc (Nat.le_refl _) _
  have L0 : Loc g W w.heap.size (.cells #[.slice z.p.a1 z.s.feeds.length z.p.c1, .slice z.p.a2 z.s.brks.length z.p.c2, .slice z.p.a3 z.s.loops.length z.p.c3, .slice z.p.a4 z.s.racks.length z.p.c4, .int .i64 z.s.sw, .slice z.p.a5 z.s.links.length z.p.c5, .slice z.p.a6 z.s.hosts.length z.p.c6, .slice z.A z.xs.length z.c, .slice z.q.a1 z.d.hosts.length z.q.c1, .slice z.q.a2 z.d.reps.length z.q.c2] 71 (0, 0)) := by rw [h1]; exact h.new _
  have HF := Lib.hid (h.on B1)
  have HKG := Lib.hid (h.kg B1)
  have HS := Lib.hid (fun (X : World) (hX : Kg g W X) => (scn_cells (L0.on hX) : X.cell? ⟨w.heap.size, 0, none⟩ = some (.slice z.p.a1 z.s.feeds.length z.p.c1) ∧ X.cell? ⟨w.heap.size, 1, none⟩ = some (.slice z.p.a2 z.s.brks.length z.p.c2) ∧ X.cell? ⟨w.heap.size, 2, none⟩ = some (.slice z.p.a3 z.s.loops.length z.p.c3) ∧ X.cell? ⟨w.heap.size, 3, none⟩ = some (.slice z.p.a4 z.s.racks.length z.p.c4) ∧ X.cell? ⟨w.heap.size, 4, none⟩ = some (.int .i64 z.s.sw) ∧ X.cell? ⟨w.heap.size, 5, none⟩ = some (.slice z.p.a5 z.s.links.length z.p.c5) ∧ X.cell? ⟨w.heap.size, 6, none⟩ = some (.slice z.p.a6 z.s.hosts.length z.p.c6) ∧ X.cell? ⟨w.heap.size, 7, none⟩ = some (.slice z.A z.xs.length z.c) ∧ X.cell? ⟨w.heap.size, 8, none⟩ = some (.slice z.q.a1 z.d.hosts.length z.q.c1) ∧ X.cell? ⟨w.heap.size, 9, none⟩ = some (.slice z.q.a2 z.d.reps.length z.q.c2)))
  have HK0 := Lib.hid (Kg.refl g W)
  obtain ⟨n1, n2, n3, n4, n5, n6, n7, n8⟩ := h.snx.bounds
  have HOK := Lib.hid ok
  have HL := Lib.hid hl
  have HPO : ∀ X, Fnd z W0 g kb 9 fv (l ++ bnK z.s z.ss z.d 9) X → Kg g W X → (Ending.returned (.tuple #[]) = .returned (.tuple #[]) ∧ Fnd z W0 g kb 9 fv (l ++ bnK z.s z.ss z.d 9) X ∧ Kg g w X) := fun X hx hk => ⟨rfl, hx, HKG.out.trans hk⟩
  obtain ⟨Q, hQ⟩ : ∃ Q : Ending → World → Prop, Q = fun e w' => e = .returned (.tuple #[]) ∧ Fnd z W0 g kb 9 fv (l ++ bnK z.s z.ss z.d 9) w' ∧ Kg g w w' := ⟨_, rfl⟩
  have HQ := Lib.hid (fun X hx hk => (by rw [hQ]; exact HPO X hx hk : Q (.returned (.tuple #[])) X))
  rw [← hQ]
  clear h B1 L0 hl HKG HPO hQ ok
  obtain ⟨f0, f1, f2, f3, f4, f5, f6, f7, f8, f9⟩ := HS.out W HK0.out
  rw [h1] at f0 f1 f2 f3 f4 f5 f6 f7 f8 f9
  generalize hBB : w.heap.size = B at *
  go_enter Tryz.func57, Tryz.ntmps57
  go_wp2_with (fail)
  rw [← h1]
  clear h1 f0 f1 f2 f3 f4 f5 f6 f7 f8 f9
  have HNN := Lib.hid (few_feeds HOK.out)
  have hnn := HNN.out
  go_loopw [4, 10] (fun hv i wr => ∃ k : Nat, k ≤ z.s.feeds.length ∧ i = .int .i64 (k : Int) ∧ Hid (Fnd z W0 g kb 9 fv (l ++ bk1 9 (bnFed z.s z.ss z.d) k) wr) ∧ Hid (Kg g W wr)) (fun _ i _ => z.s.feeds.length - (intOf i).toNat)
  case atStart => exact ⟨0, Nat.zero_le _, rfl, Lib.hid (by rw [bk1_zero, List.append_nil]; exact HF.out), HK0⟩
  case round =>
    obtain ⟨k, hk, rfl, hFr, hKr⟩ := hrel
    have hki : ((k : Nat) : Int).toNat = k := by omega
    by_cases hlt : k < z.s.feeds.length
    · obtain ⟨x, hx⟩ : ∃ x, z.s.feeds[k]? = some x := ⟨_, List.getElem?_eq_getElem hlt⟩
      have hki2 : (k : Int) < (z.s.feeds.length : Int) := by omega
      obtain ⟨m, hm⟩ : ∃ m, l ++ bk1 9 (bnFed z.s z.ss z.d) k = m := ⟨_, rfl⟩
      have HSU := Lib.hid (show l ++ bk1 9 (bnFed z.s z.ss z.d) (k + 1) = m ++ bk0 9 k ((bnFed z.s z.ss z.d) k) by rw [bk1_succ, ← List.append_assoc, hm])
      have HML := Lib.hid (show m.length ≤ 10000 by rw [← hm, List.length_append]; have := bk1_len 9 (bnFed z.s z.ss z.d) k; have := HL.out; omega)
      rw [hm] at hFr
      clear hm
      have hsn := hFr.out.snx
      obtain ⟨pb, po, e6, hpb, x0⟩ := fd_at hsn hx
      obtain ⟨u, hu⟩ : ∃ u, loadN z.s z.ss z.d (isFeed z.s (k : Int)) = u := ⟨_, rfl⟩
      have HU := Lib.hid hu
      clear hu
      have HX := Lib.hid hx
      clear hx
      obtain ⟨V, hV⟩ : ∃ X, X = wr.alloc (.cells #[.int .i64 x] 81) := ⟨_, rfl⟩
      have bV : Below wr.heap.size wr V := by rw [hV]; exact (Below.refl _ _).alloc (Nat.le_refl _) _
      have LV : Loc g V wr.heap.size (.cells #[.int .i64 x] 81 (0, 0)) := by rw [hV]; exact hFr.out.new _
      have HFV := Lib.hid (hFr.out.on bV)
      have HKV := Lib.hid (hKr.out.trans (hFr.out.kg bV))
      have HC := Lib.hid (fun (X : World) (hX : Below V.heap.size V X) => (by
        have hk2 := HFV.out.kg hX
        have hbx := bV.trans (hX.mono bV.size)
        obtain ⟨f0, f1, f2, f3, f4, f5, f6, f7, f8, f9⟩ := HS.out X (HKV.out.trans hk2)
        rw [e6] at f0
        exact ⟨f0, f1, f2, f3, f4, f5, f6, f7, f8, f9, (LV.on hk2).cell rfl⟩ : X.cell? ⟨B, 0, none⟩ = some (.slice (some ⟨pb, po, none⟩) z.s.feeds.length z.p.c1) ∧ X.cell? ⟨B, 1, none⟩ = some (.slice z.p.a2 z.s.brks.length z.p.c2) ∧ X.cell? ⟨B, 2, none⟩ = some (.slice z.p.a3 z.s.loops.length z.p.c3) ∧ X.cell? ⟨B, 3, none⟩ = some (.slice z.p.a4 z.s.racks.length z.p.c4) ∧ X.cell? ⟨B, 4, none⟩ = some (.int .i64 z.s.sw) ∧ X.cell? ⟨B, 5, none⟩ = some (.slice z.p.a5 z.s.links.length z.p.c5) ∧ X.cell? ⟨B, 6, none⟩ = some (.slice z.p.a6 z.s.hosts.length z.p.c6) ∧ X.cell? ⟨B, 7, none⟩ = some (.slice z.A z.xs.length z.c) ∧ X.cell? ⟨B, 8, none⟩ = some (.slice z.q.a1 z.d.hosts.length z.q.c1) ∧ X.cell? ⟨B, 9, none⟩ = some (.slice z.q.a2 z.d.reps.length z.q.c2) ∧ X.cell? ⟨wr.heap.size, 0, none⟩ = some (.int .i64 x)))
      have HSN := Lib.hid (fun (X : World) (hX : Below V.heap.size V X) => (HFV.out.on hX).snx)
      have HKbV := Lib.hid (Below.refl V.heap.size V)
      have HCX := Lib.hid (fun (X : World) (hX : Below V.heap.size V X) => c_pwOfFeed z true ⟨fun _ => HOK.out, fun _ => rfl⟩ (k : Int) X (HSN.out _ hX) u HU.out)
      rw [e6] at HCX
      rcases hd : decide (x < u) with _ | _
      · have HD := Lib.hid hd
        have HSK := Lib.hid (show l ++ bk1 9 (bnFed z.s z.ss z.d) (k + 1) = m ++ [] by rw [HSU.out, show (bnFed z.s z.ss z.d) k = false from (by unfold bnFed; rw [HX.out, HU.out]; exact HD.out)]; rfl)
        obtain ⟨f0, f1, f2, f3, f4, f5, f6, f7, f8, f9, c0⟩ := HC.out V HKbV.out
        rw [e6]
        rw [hV] at f0 f1 f2 f3 f4 f5 f6 f7 f8 f9 c0
        go_wp2_with (fail)
        rw [← hV]
        clear hV f0 f1 f2 f3 f4 f5 f6 f7 f8 f9 c0
        go_region_held3 (fun X => X.cell? ⟨B, 0, none⟩ = some (.slice (some ⟨pb, po, none⟩) z.s.feeds.length z.p.c1) ∧ X.cell? ⟨B, 1, none⟩ = some (.slice z.p.a2 z.s.brks.length z.p.c2) ∧ X.cell? ⟨B, 2, none⟩ = some (.slice z.p.a3 z.s.loops.length z.p.c3) ∧ X.cell? ⟨B, 3, none⟩ = some (.slice z.p.a4 z.s.racks.length z.p.c4) ∧ X.cell? ⟨B, 4, none⟩ = some (.int .i64 z.s.sw) ∧ X.cell? ⟨B, 5, none⟩ = some (.slice z.p.a5 z.s.links.length z.p.c5) ∧ X.cell? ⟨B, 6, none⟩ = some (.slice z.p.a6 z.s.hosts.length z.p.c6) ∧ X.cell? ⟨B, 7, none⟩ = some (.slice z.A z.xs.length z.c) ∧ X.cell? ⟨B, 8, none⟩ = some (.slice z.q.a1 z.d.hosts.length z.q.c1) ∧ X.cell? ⟨B, 9, none⟩ = some (.slice z.q.a2 z.d.reps.length z.q.c2) ∧ X.cell? ⟨wr.heap.size, 0, none⟩ = some (.int .i64 x))
          (first | exact HC.out v201 HKbv201.out | exact HC.out V HKbV.out | fail)
          (first
            | (go_at_call 106; (with_reducible refine (HCX.out V.drew HKbV.out.drew).mono ?_); rintro e v201 ⟨rfl, bb0⟩; have bb := below_join (Below.refl V.heap.size V).drew bb0 (Nat.le_refl _); have HKbv201 := Lib.hid (below_join HKbV.out bb HKbV.out.size); clear bb bb0)
            | fail)
        go_wp2_with (fail)
        go_roundw
        case rel => exact ⟨k + 1, by omega, by go_num, Lib.hid (by rw [HSK.out, List.append_nil]; exact HFV.out.on HKbv201.out), Lib.hid (HKV.out.trans (HFV.out.kg HKbv201.out))⟩
        case measure => simp only [intOf]; omega
      · have HD := Lib.hid hd
        have HSK := Lib.hid (show l ++ bk1 9 (bnFed z.s z.ss z.d) (k + 1) = m ++ [⟨9, (k : Int), 0⟩] by rw [HSU.out, show (bnFed z.s z.ss z.d) k = true from (by unfold bnFed; rw [HX.out, HU.out]; exact HD.out)]; rfl)
        obtain ⟨f0, f1, f2, f3, f4, f5, f6, f7, f8, f9, c0⟩ := HC.out V HKbV.out
        rw [e6]
        rw [hV] at f0 f1 f2 f3 f4 f5 f6 f7 f8 f9 c0
        go_wp2_with (fail)
        rw [← hV]
        clear hV f0 f1 f2 f3 f4 f5 f6 f7 f8 f9 c0
        go_region_held3 (fun X => X.cell? ⟨B, 0, none⟩ = some (.slice (some ⟨pb, po, none⟩) z.s.feeds.length z.p.c1) ∧ X.cell? ⟨B, 1, none⟩ = some (.slice z.p.a2 z.s.brks.length z.p.c2) ∧ X.cell? ⟨B, 2, none⟩ = some (.slice z.p.a3 z.s.loops.length z.p.c3) ∧ X.cell? ⟨B, 3, none⟩ = some (.slice z.p.a4 z.s.racks.length z.p.c4) ∧ X.cell? ⟨B, 4, none⟩ = some (.int .i64 z.s.sw) ∧ X.cell? ⟨B, 5, none⟩ = some (.slice z.p.a5 z.s.links.length z.p.c5) ∧ X.cell? ⟨B, 6, none⟩ = some (.slice z.p.a6 z.s.hosts.length z.p.c6) ∧ X.cell? ⟨B, 7, none⟩ = some (.slice z.A z.xs.length z.c) ∧ X.cell? ⟨B, 8, none⟩ = some (.slice z.q.a1 z.d.hosts.length z.q.c1) ∧ X.cell? ⟨B, 9, none⟩ = some (.slice z.q.a2 z.d.reps.length z.q.c2) ∧ X.cell? ⟨wr.heap.size, 0, none⟩ = some (.int .i64 x))
          (first | exact HC.out v201 HKbv201.out | exact HC.out V HKbV.out | fail)
          (first
            | (go_at_call 106; (with_reducible refine (HCX.out V.drew HKbV.out.drew).mono ?_); rintro e v201 ⟨rfl, bb0⟩; have bb := below_join (Below.refl V.heap.size V).drew bb0 (Nat.le_refl _); have HKbv201 := Lib.hid (below_join HKbV.out bb HKbV.out.size); clear bb bb0)
            | fail)
        go_wp2_with (fail)
        go_at_call 29
        refine (c_coll z W0 g kb 9 fv m (k : Int) 0 v201 (HFV.out.on HKbv201.out) HML.out).mono ?_
        rintro e y ⟨rfl, fy, ky⟩
        have HY := Lib.hid fy
        have HKY := Lib.hid ((HKV.out.trans (HFV.out.kg HKbv201.out)).trans ky)
        clear fy ky
        go_wp2_with (fail)
        go_roundw
        case rel => exact ⟨k + 1, by omega, by go_num, Lib.hid (by rw [HSK.out]; exact HY.out), HKY⟩
        case measure => simp only [intOf]; omega
    · obtain rfl : k = z.s.feeds.length := by omega
      go_wp2_with (fail)
      go_end0
      exact HQ.out _ (by have := hFr.out; unfold bnK; exact this) hKr.out
end Go.Proofs.YtbbadnlaelgmlaaGreat

namespace Go.Proofs.YtbbadnlaelgmlaaGreat
open Go.RowKit
set_option maxRecDepth 100000
set_option linter.unusedVariables false
set_option linter.unusedSimpArgs false

set_option maxHeartbeats 16000000 in
theorem c_findLoops (z : Sn) (W0 : World) (g kb : Nat) (fv : Value) (l : List Bn) (ok : z.Ok) (hl : l.length ≤ 5000) (w : World) (h : Fnd z W0 g kb 10 fv l w) :
    Calls Tryz.prog 58 #[.agg #[.slice z.p.a1 z.s.feeds.length z.p.c1, .slice z.p.a2 z.s.brks.length z.p.c2, .slice z.p.a3 z.s.loops.length z.p.c3, .slice z.p.a4 z.s.racks.length z.p.c4, .int .i64 z.s.sw, .slice z.p.a5 z.s.links.length z.p.c5, .slice z.p.a6 z.s.hosts.length z.p.c6, .slice z.A z.xs.length z.c, .slice z.q.a1 z.d.hosts.length z.q.c1, .slice z.q.a2 z.d.reps.length z.q.c2], .func (.func 29) #[] #[.pointer (some ⟨g, 0, none⟩), .pointer (some ⟨kb, 0, none⟩)]] w fun e w' => e = .returned (.tuple #[]) ∧ Fnd z W0 g kb 10 fv (l ++ bnK z.s z.ss z.d 10) w' ∧ Kg g w w' := by
  obtain ⟨W, h1⟩ : ∃ W, W = w.alloc (.cells #[.slice z.p.a1 z.s.feeds.length z.p.c1, .slice z.p.a2 z.s.brks.length z.p.c2, .slice z.p.a3 z.s.loops.length z.p.c3, .slice z.p.a4 z.s.racks.length z.p.c4, .int .i64 z.s.sw, .slice z.p.a5 z.s.links.length z.p.c5, .slice z.p.a6 z.s.hosts.length z.p.c6, .slice z.A z.xs.length z.c, .slice z.q.a1 z.d.hosts.length z.q.c1, .slice z.q.a2 z.d.reps.length z.q.c2] 71) := ⟨_, rfl⟩
  have B1 : Below w.heap.size w W := by rw [h1]; exact (Below.refl _ _).alloc (Nat.le_refl _) _
  have L0 : Loc g W w.heap.size (.cells #[.slice z.p.a1 z.s.feeds.length z.p.c1, .slice z.p.a2 z.s.brks.length z.p.c2, .slice z.p.a3 z.s.loops.length z.p.c3, .slice z.p.a4 z.s.racks.length z.p.c4, .int .i64 z.s.sw, .slice z.p.a5 z.s.links.length z.p.c5, .slice z.p.a6 z.s.hosts.length z.p.c6, .slice z.A z.xs.length z.c, .slice z.q.a1 z.d.hosts.length z.q.c1, .slice z.q.a2 z.d.reps.length z.q.c2] 71 (0, 0)) := by rw [h1]; exact h.new _
  have HF := Lib.hid (h.on B1)
  have HKG := Lib.hid (h.kg B1)
  have HS := Lib.hid (fun (X : World) (hX : Kg g W X) => (scn_cells (L0.on hX) : X.cell? ⟨w.heap.size, 0, none⟩ = some (.slice z.p.a1 z.s.feeds.length z.p.c1) ∧ X.cell? ⟨w.heap.size, 1, none⟩ = some (.slice z.p.a2 z.s.brks.length z.p.c2) ∧ X.cell? ⟨w.heap.size, 2, none⟩ = some (.slice z.p.a3 z.s.loops.length z.p.c3) ∧ X.cell? ⟨w.heap.size, 3, none⟩ = some (.slice z.p.a4 z.s.racks.length z.p.c4) ∧ X.cell? ⟨w.heap.size, 4, none⟩ = some (.int .i64 z.s.sw) ∧ X.cell? ⟨w.heap.size, 5, none⟩ = some (.slice z.p.a5 z.s.links.length z.p.c5) ∧ X.cell? ⟨w.heap.size, 6, none⟩ = some (.slice z.p.a6 z.s.hosts.length z.p.c6) ∧ X.cell? ⟨w.heap.size, 7, none⟩ = some (.slice z.A z.xs.length z.c) ∧ X.cell? ⟨w.heap.size, 8, none⟩ = some (.slice z.q.a1 z.d.hosts.length z.q.c1) ∧ X.cell? ⟨w.heap.size, 9, none⟩ = some (.slice z.q.a2 z.d.reps.length z.q.c2)))
  have HK0 := Lib.hid (Kg.refl g W)
  obtain ⟨n1, n2, n3, n4, n5, n6, n7, n8⟩ := h.snx.bounds
  have HOK := Lib.hid ok
  have HL := Lib.hid hl
  have HPO : ∀ X, Fnd z W0 g kb 10 fv (l ++ bnK z.s z.ss z.d 10) X → Kg g W X → (Ending.returned (.tuple #[]) = .returned (.tuple #[]) ∧ Fnd z W0 g kb 10 fv (l ++ bnK z.s z.ss z.d 10) X ∧ Kg g w X) := fun X hx hk => ⟨rfl, hx, HKG.out.trans hk⟩
  obtain ⟨Q, hQ⟩ : ∃ Q : Ending → World → Prop, Q = fun e w' => e = .returned (.tuple #[]) ∧ Fnd z W0 g kb 10 fv (l ++ bnK z.s z.ss z.d 10) w' ∧ Kg g w w' := ⟨_, rfl⟩
  have HQ := Lib.hid (fun X hx hk => (by rw [hQ]; exact HPO X hx hk : Q (.returned (.tuple #[])) X))
  rw [← hQ]
  clear h B1 L0 hl HKG HPO hQ ok
  obtain ⟨f0, f1, f2, f3, f4, f5, f6, f7, f8, f9⟩ := HS.out W HK0.out
  rw [h1] at f0 f1 f2 f3 f4 f5 f6 f7 f8 f9
  generalize hBB : w.heap.size = B at *
  go_enter Tryz.func58, Tryz.ntmps58
  go_wp2_with (fail)
  rw [← h1]
  clear h1 f0 f1 f2 f3 f4 f5 f6 f7 f8 f9
  have HNN := Lib.hid (few_loops HOK.out)
  have hnn := HNN.out
  go_loopw [4, 10] (fun hv i wr => ∃ k : Nat, k ≤ z.s.loops.length ∧ i = .int .i64 (k : Int) ∧ Hid (Fnd z W0 g kb 10 fv (l ++ bk1 10 (bnLop z.s z.ss z.d) k) wr) ∧ Hid (Kg g W wr)) (fun _ i _ => z.s.loops.length - (intOf i).toNat)
  case atStart => exact ⟨0, Nat.zero_le _, rfl, Lib.hid (by rw [bk1_zero, List.append_nil]; exact HF.out), HK0⟩
  case round =>
    obtain ⟨k, hk, rfl, hFr, hKr⟩ := hrel
    have hki : ((k : Nat) : Int).toNat = k := by omega
    by_cases hlt : k < z.s.loops.length
    · obtain ⟨x, hx⟩ : ∃ x, z.s.loops[k]? = some x := ⟨_, List.getElem?_eq_getElem hlt⟩
      have hki2 : (k : Int) < (z.s.loops.length : Int) := by omega
      obtain ⟨m, hm⟩ : ∃ m, l ++ bk1 10 (bnLop z.s z.ss z.d) k = m := ⟨_, rfl⟩
      have HSU := Lib.hid (show l ++ bk1 10 (bnLop z.s z.ss z.d) (k + 1) = m ++ bk0 10 k ((bnLop z.s z.ss z.d) k) by rw [bk1_succ, ← List.append_assoc, hm])
      have HML := Lib.hid (show m.length ≤ 10000 by rw [← hm, List.length_append]; have := bk1_len 10 (bnLop z.s z.ss z.d) k; have := HL.out; omega)
      rw [hm] at hFr
      clear hm
      have hsn := hFr.out.snx
      obtain ⟨pb, po, e6, hpb, x0, x1⟩ := lp_at' hsn hx
      obtain ⟨u, hu⟩ : ∃ u, loadN z.s z.ss z.d (isLoop z.s (k : Int)) = u := ⟨_, rfl⟩
      have HU := Lib.hid hu
      clear hu
      have HX := Lib.hid hx
      clear hx
      obtain ⟨V, hV⟩ : ∃ X, X = wr.alloc (.cells #[.int .i64 x.carry, .int .i64 x.delay] 85) := ⟨_, rfl⟩
      have bV : Below wr.heap.size wr V := by rw [hV]; exact (Below.refl _ _).alloc (Nat.le_refl _) _
      have LV : Loc g V wr.heap.size (.cells #[.int .i64 x.carry, .int .i64 x.delay] 85 (0, 0)) := by rw [hV]; exact hFr.out.new _
      have HFV := Lib.hid (hFr.out.on bV)
      have HKV := Lib.hid (hKr.out.trans (hFr.out.kg bV))
      have HC := Lib.hid (fun (X : World) (hX : Below V.heap.size V X) => (by
        have hk2 := HFV.out.kg hX
        have hbx := bV.trans (hX.mono bV.size)
        obtain ⟨f0, f1, f2, f3, f4, f5, f6, f7, f8, f9⟩ := HS.out X (HKV.out.trans hk2)
        rw [e6] at f2
        exact ⟨f0, f1, f2, f3, f4, f5, f6, f7, f8, f9, (LV.on hk2).cell rfl⟩ : X.cell? ⟨B, 0, none⟩ = some (.slice z.p.a1 z.s.feeds.length z.p.c1) ∧ X.cell? ⟨B, 1, none⟩ = some (.slice z.p.a2 z.s.brks.length z.p.c2) ∧ X.cell? ⟨B, 2, none⟩ = some (.slice (some ⟨pb, po, none⟩) z.s.loops.length z.p.c3) ∧ X.cell? ⟨B, 3, none⟩ = some (.slice z.p.a4 z.s.racks.length z.p.c4) ∧ X.cell? ⟨B, 4, none⟩ = some (.int .i64 z.s.sw) ∧ X.cell? ⟨B, 5, none⟩ = some (.slice z.p.a5 z.s.links.length z.p.c5) ∧ X.cell? ⟨B, 6, none⟩ = some (.slice z.p.a6 z.s.hosts.length z.p.c6) ∧ X.cell? ⟨B, 7, none⟩ = some (.slice z.A z.xs.length z.c) ∧ X.cell? ⟨B, 8, none⟩ = some (.slice z.q.a1 z.d.hosts.length z.q.c1) ∧ X.cell? ⟨B, 9, none⟩ = some (.slice z.q.a2 z.d.reps.length z.q.c2) ∧ X.cell? ⟨wr.heap.size, 0, none⟩ = some (.int .i64 x.carry)))
      have HSN := Lib.hid (fun (X : World) (hX : Below V.heap.size V X) => (HFV.out.on hX).snx)
      have HKbV := Lib.hid (Below.refl V.heap.size V)
      have HCX := Lib.hid (fun (X : World) (hX : Below V.heap.size V X) => c_coHeat z true ⟨fun _ => HOK.out, fun _ => rfl⟩ (k : Int) X (HSN.out _ hX) u (show heatV z true (k : Int) = u from HU.out))
      rw [e6] at HCX
      rcases hd : decide (x.carry < u) with _ | _
      · have HD := Lib.hid hd
        have HSK := Lib.hid (show l ++ bk1 10 (bnLop z.s z.ss z.d) (k + 1) = m ++ [] by rw [HSU.out, show (bnLop z.s z.ss z.d) k = false from (by unfold bnLop; rw [HX.out, HU.out]; exact HD.out)]; rfl)
        obtain ⟨f0, f1, f2, f3, f4, f5, f6, f7, f8, f9, c0⟩ := HC.out V HKbV.out
        rw [e6]
        rw [hV] at f0 f1 f2 f3 f4 f5 f6 f7 f8 f9 c0
        go_wp2_with (fail)
        rw [← hV]
        clear hV f0 f1 f2 f3 f4 f5 f6 f7 f8 f9 c0
        go_region_held3 (fun X => X.cell? ⟨B, 0, none⟩ = some (.slice z.p.a1 z.s.feeds.length z.p.c1) ∧ X.cell? ⟨B, 1, none⟩ = some (.slice z.p.a2 z.s.brks.length z.p.c2) ∧ X.cell? ⟨B, 2, none⟩ = some (.slice (some ⟨pb, po, none⟩) z.s.loops.length z.p.c3) ∧ X.cell? ⟨B, 3, none⟩ = some (.slice z.p.a4 z.s.racks.length z.p.c4) ∧ X.cell? ⟨B, 4, none⟩ = some (.int .i64 z.s.sw) ∧ X.cell? ⟨B, 5, none⟩ = some (.slice z.p.a5 z.s.links.length z.p.c5) ∧ X.cell? ⟨B, 6, none⟩ = some (.slice z.p.a6 z.s.hosts.length z.p.c6) ∧ X.cell? ⟨B, 7, none⟩ = some (.slice z.A z.xs.length z.c) ∧ X.cell? ⟨B, 8, none⟩ = some (.slice z.q.a1 z.d.hosts.length z.q.c1) ∧ X.cell? ⟨B, 9, none⟩ = some (.slice z.q.a2 z.d.reps.length z.q.c2) ∧ X.cell? ⟨wr.heap.size, 0, none⟩ = some (.int .i64 x.carry))
          (first | exact HC.out v201 HKbv201.out | exact HC.out V HKbV.out | fail)
          (first
            | (go_at_call 107; (with_reducible refine (HCX.out V.drew HKbV.out.drew).mono ?_); rintro e v201 ⟨rfl, bb0⟩; have bb := below_join (Below.refl V.heap.size V).drew bb0 (Nat.le_refl _); have HKbv201 := Lib.hid (below_join HKbV.out bb HKbV.out.size); clear bb bb0)
            | fail)
        go_wp2_with (fail)
        go_roundw
        case rel => exact ⟨k + 1, by omega, by go_num, Lib.hid (by rw [HSK.out, List.append_nil]; exact HFV.out.on HKbv201.out), Lib.hid (HKV.out.trans (HFV.out.kg HKbv201.out))⟩
        case measure => simp only [intOf]; omega
      · have HD := Lib.hid hd
        have HSK := Lib.hid (show l ++ bk1 10 (bnLop z.s z.ss z.d) (k + 1) = m ++ [⟨10, (k : Int), 0⟩] by rw [HSU.out, show (bnLop z.s z.ss z.d) k = true from (by unfold bnLop; rw [HX.out, HU.out]; exact HD.out)]; rfl)
        obtain ⟨f0, f1, f2, f3, f4, f5, f6, f7, f8, f9, c0⟩ := HC.out V HKbV.out
        rw [e6]
        rw [hV] at f0 f1 f2 f3 f4 f5 f6 f7 f8 f9 c0
        go_wp2_with (fail)
        rw [← hV]
        clear hV f0 f1 f2 f3 f4 f5 f6 f7 f8 f9 c0
        go_region_held3 (fun X => X.cell? ⟨B, 0, none⟩ = some (.slice z.p.a1 z.s.feeds.length z.p.c1) ∧ X.cell? ⟨B, 1, none⟩ = some (.slice z.p.a2 z.s.brks.length z.p.c2) ∧ X.cell? ⟨B, 2, none⟩ = some (.slice (some ⟨pb, po, none⟩) z.s.loops.length z.p.c3) ∧ X.cell? ⟨B, 3, none⟩ = some (.slice z.p.a4 z.s.racks.length z.p.c4) ∧ X.cell? ⟨B, 4, none⟩ = some (.int .i64 z.s.sw) ∧ X.cell? ⟨B, 5, none⟩ = some (.slice z.p.a5 z.s.links.length z.p.c5) ∧ X.cell? ⟨B, 6, none⟩ = some (.slice z.p.a6 z.s.hosts.length z.p.c6) ∧ X.cell? ⟨B, 7, none⟩ = some (.slice z.A z.xs.length z.c) ∧ X.cell? ⟨B, 8, none⟩ = some (.slice z.q.a1 z.d.hosts.length z.q.c1) ∧ X.cell? ⟨B, 9, none⟩ = some (.slice z.q.a2 z.d.reps.length z.q.c2) ∧ X.cell? ⟨wr.heap.size, 0, none⟩ = some (.int .i64 x.carry))
          (first | exact HC.out v201 HKbv201.out | exact HC.out V HKbV.out | fail)
          (first
            | (go_at_call 107; (with_reducible refine (HCX.out V.drew HKbV.out.drew).mono ?_); rintro e v201 ⟨rfl, bb0⟩; have bb := below_join (Below.refl V.heap.size V).drew bb0 (Nat.le_refl _); have HKbv201 := Lib.hid (below_join HKbV.out bb HKbV.out.size); clear bb bb0)
            | fail)
        go_wp2_with (fail)
        go_at_call 29
        refine (c_coll z W0 g kb 10 fv m (k : Int) 0 v201 (HFV.out.on HKbv201.out) HML.out).mono ?_
        rintro e y ⟨rfl, fy, ky⟩
        have HY := Lib.hid fy
        have HKY := Lib.hid ((HKV.out.trans (HFV.out.kg HKbv201.out)).trans ky)
        clear fy ky
        go_wp2_with (fail)
        go_roundw
        case rel => exact ⟨k + 1, by omega, by go_num, Lib.hid (by rw [HSK.out]; exact HY.out), HKY⟩
        case measure => simp only [intOf]; omega
    · obtain rfl : k = z.s.loops.length := by omega
      go_wp2_with (fail)
      go_end0
      exact HQ.out _ (by have := hFr.out; unfold bnK; exact this) hKr.out
end Go.Proofs.YtbbadnlaelgmlaaGreat

namespace Go.Proofs.YtbbadnlaelgmlaaGreat
open Go.RowKit
set_option maxRecDepth 100000
set_option linter.unusedVariables false
set_option linter.unusedSimpArgs false

set_option maxHeartbeats 4000000 in
theorem c_IFP (p : Rep → Bool) (hb : Nat) (A : Option Addr) (c : Nat) (l : List Rep) (w : World) (h : Rv 2 repV w A c l) (hcl : ∀ X, Below w.heap.size w X → ∀ (x : Rep) (r : Bool), x ∈ l → p x = r → Calls Tryz.prog 94 #[.agg #[.int .i64 x.svc, .int .i64 x.host], .pointer (some ⟨hb, 0, none⟩)] X fun e w' => e = .returned (.bool r) ∧ Below X.heap.size X w') (y : Int) (hy : fidx p l = y) :
    Calls Tryz.prog 91 #[.slice A l.length c, .func (.func 94) #[] #[.pointer (some ⟨hb, 0, none⟩)]] w fun e w' => e = .returned (.int .i64 y) ∧ Below w.heap.size w w' := by
  have H := Lib.hid h
  have HY := Lib.hid hy
  have HCL := Lib.hid hcl
  have hc1 := h.1
  have hc2 := h.2.1
  unfold maxLen at hc2
  clear h hy hcl
  go_enter Tryz.func91, Tryz.ntmps91
  go_wp2_with (fail)
  go_loopw [8] (fun i wr => ∃ k : Nat, k ≤ l.length ∧ i = .int .i64 (k : Int) ∧ Hid (∀ i y, i < k → l[i]? = some y → p y = false) ∧ Hid (Below w.heap.size w wr)) (fun i _ => l.length - (intOf i).toNat)
  case atStart => exact ⟨0, Nat.zero_le _, rfl, Lib.hid (fun i y hi => absurd hi (by omega)), Lib.hid (Below.refl _ _)⟩
  case round =>
    obtain ⟨k, hk, rfl, hun, hB⟩ := hrel
    by_cases hlt : k < l.length
    · obtain ⟨x, hx⟩ : ∃ x, l[k]? = some x := ⟨_, List.getElem?_eq_getElem hlt⟩
      have HK := H.out
      obtain ⟨pb, po, rfl, -, -⟩ := HK.at_ hx
      obtain ⟨y0, y1⟩ := rep_at (HK.on hB.out (Nat.le_refl _)) hx
      have HX := Lib.hid hx
      have hki : ((k : Nat) : Int).toNat = k := by omega
      have hlt' : (k : Int) < ((l.length : Nat) : Int) := by omega
      have HC := Lib.hid (fun (r : Bool) (hr : p x = r) => HCL.out wr hB.out x r (List.mem_of_getElem? hx) hr)
      clear hx HK
      rcases hp : p x with _ | _
      · have HP := Lib.hid hp
        clear hp
        go_wp2_with (go_at_call 94; refine (HC.out _ HP.out).mono ?_; rintro e w1 ⟨rfl, b1⟩; have HB1 := Lib.hid (below_join hB.out b1 hB.out.size); clear b1 y0 y1)
        go_roundw
        case rel => exact ⟨k + 1, by omega, by go_num, Lib.hid (fun i y hi hy => by
          rcases Nat.lt_or_ge i k with h | h
          · exact hun.out i y h hy
          · obtain rfl : i = k := by omega
            have := HX.out
            rw [hy] at this
            injection this with this
            subst this
            exact HP.out), HB1⟩
        case measure => simp only [intOf]; omega
      · have HKY := Lib.hid (show (k : Int) = y by rw [← HY.out]; exact (fidx_at _ l k _ hun.out HX.out hp).symm)
        have HP := Lib.hid hp
        clear hp
        go_wp2_with (go_at_call 94; refine (HC.out _ HP.out).mono ?_; rintro e w1 ⟨rfl, b1⟩; have HB1 := Lib.hid (below_join hB.out b1 hB.out.size); clear b1 y0 y1)
        go_ret
        exact ⟨(show Ending.returned (.int .i64 (k : Int)) = .returned (.int .i64 y) by rw [HKY.out]), HB1.out⟩
    · obtain rfl : k = l.length := by omega
      have HKY := Lib.hid (show (-1 : Int) = y by rw [← HY.out, fidx_none _ l (fun i y hy => hun.out i y (List.getElem?_eq_some_iff.1 hy).1 hy)])
      go_wp2_with (fail)
      go_ret
      exact ⟨(show Ending.returned (.int .i64 (-1)) = .returned (.int .i64 y) by rw [HKY.out]), hB.out⟩
set_option maxHeartbeats 4000000 in
theorem c_CFP (p : Rep → Bool) (hb : Nat) (A : Option Addr) (c : Nat) (l : List Rep) (w : World) (h : Rv 2 repV w A c l) (hcl : ∀ X, Below w.heap.size w X → ∀ (x : Rep) (r : Bool), x ∈ l → p x = r → Calls Tryz.prog 94 #[.agg #[.int .i64 x.svc, .int .i64 x.host], .pointer (some ⟨hb, 0, none⟩)] X fun e w' => e = .returned (.bool r) ∧ Below X.heap.size X w') (r : Bool) (hr : l.any p = r) :
    Calls Tryz.prog 47 #[.slice A l.length c, .func (.func 94) #[] #[.pointer (some ⟨hb, 0, none⟩)]] w fun e w' => e = .returned (.bool r) ∧ Below w.heap.size w w' := by
  obtain ⟨y, hy⟩ : ∃ y, fidx p l = y := ⟨_, rfl⟩
  have HC := Lib.hid (c_IFP p hb A c l w h hcl y hy)
  have HR := Lib.hid (show decide (0 ≤ y) = r by rw [← hy, fidx_any, hr])
  clear hy hr h hcl
  go_enter Tryz.func47, Tryz.ntmps47
  go_wp2_with (go_at_call 91; refine HC.out.mono ?_; rintro e w1 ⟨rfl, b1⟩; have HB1 := Lib.hid b1; clear b1)
  go_ret
  exact ⟨(show Ending.returned (.bool (decide (0 ≤ y))) = .returned (.bool r) by rw [HR.out]), HB1.out⟩
set_option maxHeartbeats 4000000 in
theorem c_IFA (p : Int → Bool) (sb ob : Nat) (A : Option Addr) (c : Nat) (l : List Int) (w : World) (h : Rw 1 inF w A c l) (hcl : ∀ X, Below w.heap.size w X → ∀ (x : Int) (r : Bool), x ∈ l → p x = r → Calls Tryz.prog 99 #[.int .i64 x, .pointer (some ⟨sb, 0, none⟩), .pointer (some ⟨ob, 0, none⟩)] X fun e w' => e = .returned (.bool r) ∧ Below X.heap.size X w') (y : Int) (hy : fidx p l = y) :
    Calls Tryz.prog 129 #[.slice A l.length c, .func (.func 99) #[] #[.pointer (some ⟨sb, 0, none⟩), .pointer (some ⟨ob, 0, none⟩)]] w fun e w' => e = .returned (.int .i64 y) ∧ Below w.heap.size w w' := by
  have H := Lib.hid h
  have HY := Lib.hid hy
  have HCL := Lib.hid hcl
  have hc1 := h.1
  have hc2 := h.2.1
  unfold maxLen at hc2
  clear h hy hcl
  go_enter Tryz.func129, Tryz.ntmps129
  go_wp2_with (fail)
  go_loopw [8] (fun i wr => ∃ k : Nat, k ≤ l.length ∧ i = .int .i64 (k : Int) ∧ Hid (∀ i y, i < k → l[i]? = some y → p y = false) ∧ Hid (Below w.heap.size w wr)) (fun i _ => l.length - (intOf i).toNat)
  case atStart => exact ⟨0, Nat.zero_le _, rfl, Lib.hid (fun i y hi => absurd hi (by omega)), Lib.hid (Below.refl _ _)⟩
  case round =>
    obtain ⟨k, hk, rfl, hun, hB⟩ := hrel
    by_cases hlt : k < l.length
    · obtain ⟨x, hx⟩ : ∃ x, l[k]? = some x := ⟨_, List.getElem?_eq_getElem hlt⟩
      have HK := H.out
      obtain ⟨pb, po, rfl, -, -⟩ := HK.at_ hx
      have p1 := inRw (HK.on hB.out (Nat.le_refl _)) hx
      have HX := Lib.hid hx
      have hki : ((k : Nat) : Int).toNat = k := by omega
      have hlt' : (k : Int) < ((l.length : Nat) : Int) := by omega
      have HC := Lib.hid (fun (r : Bool) (hr : p x = r) => HCL.out wr hB.out x r (List.mem_of_getElem? hx) hr)
      clear hx HK
      rcases hp : p x with _ | _
      · have HP := Lib.hid hp
        clear hp
        go_wp2_with (go_at_call 99; refine (HC.out _ HP.out).mono ?_; rintro e w1 ⟨rfl, b1⟩; have HB1 := Lib.hid (below_join hB.out b1 hB.out.size); clear b1 p1)
        go_roundw
        case rel => exact ⟨k + 1, by omega, by go_num, Lib.hid (fun i y hi hy => by
          rcases Nat.lt_or_ge i k with h | h
          · exact hun.out i y h hy
          · obtain rfl : i = k := by omega
            have := HX.out
            rw [hy] at this
            injection this with this
            subst this
            exact HP.out), HB1⟩
        case measure => simp only [intOf]; omega
      · have HKY := Lib.hid (show (k : Int) = y by rw [← HY.out]; exact (fidx_at _ l k _ hun.out HX.out hp).symm)
        have HP := Lib.hid hp
        clear hp
        go_wp2_with (go_at_call 99; refine (HC.out _ HP.out).mono ?_; rintro e w1 ⟨rfl, b1⟩; have HB1 := Lib.hid (below_join hB.out b1 hB.out.size); clear b1 p1)
        go_ret
        exact ⟨(show Ending.returned (.int .i64 (k : Int)) = .returned (.int .i64 y) by rw [HKY.out]), HB1.out⟩
    · obtain rfl : k = l.length := by omega
      have HKY := Lib.hid (show (-1 : Int) = y by rw [← HY.out, fidx_none _ l (fun i y hy => hun.out i y (List.getElem?_eq_some_iff.1 hy).1 hy)])
      go_wp2_with (fail)
      go_ret
      exact ⟨(show Ending.returned (.int .i64 (-1)) = .returned (.int .i64 y) by rw [HKY.out]), hB.out⟩
set_option maxHeartbeats 4000000 in
theorem c_CFA (p : Int → Bool) (sb ob : Nat) (A : Option Addr) (c : Nat) (l : List Int) (w : World) (h : Rw 1 inF w A c l) (hcl : ∀ X, Below w.heap.size w X → ∀ (x : Int) (r : Bool), x ∈ l → p x = r → Calls Tryz.prog 99 #[.int .i64 x, .pointer (some ⟨sb, 0, none⟩), .pointer (some ⟨ob, 0, none⟩)] X fun e w' => e = .returned (.bool r) ∧ Below X.heap.size X w') (r : Bool) (hr : l.any p = r) :
    Calls Tryz.prog 101 #[.slice A l.length c, .func (.func 99) #[] #[.pointer (some ⟨sb, 0, none⟩), .pointer (some ⟨ob, 0, none⟩)]] w fun e w' => e = .returned (.bool r) ∧ Below w.heap.size w w' := by
  obtain ⟨y, hy⟩ : ∃ y, fidx p l = y := ⟨_, rfl⟩
  have HC := Lib.hid (c_IFA p sb ob A c l w h hcl y hy)
  have HR := Lib.hid (show decide (0 ≤ y) = r by rw [← hy, fidx_any, hr])
  clear hy hr h hcl
  go_enter Tryz.func101, Tryz.ntmps101
  go_wp2_with (go_at_call 129; refine HC.out.mono ?_; rintro e w1 ⟨rfl, b1⟩; have HB1 := Lib.hid b1; clear b1)
  go_ret
  exact ⟨(show Ending.returned (.bool (decide (0 ≤ y))) = .returned (.bool r) by rw [HR.out]), HB1.out⟩
set_option maxHeartbeats 4000000 in
theorem c_IFN (p : Int → Bool) (sb nb : Nat) (A : Option Addr) (c : Nat) (l : List Int) (w : World) (h : Rw 1 inF w A c l) (hcl : ∀ X, Below w.heap.size w X → ∀ (x : Int) (r : Bool), x ∈ l → p x = r → Calls Tryz.prog 102 #[.int .i64 x, .pointer (some ⟨sb, 0, none⟩), .pointer (some ⟨nb, 0, none⟩)] X fun e w' => e = .returned (.bool r) ∧ Below X.heap.size X w') (y : Int) (hy : fidx p l = y) :
    Calls Tryz.prog 129 #[.slice A l.length c, .func (.func 102) #[] #[.pointer (some ⟨sb, 0, none⟩), .pointer (some ⟨nb, 0, none⟩)]] w fun e w' => e = .returned (.int .i64 y) ∧ Below w.heap.size w w' := by
  have H := Lib.hid h
  have HY := Lib.hid hy
  have HCL := Lib.hid hcl
  have hc1 := h.1
  have hc2 := h.2.1
  unfold maxLen at hc2
  clear h hy hcl
  go_enter Tryz.func129, Tryz.ntmps129
  go_wp2_with (fail)
  go_loopw [8] (fun i wr => ∃ k : Nat, k ≤ l.length ∧ i = .int .i64 (k : Int) ∧ Hid (∀ i y, i < k → l[i]? = some y → p y = false) ∧ Hid (Below w.heap.size w wr)) (fun i _ => l.length - (intOf i).toNat)
  case atStart => exact ⟨0, Nat.zero_le _, rfl, Lib.hid (fun i y hi => absurd hi (by omega)), Lib.hid (Below.refl _ _)⟩
  case round =>
    obtain ⟨k, hk, rfl, hun, hB⟩ := hrel
    by_cases hlt : k < l.length
    · obtain ⟨x, hx⟩ : ∃ x, l[k]? = some x := ⟨_, List.getElem?_eq_getElem hlt⟩
      have HK := H.out
      obtain ⟨pb, po, rfl, -, -⟩ := HK.at_ hx
      have p1 := inRw (HK.on hB.out (Nat.le_refl _)) hx
      have HX := Lib.hid hx
      have hki : ((k : Nat) : Int).toNat = k := by omega
      have hlt' : (k : Int) < ((l.length : Nat) : Int) := by omega
      have HC := Lib.hid (fun (r : Bool) (hr : p x = r) => HCL.out wr hB.out x r (List.mem_of_getElem? hx) hr)
      clear hx HK
      rcases hp : p x with _ | _
      · have HP := Lib.hid hp
        clear hp
        go_wp2_with (go_at_call 102; refine (HC.out _ HP.out).mono ?_; rintro e w1 ⟨rfl, b1⟩; have HB1 := Lib.hid (below_join hB.out b1 hB.out.size); clear b1 p1)
        go_roundw
        case rel => exact ⟨k + 1, by omega, by go_num, Lib.hid (fun i y hi hy => by
          rcases Nat.lt_or_ge i k with h | h
          · exact hun.out i y h hy
          · obtain rfl : i = k := by omega
            have := HX.out
            rw [hy] at this
            injection this with this
            subst this
            exact HP.out), HB1⟩
        case measure => simp only [intOf]; omega
      · have HKY := Lib.hid (show (k : Int) = y by rw [← HY.out]; exact (fidx_at _ l k _ hun.out HX.out hp).symm)
        have HP := Lib.hid hp
        clear hp
        go_wp2_with (go_at_call 102; refine (HC.out _ HP.out).mono ?_; rintro e w1 ⟨rfl, b1⟩; have HB1 := Lib.hid (below_join hB.out b1 hB.out.size); clear b1 p1)
        go_ret
        exact ⟨(show Ending.returned (.int .i64 (k : Int)) = .returned (.int .i64 y) by rw [HKY.out]), HB1.out⟩
    · obtain rfl : k = l.length := by omega
      have HKY := Lib.hid (show (-1 : Int) = y by rw [← HY.out, fidx_none _ l (fun i y hy => hun.out i y (List.getElem?_eq_some_iff.1 hy).1 hy)])
      go_wp2_with (fail)
      go_ret
      exact ⟨(show Ending.returned (.int .i64 (-1)) = .returned (.int .i64 y) by rw [HKY.out]), hB.out⟩
set_option maxHeartbeats 4000000 in
theorem c_CFN (p : Int → Bool) (sb nb : Nat) (A : Option Addr) (c : Nat) (l : List Int) (w : World) (h : Rw 1 inF w A c l) (hcl : ∀ X, Below w.heap.size w X → ∀ (x : Int) (r : Bool), x ∈ l → p x = r → Calls Tryz.prog 102 #[.int .i64 x, .pointer (some ⟨sb, 0, none⟩), .pointer (some ⟨nb, 0, none⟩)] X fun e w' => e = .returned (.bool r) ∧ Below X.heap.size X w') (r : Bool) (hr : l.any p = r) :
    Calls Tryz.prog 101 #[.slice A l.length c, .func (.func 102) #[] #[.pointer (some ⟨sb, 0, none⟩), .pointer (some ⟨nb, 0, none⟩)]] w fun e w' => e = .returned (.bool r) ∧ Below w.heap.size w w' := by
  obtain ⟨y, hy⟩ : ∃ y, fidx p l = y := ⟨_, rfl⟩
  have HC := Lib.hid (c_IFN p sb nb A c l w h hcl y hy)
  have HR := Lib.hid (show decide (0 ≤ y) = r by rw [← hy, fidx_any, hr])
  clear hy hr h hcl
  go_enter Tryz.func101, Tryz.ntmps101
  go_wp2_with (go_at_call 129; refine HC.out.mono ?_; rintro e w1 ⟨rfl, b1⟩; have HB1 := Lib.hid b1; clear b1)
  go_ret
  exact ⟨(show Ending.returned (.bool (decide (0 ≤ y))) = .returned (.bool r) by rw [HR.out]), HB1.out⟩
set_option maxHeartbeats 4000000 in
theorem c_IFF (p : Int → Bool) (sb nb fb : Nat) (A : Option Addr) (c : Nat) (l : List Int) (w : World) (h : Rw 1 inF w A c l) (hcl : ∀ X, Below w.heap.size w X → ∀ (x : Int) (r : Bool), x ∈ l → p x = r → Calls Tryz.prog 103 #[.int .i64 x, .pointer (some ⟨sb, 0, none⟩), .pointer (some ⟨nb, 0, none⟩), .pointer (some ⟨fb, 0, none⟩)] X fun e w' => e = .returned (.bool r) ∧ Below X.heap.size X w') (y : Int) (hy : fidx p l = y) :
    Calls Tryz.prog 129 #[.slice A l.length c, .func (.func 103) #[] #[.pointer (some ⟨sb, 0, none⟩), .pointer (some ⟨nb, 0, none⟩), .pointer (some ⟨fb, 0, none⟩)]] w fun e w' => e = .returned (.int .i64 y) ∧ Below w.heap.size w w' := by
  have H := Lib.hid h
  have HY := Lib.hid hy
  have HCL := Lib.hid hcl
  have hc1 := h.1
  have hc2 := h.2.1
  unfold maxLen at hc2
  clear h hy hcl
  go_enter Tryz.func129, Tryz.ntmps129
  go_wp2_with (fail)
  go_loopw [8] (fun i wr => ∃ k : Nat, k ≤ l.length ∧ i = .int .i64 (k : Int) ∧ Hid (∀ i y, i < k → l[i]? = some y → p y = false) ∧ Hid (Below w.heap.size w wr)) (fun i _ => l.length - (intOf i).toNat)
  case atStart => exact ⟨0, Nat.zero_le _, rfl, Lib.hid (fun i y hi => absurd hi (by omega)), Lib.hid (Below.refl _ _)⟩
  case round =>
    obtain ⟨k, hk, rfl, hun, hB⟩ := hrel
    by_cases hlt : k < l.length
    · obtain ⟨x, hx⟩ : ∃ x, l[k]? = some x := ⟨_, List.getElem?_eq_getElem hlt⟩
      have HK := H.out
      obtain ⟨pb, po, rfl, -, -⟩ := HK.at_ hx
      have p1 := inRw (HK.on hB.out (Nat.le_refl _)) hx
      have HX := Lib.hid hx
      have hki : ((k : Nat) : Int).toNat = k := by omega
      have hlt' : (k : Int) < ((l.length : Nat) : Int) := by omega
      have HC := Lib.hid (fun (r : Bool) (hr : p x = r) => HCL.out wr hB.out x r (List.mem_of_getElem? hx) hr)
      clear hx HK
      rcases hp : p x with _ | _
      · have HP := Lib.hid hp
        clear hp
        go_wp2_with (go_at_call 103; refine (HC.out _ HP.out).mono ?_; rintro e w1 ⟨rfl, b1⟩; have HB1 := Lib.hid (below_join hB.out b1 hB.out.size); clear b1 p1)
        go_roundw
        case rel => exact ⟨k + 1, by omega, by go_num, Lib.hid (fun i y hi hy => by
          rcases Nat.lt_or_ge i k with h | h
          · exact hun.out i y h hy
          · obtain rfl : i = k := by omega
            have := HX.out
            rw [hy] at this
            injection this with this
            subst this
            exact HP.out), HB1⟩
        case measure => simp only [intOf]; omega
      · have HKY := Lib.hid (show (k : Int) = y by rw [← HY.out]; exact (fidx_at _ l k _ hun.out HX.out hp).symm)
        have HP := Lib.hid hp
        clear hp
        go_wp2_with (go_at_call 103; refine (HC.out _ HP.out).mono ?_; rintro e w1 ⟨rfl, b1⟩; have HB1 := Lib.hid (below_join hB.out b1 hB.out.size); clear b1 p1)
        go_ret
        exact ⟨(show Ending.returned (.int .i64 (k : Int)) = .returned (.int .i64 y) by rw [HKY.out]), HB1.out⟩
    · obtain rfl : k = l.length := by omega
      have HKY := Lib.hid (show (-1 : Int) = y by rw [← HY.out, fidx_none _ l (fun i y hy => hun.out i y (List.getElem?_eq_some_iff.1 hy).1 hy)])
      go_wp2_with (fail)
      go_ret
      exact ⟨(show Ending.returned (.int .i64 (-1)) = .returned (.int .i64 y) by rw [HKY.out]), hB.out⟩
set_option maxHeartbeats 4000000 in
theorem c_CFF (p : Int → Bool) (sb nb fb : Nat) (A : Option Addr) (c : Nat) (l : List Int) (w : World) (h : Rw 1 inF w A c l) (hcl : ∀ X, Below w.heap.size w X → ∀ (x : Int) (r : Bool), x ∈ l → p x = r → Calls Tryz.prog 103 #[.int .i64 x, .pointer (some ⟨sb, 0, none⟩), .pointer (some ⟨nb, 0, none⟩), .pointer (some ⟨fb, 0, none⟩)] X fun e w' => e = .returned (.bool r) ∧ Below X.heap.size X w') (r : Bool) (hr : l.any p = r) :
    Calls Tryz.prog 101 #[.slice A l.length c, .func (.func 103) #[] #[.pointer (some ⟨sb, 0, none⟩), .pointer (some ⟨nb, 0, none⟩), .pointer (some ⟨fb, 0, none⟩)]] w fun e w' => e = .returned (.bool r) ∧ Below w.heap.size w w' := by
  obtain ⟨y, hy⟩ : ∃ y, fidx p l = y := ⟨_, rfl⟩
  have HC := Lib.hid (c_IFF p sb nb fb A c l w h hcl y hy)
  have HR := Lib.hid (show decide (0 ≤ y) = r by rw [← hy, fidx_any, hr])
  clear hy hr h hcl
  go_enter Tryz.func101, Tryz.ntmps101
  go_wp2_with (go_at_call 129; refine HC.out.mono ?_; rintro e w1 ⟨rfl, b1⟩; have HB1 := Lib.hid b1; clear b1)
  go_ret
  exact ⟨(show Ending.returned (.bool (decide (0 ≤ y))) = .returned (.bool r) by rw [HR.out]), HB1.out⟩
end Go.Proofs.YtbbadnlaelgmlaaGreat
