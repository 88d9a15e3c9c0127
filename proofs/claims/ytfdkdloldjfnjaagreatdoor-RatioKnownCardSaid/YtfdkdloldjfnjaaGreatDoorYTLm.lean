/-
  DERIVED. Several texts in one.
-/
import Derived.Test.YtfdkdloldjfnjaaGreatDoorYTIm
import Derived.RangeFuncNested
import Derived.RangeFuncBound
import Derived.RangeFuncCalls
import Derived.RangeFuncLeaves
import Derived.RangeFuncBox
import Derived.Shelf.Abstract
import Derived.Shelf.RegionOpen
import Derived.OwnWalkIn
import Derived.TacticsInMore
import Derived.LoopNIn
import Derived.LoopIn
set_option linter.unusedVariables false
set_option linter.unusedSimpArgs false

/- DERIVED. ends, further. -/
namespace Go.Proofs.YtfdkdloldjfnjaaGreatDoor
open Go.RowKit
set_option maxRecDepth 100000

theorem ret33 {fn : Func} {a : Act} {W : World} {R : Ending → World → Prop} {b c i j : Nat} {x0 x1 x2 y0 y1 y2 : Value} (hfn : fn.results = #[.cell i 25, .cell j 25]) (hp : a.tmps[i]?.getD undef = .pointer (some ⟨b, 0, none⟩)) (hq : a.tmps[j]?.getD undef = .pointer (some ⟨c, 0, none⟩)) (hd : a.defers = [])
    (h : W.heap[b]? = some (.cells #[x0, x1, x2] 25 (0, 0))) (k : W.heap[c]? = some (.cells #[y0, y1, y2] 25 (0, 0))) (hR : R (.returned (.tuple #[.agg #[x0, x1, x2], .agg #[y0, y1, y2]])) W) : bodyPost Tryz.prog fn R .ret a W := by
  obtain ⟨c0, c1, c2⟩ := three_cells h
  obtain ⟨d0, d1, d2⟩ := three_cells k
  exact bodyPost_ret (v := .tuple #[.agg #[x0, x1, x2], .agg #[y0, y1, y2]]) (by simp [results, hfn, hp, hq, go_sem, c0, c1, c2, d0, d1, d2]) hd hR
theorem row_keep3 {W : World} {b B : Nat} {o : Obj} (h : W.heap[b]? = some o) (hne : b ≠ B) (x y z : Value) : (((W.setCell ⟨B, 0, none⟩ x).setCell ⟨B, 1, none⟩ y).setCell ⟨B, 2, none⟩ z).heap[b]? = some o := row_other4 (row_other4 (row_other4 h hne x) hne y) hne z
theorem heap_keep3 (W : World) {b B : Nat} (hne : b ≠ B) (x y z : Value) : (((W.setCell ⟨B, 0, none⟩ x).setCell ⟨B, 1, none⟩ y).setCell ⟨B, 2, none⟩ z).heap[b]? = W.heap[b]? := by
  rw [Below.heap_setCell _ _ _ _ hne, Below.heap_setCell _ _ _ _ hne, Below.heap_setCell _ _ _ _ hne]
theorem size_store3 (W : World) (B : Nat) (x y z : Value) : (((W.setCell ⟨B, 0, none⟩ x).setCell ⟨B, 1, none⟩ y).setCell ⟨B, 2, none⟩ z).heap.size = W.heap.size := by simp [World.setCell]
theorem fs_keep3 {X : World} {lo B n : Nat} {v : Value} (h : Fs lo X v n) (hB : B < lo) (x y z : Value) : Fs lo (((X.setCell ⟨B, 0, none⟩ x).setCell ⟨B, 1, none⟩ y).setCell ⟨B, 2, none⟩ z) v n :=
  NatSl.stand h fun k hk => ⟨⟨hk.1, by rw [size_store3]; exact hk.2⟩, heap_keep3 X (by omega) x y z⟩
def EndsPost (w : World) (e : Ending) (w' : World) : Prop := ∃ x y, e = .returned (.tuple #[x, y]) ∧ Fr w' x false 0 1 ∧ Fr w' y false 1 0 ∧ Below w.heap.size w w'
theorem natSl_nil0 (w : World) (ok : Nat → Prop) : NatSl w ok (.slice none 0 0) (nat 0) := by rw [nat_zero]; exact NatSl.nil w ok

set_option maxHeartbeats 1000000 in
theorem c_ends (w : World) : Calls Tryz.prog 81 #[] w (EndsPost w) := by
  obtain ⟨W, hW⟩ : ∃ W, W = (w.alloc (.cells #[.bool false, .slice none 0 0, .slice none 0 0] 25)).alloc (.cells #[.bool false, .slice none 0 0, .slice none 0 0] 25) := ⟨_, rfl⟩
  have X0 : ResZ w.heap.size W := by subst hW; exact two_new _ _ _ _ _
  have R0 : ResZ (w.heap.size + 1) W := by subst hW; exact resz_two _ _
  have B0 : Below w.heap.size w W := by subst hW; exact below_two _ _ _
  have hz : w.heap.size + 1 < W.heap.size := by subst hW; simp
  have HX0 := Lib.hid X0
  have HR0 := Lib.hid R0
  have HB0 := Lib.hid B0
  clear X0 R0 B0
  go_enter Tryz.func81, Tryz.ntmps81
  go_wp2_with (fail)
  rw [← hW]
  clear hW
  refine (c_one _).mono ?_
  rintro e w1 ⟨v1, rfl, g1, hb1⟩
  obtain ⟨A1, c1, rfl⟩ := g1.shape
  have hz1 := hb1.size
  have HX1 := Lib.hid (HX0.out.on hb1 (by omega))
  have HR1 := Lib.hid (HR0.out.on hb1 hz)
  have HB1 := Lib.hid (below_join HB0.out hb1 HB0.out.size)
  have HG1 := Lib.hid (show Fs W.heap.size w1 _ 1 from g1)
  clear hb1 g1
  go_wp2_with (fail)
  refine (c_one _).mono ?_
  rintro e w2 ⟨v2, rfl, g2, hb2⟩
  obtain ⟨A2, c2, rfl⟩ := g2.shape
  have hz2 := hb2.size
  have HX2 := Lib.hid (HX1.out.on hb2 (by omega))
  have HR2 := Lib.hid (HR1.out.on hb2 (by omega))
  have HB2 := Lib.hid (below_join HB1.out hb2 HB1.out.size)
  have HG2 := Lib.hid (HG1.out.on hb2)
  have HG3 := Lib.hid (show Fs w1.heap.size w2 _ 1 from g2)
  clear hb2 g2
  obtain ⟨e0, e1, e2⟩ := three_cells HX2.out
  obtain ⟨f0, f1, f2⟩ := three_frozen HX2.out
  obtain ⟨y0, y1, y2⟩ := three_cells HR2.out
  obtain ⟨g0, g1, g2⟩ := three_frozen HR2.out
  go_wp2_with (fail)
  refine ret33 (b := w.heap.size) (c := w.heap.size + 1) rfl rfl rfl rfl (row_keep3 (row_store3 HX2.out _ _ _) (by omega) _ _ _) (row_store3 (row_keep3 HR2.out (by omega) _ _ _) _ _ _) ⟨_, _, rfl, ⟨_, _, rfl, natSl_nil0 _ _, ?_⟩, ⟨_, _, rfl, ?_, natSl_nil0 _ _⟩, below_store3 (below_store3 HB2.out (Nat.le_refl _) _ _ _) (by omega) _ _ _⟩
  · exact natSl_any (fs_keep3 (fs_keep3 HG2.out (by omega) _ _ _) (by omega) _ _ _)
  · exact natSl_any (fs_keep3 (fs_keep3 HG3.out (by omega) _ _ _) (by omega) _ _ _)

/-- A new fraction. -/
def FrNew (s : Bool) (n d : Nat) (w : World) (e : Ending) (w' : World) : Prop := ∃ va vb, e = .returned (.agg #[.bool s, va, vb]) ∧ Fs w.heap.size w' va n ∧ Fs w.heap.size w' vb d ∧ Below w.heap.size w w'

set_option maxHeartbeats 1000000 in
theorem c_further (s1 s2 : Bool) (p0 q0 p1 q1 t : Nat) (h1 : (nat p0).length ≤ 20000) (h2 : (nat q0).length ≤ 20000) (h3 : (nat p1).length ≤ 20000) (h4 : (nat q1).length ≤ 20000) (h5 : (nat t).length ≤ 20000) (vb vl vp : Value) (w : World)
    (hb : Fr w vb s1 p0 q0) (hl : Fr w vl s2 p1 q1) (hp : NatSl w (fun i => i < w.heap.size) vp (nat t)) :
    Calls Tryz.prog 83 #[vb, vl, vp] w (FrNew false (p0 + t * p1) (q0 + t * q1) w) := by
  have m1 := mul_len t p1
  have m2 := mul_len t q1
  obtain ⟨v1, v2, rfl, hb1, hb2⟩ := hb
  obtain ⟨A1, c1, rfl⟩ := hb1.shape
  obtain ⟨A2, c2, rfl⟩ := hb2.shape
  obtain ⟨u1, u2, rfl, hl1, hl2⟩ := hl
  obtain ⟨A3, c3, rfl⟩ := hl1.shape
  obtain ⟨A4, c4, rfl⟩ := hl2.shape
  obtain ⟨A5, c5, rfl⟩ := hp.shape
  have up : ∀ {v : Value} {l : List Nat} {X : World}, NatSl w (fun i => i < w.heap.size) v l → Below w.heap.size w X → NatSl X (fun i => i < X.heap.size) v l := fun h hX => h.below hX (fun i hi => ⟨hi, Nat.lt_of_lt_of_le hi hX.size⟩)
  have HM1 := Lib.hid (fun (X : World) (hX : Below w.heap.size w X) => c_multiplyN t p1 (by omega) (by omega) _ _ _ _ X (up hp hX) (up hl1 hX) (fun i hi => hi) (fun i hi => hi))
  have HM2 := Lib.hid (fun (X : World) (hX : Below w.heap.size w X) => c_multiplyN t q1 (by omega) (by omega) _ _ _ _ X (up hp hX) (up hl2 hX) (fun i hi => hi) (fun i hi => hi))
  have HA1 := Lib.hid (fun (X : World) (hX : Below w.heap.size w X) (r : Value) (lo : Nat) (hr : Fs lo X r (t * p1)) => c_addF (lo := 0) ((up hb1 hX).mono (fun i hi => ⟨Nat.zero_le _, hi⟩)) hr (by omega) (by omega))
  have HA2 := Lib.hid (fun (X : World) (hX : Below w.heap.size w X) (r : Value) (lo : Nat) (hr : Fs lo X r (t * q1)) => c_addF (lo := 0) ((up hb2 hX).mono (fun i hi => ⟨Nat.zero_le _, hi⟩)) hr (by omega) (by omega))
  clear hb1 hb2 hl1 hl2 hp up m1 m2 h1 h2 h3 h4 h5
  generalize t * p1 = x1 at *
  generalize t * q1 = x2 at *
  go_enter Tryz.func83, Tryz.ntmps83
  go_wp2_with (fail)
  obtain ⟨W, hW⟩ : ∃ W, W = ((w.alloc (.cells #[.bool s1, .slice A1 (nat p0).length c1, .slice A2 (nat q0).length c2] 25)).alloc (.cells #[.bool s2, .slice A3 (nat p1).length c3, .slice A4 (nat q1).length c4] 25)).alloc (.cells #[.bool false, .slice none 0 0, .slice none 0 0] 25) := ⟨_, rfl⟩
  have S0 : Six w.heap.size s1 (.slice A1 (nat p0).length c1) (.slice A2 (nat q0).length c2) s2 (.slice A3 (nat p1).length c3) (.slice A4 (nat q1).length c4) W := by subst hW; exact six_new w _ _ _ _ _ _ _
  have R0 : ResZ (w.heap.size + 2) W := by subst hW; exact resz_new w _ _
  have B0 : Below w.heap.size w W := by subst hW; exact (((Below.refl _ _).alloc (Nat.le_refl _) _).alloc (by simp) _).alloc (by simp; omega) _
  have hz : w.heap.size + 2 < W.heap.size := by subst hW; simp
  rw [← hW]
  clear hW
  have HB0 := Lib.hid B0
  have HS0 := Lib.hid S0
  have HR0 := Lib.hid R0
  clear B0 S0 R0
  go_region_held3 (fun X => X.cell? ⟨w.heap.size, 1, none⟩ = some (.slice A1 (nat p0).length c1) ∧ X.cell? ⟨w.heap.size, 2, none⟩ = some (.slice A2 (nat q0).length c2) ∧ X.cell? ⟨w.heap.size + 1, 1, none⟩ = some (.slice A3 (nat p1).length c3) ∧ X.cell? ⟨w.heap.size + 1, 2, none⟩ = some (.slice A4 (nat q1).length c4))
    (first | exact HSd.out.four | exact (HSd.out.store3 (by omega) _ _ _).four | exact HSc.out.four | exact HSb.out.four | exact HSa.out.four | exact HS0.out.four)
    (first
      | (go_at_call 92; (with_reducible refine (HM1.out _ HB0.out.drew).mono ?_); rintro e wa ⟨ra, rfl, hra, hba0⟩; obtain ⟨Aa, ca, rfl⟩ := hra.shape; have hba := Below.undrew hba0; have HSa := Lib.hid (HS0.out.on hba hz); have HRa := Lib.hid (HR0.out.on hba hz); have HBa := Lib.hid (below_join HB0.out hba HB0.out.size); have HNa := Lib.hid (show Fs W.heap.size wa _ x1 from hra); have hza := hba.size; clear hra hba hba0)
      | (go_at_call 74; (with_reducible refine (HA1.out _ HBa.out _ _ HNa.out).mono ?_); rintro e wb ⟨rb, rfl, hrb, hbb⟩; obtain ⟨Ab, cb, rfl⟩ := hrb.shape; have HSb := Lib.hid (HSa.out.on hbb (by omega)); have HRb := Lib.hid (HRa.out.on hbb (by omega)); have HBb := Lib.hid (below_join HBa.out hbb HBa.out.size); have HNb := Lib.hid (show Fs wa.heap.size wb _ _ from hrb); have hzb := hbb.size; clear hrb hbb)
      | (go_at_call 92; (with_reducible refine (HM2.out _ HBb.out).mono ?_); rintro e wc ⟨rc, rfl, hrc, hbc⟩; obtain ⟨Ac, cc, rfl⟩ := hrc.shape; have HSc := Lib.hid (HSb.out.on hbc (by omega)); have HRc := Lib.hid (HRb.out.on hbc (by omega)); have HBc := Lib.hid (below_join HBb.out hbc HBb.out.size); have HNb2 := Lib.hid (HNb.out.on hbc); have HNc := Lib.hid (show Fs wb.heap.size wc _ x2 from hrc); have hzc := hbc.size; clear hrc hbc)
      | (go_at_call 74; (with_reducible refine (HA2.out _ HBc.out _ _ HNc.out).mono ?_); rintro e wd ⟨rd, rfl, hrd, hbd⟩; obtain ⟨Ad, cd, rfl⟩ := hrd.shape; have HSd := Lib.hid (HSc.out.on hbd (by omega)); have hres := HRc.out.on hbd (by omega); have HBd := Lib.hid (below_join HBc.out hbd HBc.out.size); have HNb3 := Lib.hid (HNb2.out.on hbd); have HNd := Lib.hid (show Fs wc.heap.size wd _ _ from hrd); have hzd := hbd.size; clear hrd hbd; obtain ⟨e0, e1, e2⟩ := three_cells hres; obtain ⟨f0, f1, f2⟩ := three_frozen hres; have HRES := Lib.hid hres; clear hres))
  go_wp2_with (fail)
  refine ret3 (b := w.heap.size + 1 + 1) rfl rfl rfl (row_store3 HRES.out _ _ _) ⟨_, _, rfl, ?_, ?_, below_store3 HBd.out (by omega) _ _ _⟩
  · exact Fs.mono (fs_keep3 HNb3.out (by omega) _ _ _) (by omega)
  · exact Fs.mono (fs_keep3 HNd.out (by omega) _ _ _) (by omega)
end Go.Proofs.YtfdkdloldjfnjaaGreatDoor

/- DERIVED. A range over an iterator that writes its own boxes between two rounds: the caller's side. -/
namespace Go.Proofs.YtfdkdloldjfnjaaGreatDoor
open Go.RowKit Go.Shelf

/-- What the iterator is: whatever holds between two rounds and abides the iterator's own steps E, holds behind all rounds, or a round has left. A value that is yielded is 'ok' for a number. -/
def PartsSeq (F : Fence) (n : Nat) (P : Program) (g : Nat) (lb : Array Value) (E Kp : World → World → Prop) (ok : Value → Nat → World → Prop) (ts : List Nat) (w : World) : Prop :=
  ∀ (l : Nat) (J Jx : List Nat → World → Prop) (W : World), Below w.heap.size w W →
    (∀ pre X Y, J pre X → E X Y → J pre Y) →
    (∀ pre v t W1, J pre W1 → ok v t W1 → pre ++ [t] <+: ts → YieldAt F (n - 1) P l #[v] W1 fun e W' =>
      (e = .returned (.bool true) ∧ J (pre ++ [t]) W' ∧ Kp W1 W') ∨ (e = .returned (.bool false) ∧ Jx (pre ++ [t]) W')) →
    J [] W →
    CallsIn F n P g (#[.func (.yield l) #[] #[]] ++ lb) W fun e W' => (∃ v, e = .returned v) ∧ (J ts W' ∨ ∃ pre, pre <+: ts ∧ Jx pre W')

section
variable {F : Fence} {n : Nat} {P : Program}
/-- The heap at a block that is not the one that turns. -/
theorem put_other {W : World} {l k : Nat} {o' : Obj} {o : Obj} (hk : W.heap[k]? = some o) (hne : k ≠ l) : (W.putObj l o').heap[k]? = some o := (World.putObj_heap_other hne).trans hk
theorem put_same {W : World} {l : Nat} {o : Obj} (o' : Obj) (hl : W.heap[l]? = some o) : (W.putObj l o').heap[l]? = some o' := World.putObj_heap_same (Array.getElem?_eq_some_iff.1 hl).1

theorem wpIn_over {g : Operand} {ps : Array Tmp} {assign body : Code} {Q : Exit → Act → World → Prop} {a : Act} {w : World}
    (hro : F.round = none) (h1 : 1 ≤ n) {gf : Nat} {lb : Array Value} (hg : a.eval g = .func (.func gf) #[] lb) (hFg : F.fn gf) (eg : ∀ args w, (callFunc gf args).run P w = .ok (.enter gf args) w)
    {E Kp : World → World → Prop} {ok : Value → Nat → World → Prop} {ts : List Nat} {w0 : World} (hseq : PartsSeq F (n - 1) P gf lb E Kp ok ts w0) (hb0 : Below w0.heap.size w0 w) (hps : ps.size = 1)
    (hEk : ∀ (X Y : World) (k : Nat) (o : Obj), E X Y → X.heap[k]? = some o → o.isCells = false → Y.heap[k]? = some o)
    (hKt : ∀ {A B C : World}, Kp A B → Kp B C → Kp A C) (hKb : ∀ (W : World) (l : Nat) (o o' : Obj), W.heap[l]? = some o → o.isCells = false → Kp W (W.putObj l o'))
    (hok : ∀ (v : Value) (t : Nat) (W : World) (l : Nat) (o o' : Obj), ok v t W → W.heap[l]? = some o → o.isCells = false → ok v t (W.putObj l o'))
    (I : List Nat → World → Prop) (Ix : Code → List Nat → World → Prop) (hIE : ∀ pre X Y, I pre X → E X Y → I pre Y)
    (hIP : ∀ (pre : List Nat) (X : World) (l : Nat) (o o' : Obj), I pre X → w.heap.size ≤ l → X.heap[l]? = some o → o.isCells = false → I pre (X.putObj l o'))
    (hXP : ∀ (c : Code) (pre : List Nat) (X : World) (l : Nat) (o o' : Obj), Ix c pre X → w.heap.size ≤ l → X.heap[l]? = some o → o.isCells = false → Ix c pre (X.putObj l o'))
    (hIA : ∀ (X : World) (o : Obj), I [] X → I [] (X.alloc o)) (h0 : I [] w)
    (hround : ∀ (l : Nat) (pre : List Nat) (v : Value) (t : Nat) (W : World) (K : Act → World → Prop), pre ++ [t] <+: ts →
      (∀ a' : Act, (∀ X : World, w.heap.size ≤ l → I pre X → ok v t X → body.wpIn (F.inRound l) (n - 1 - 1) P (ownPostG w.heap.size Kp I Ix (pre ++ [t]) X) a' X) → K a' W) →
      assign.wpIn (F.inRound l) (n - 1 - 1) P (Exit.then K (fun _ _ _ => False)) { tmps := (ps.zip #[v]).foldl (fun t (p, v) => t.setIfInBounds p v) a.tmps, defers := [] } W)
    (hdone : ∀ (D : Nat) (W : World), w.heap.size ≤ D → I ts W → W.heap[D]? = some (.deferred (some [])) → Q .normal { a with defers := { target := .collected D, args := #[] } :: a.defers } W)
    (hstop : ∀ (D : Nat) (c : Code) (pre : List Nat) (W : World), w.heap.size ≤ D → pre <+: ts → Ix c pre W → W.heap[D]? = some (.deferred (some [])) → c.wpIn F n P Q { a with defers := { target := .collected D, args := #[] } :: a.defers } W) :
    (Code.rangeFunc g ps assign body).wpIn F n P Q a w := by
  refine wpIn_rangeFunc fun fn hfn => ?_
  rw [hro]
  let D := w.heap.size
  let rec0 : LoopState → Option Code → Loop := fun st pe => { state := st, pending := pe, fn, tmps := a.tmps, params := ps, assign, body, defers := D }
  obtain ⟨V, hV⟩ : ∃ V, (w.alloc (.deferred (some []))).alloc (.loop (rec0 .ready none)) = V := ⟨_, rfl⟩
  have sV : (w.alloc (.deferred (some []))).heap.size = D + 1 := World.size_alloc ..
  have lV : V.heap[D + 1]? = some (.loop (rec0 .ready none)) := by
    have := World.alloc_heap_new (w.alloc (.deferred (some []))) (.loop (rec0 .ready none))
    rwa [sV, hV] at this
  have dV : V.heap[D]? = some (.deferred (some [])) := by
    rw [← hV]
    exact (Below.heap_alloc _ _ _ (by rw [sV]; exact Nat.lt_succ_self _)).trans (World.alloc_heap_new w _)
  have bV : Below w.heap.size w V := by rw [← hV]; exact ((Below.refl _ w).alloc (Nat.le_refl _) _).alloc (by rw [sV]; exact Nat.le_succ _) _
  have iV : I [] V := by rw [← hV]; exact hIA _ _ (hIA _ _ h0)
  refine ⟨D + 1, [{ target := .collected D, args := #[] }], V, { target := .fn (.func gf) lb, args := #[.func (.yield (D + 1)) #[] #[]] }, V, gf, #[.func (.yield (D + 1)) #[] #[]] ++ lb, V, ?_, ?_, ?_, ?_, fun _ => h1, ?_⟩
  · rw [← hV]; exact run_enterLoop_outer _ _ _ _ _
  · simp only [resolve, hg]; simp [go_sem]
  · intro f' hf'; simp [Target.leads] at hf'; subst hf'; exact hFg
  · simp [invoke, go_sem, eg]
  -- between two rounds the record is ready and nothing is deferred; a round that has left lays its jump
  refine (hseq (D + 1) (fun pre W => I pre W ∧ W.heap[D + 1]? = some (.loop (rec0 .ready none)) ∧ W.heap[D]? = some (.deferred (some [])))
    (fun pre W => ∃ c, Ix c pre W ∧ W.heap[D + 1]? = some (.loop (rec0 .done (some c))) ∧ W.heap[D]? = some (.deferred (some []))) V (hb0.trans (bV.mono hb0.size))
    (fun pre X Y h hE => ⟨hIE _ _ _ h.1 hE, hEk _ _ _ _ hE h.2.1 rfl, hEk _ _ _ _ hE h.2.2 rfl⟩) ?_ ⟨iV, lV, dV⟩).mono ?_
  · rintro pre v t W ⟨hi, hl, hd⟩ hv hpre
    refine ⟨fn, _, assign, body, run_yield hl (by simp [rec0, hps]), roundIn_of_wpIn hfn (hround (D + 1) pre v t W _ hpre fun a' hbody => ⟨_, run_beginRound hl rfl, ?_⟩)⟩
    have hl2 := put_same (.loop { rec0 .ready none with state := .busy }) hl
    have hd2 : (W.putObj (D + 1) (.loop { rec0 .ready none with state := .busy })).heap[D]? = some (.deferred (some [])) := put_other hd (by omega)
    have hk2 : Kp W (W.putObj (D + 1) (.loop { rec0 .ready none with state := .busy })) := hKb _ _ _ _ hl rfl
    refine wpIn_mono (hbody _ (Nat.le_succ _) (hIP _ _ _ _ _ hi (Nat.le_succ _) hl rfl) (hok _ _ _ _ _ _ hv hl rfl)) ?_
    generalize W.putObj (D + 1) (.loop { rec0 .ready none with state := .busy }) = X at hl2 hd2 hk2
    -- the end of a round
    have fin : ∀ (jump : Option Code) (Y : World), KeepsFrom w.heap.size X Y → Y.heap[D + 1]? = some (.loop { rec0 .ready none with state := .busy }) ∧
        (Instr.endRound (D + 1) jump).run P Y = .ok (.bool jump.isNone) (Y.putObj (D + 1) (.loop (rec0 (if jump.isNone then .ready else .done) jump))) ∧
        (Y.putObj (D + 1) (.loop (rec0 (if jump.isNone then .ready else .done) jump))).heap[D + 1]? = some (.loop (rec0 (if jump.isNone then .ready else .done) jump)) ∧
        (Y.putObj (D + 1) (.loop (rec0 (if jump.isNone then .ready else .done) jump))).heap[D]? = some (.deferred (some [])) := fun jump Y hY => by
      have l3 := hY.same _ _ (Nat.le_succ _) hl2 rfl
      exact ⟨l3, run_endRound jump l3, put_same _ l3, put_other (hY.same _ _ (Nat.le_refl _) hd2 rfl) (by omega)⟩
    intro e a3 Y hp
    have left : ∀ c : Code, KeepsFrom w.heap.size X Y → Ix c (pre ++ [t]) Y → ∃ v w', (Instr.endRound (D + 1) (some c)).run P Y = .ok v w' ∧ ((Ending.returned v = .returned (.bool true) ∧ (I (pre ++ [t]) w' ∧ w'.heap[D + 1]? = some (.loop (rec0 .ready none)) ∧ w'.heap[D]? = some (.deferred (some []))) ∧ Kp W w') ∨
        (Ending.returned v = .returned (.bool false) ∧ ∃ c, Ix c (pre ++ [t]) w' ∧ w'.heap[D + 1]? = some (.loop (rec0 .done (some c))) ∧ w'.heap[D]? = some (.deferred (some [])))) := fun c hY hx => by
      obtain ⟨l3, r3, l4, d4⟩ := fin (some c) Y hY
      exact ⟨_, _, r3, .inr ⟨rfl, c, hXP _ _ _ _ _ _ hx (Nat.le_succ _) l3 rfl, l4, d4⟩⟩
    cases e with
    | normal =>
      obtain ⟨hY, hkp, hi3⟩ := hp
      obtain ⟨l3, r3, l4, d4⟩ := fin none Y hY
      exact ⟨_, _, r3, .inl ⟨rfl, ⟨hIP _ _ _ _ _ hi3 (Nat.le_succ _) l3 rfl, l4, d4⟩, hKt (hKt hk2 hkp) (hKb _ _ _ _ l3 rfl)⟩⟩
    | ret => exact left .ret hp.1 hp.2
    | exit id => exact left (.exit id) hp.1 hp.2
    | goto t => exact left (.goto t) hp.1 hp.2
    | panic ch => exact hp.elim
    | outgrown => exact hp.elim
  · rintro e Y ⟨⟨v, rfl⟩, ⟨hi, hl, hd⟩ | ⟨pre, hpre, c, hx, hl, hd⟩⟩
    · exact ⟨none, _, run_endLoop hl (by simp [rec0]), hdone D _ (Nat.le_refl _) (hIP _ _ _ _ _ hi (Nat.le_succ _) hl rfl) (put_other hd (by omega))⟩
    · exact ⟨some c, _, run_endLoop hl (by simp [rec0]), hstop D c pre _ (Nat.le_refl _) hpre (hXP _ _ _ _ _ _ hx (Nat.le_succ _) hl rfl) (put_other hd (by omega))⟩
end
end Go.Proofs.YtfdkdloldjfnjaaGreatDoor

/- DERIVED. parts: the iterator. -/
namespace Go.Proofs.YtfdkdloldjfnjaaGreatDoor
open Go.RowKit Go.Shelf
attribute [local go_sem] Oper.semAt_some
set_option maxRecDepth 100000

theorem natSl_move {X Y : World} {ok ok' : Nat → Prop} {v : Value} {l : List Nat} (h : NatSl X ok v l) (H : ∀ (b : Nat) (cs : Array Value) (t : TypeId) (fr : Nat × Nat), ok b → X.heap[b]? = some (.cells cs t fr) → Y.heap[b]? = some (.cells cs t fr) ∧ ok' b) : NatSl Y ok' v l := by
  obtain ⟨A, c, h1, h2, h3, h4⟩ := h
  refine ⟨A, c, h1, h2, h3, fun hl => ?_⟩
  obtain ⟨b, o, e, hb, hc⟩ := h4 hl
  have h0 := hc 0 (l[0]'hl) (List.getElem?_eq_getElem hl)
  obtain ⟨ob, hob, hcl⟩ := cells_of_cell h0
  cases ob with
  | cells cs t fr =>
    obtain ⟨hy, hk⟩ := H b cs t fr hb hob
    exact ⟨b, o, e, hk, fun j x hj => (World.cell?_of_block (a := ⟨b, o + j, none⟩) (hy.trans hob.symm)).trans (hc j x hj)⟩
  | _ => cases hcl
/-- A number's limbs, outside two blocks. -/
def Limbs (b1 b2 : Nat) (X : World) (v : Value) (t : Nat) : Prop := NatSl X (fun i => i < X.heap.size ∧ i ≠ b1 ∧ i ≠ b2) v (nat t)
/-- What a round keeps: all cells but those of two blocks. -/
structure KpB (b1 b2 : Nat) (X Y : World) : Prop where
  size : X.heap.size ≤ Y.heap.size
  same : ∀ (k : Nat) (cs : Array Value) (t : TypeId) (fr : Nat × Nat), X.heap[k]? = some (.cells cs t fr) → k ≠ b1 → k ≠ b2 → Y.heap[k]? = some (.cells cs t fr)
/-- The iterator's own steps: new blocks, and stores into two boxes. -/
structure OwnStep (bl bh : Nat) (X Y : World) : Prop where
  os : Y.os = X.os
  tape : Y.tape = X.tape
  output : Y.output = X.output
  size : X.heap.size ≤ Y.heap.size
  same : ∀ (k : Nat) (o : Obj), X.heap[k]? = some o → (o.isCells = false ∨ (k ≠ bl ∧ k ≠ bh)) → Y.heap[k]? = some o
section
variable {b1 b2 bl bh : Nat} {X Y Z : World} {v : Value} {t : Nat}
theorem KpB.trans (h : KpB b1 b2 X Y) (k : KpB b1 b2 Y Z) : KpB b1 b2 X Z := ⟨Nat.le_trans h.size k.size, fun i cs t fr hi h1 h2 => k.same i cs t fr (h.same i cs t fr hi h1 h2) h1 h2⟩
theorem KpB.put (W : World) (l : Nat) (o o' : Obj) (hl : W.heap[l]? = some o) (ho : o.isCells = false) : KpB b1 b2 W (W.putObj l o') :=
  ⟨by simp, fun k cs t fr hk _ _ => put_other hk (fun e => by subst e; rw [hl] at hk; cases hk; cases ho)⟩
theorem KpB.of_below {B : Nat} (h : Below B X Y) (hB : X.heap.size ≤ B) : KpB b1 b2 X Y := ⟨h.size, fun k cs t fr hk _ _ => (h.block k (Nat.lt_of_lt_of_le (Array.getElem?_eq_some_iff.1 hk).1 hB)).trans hk⟩
theorem OwnStep.of_below {B : Nat} (h : Below B X Y) (hB : X.heap.size ≤ B) : OwnStep bl bh X Y := ⟨h.os, h.tape, h.output, h.size, fun k o hk _ => (h.block k (Nat.lt_of_lt_of_le (Array.getElem?_eq_some_iff.1 hk).1 hB)).trans hk⟩
theorem OwnStep.trans (h : OwnStep bl bh X Y) (k : OwnStep bl bh Y Z) : OwnStep bl bh X Z := ⟨k.os.trans h.os, k.tape.trans h.tape, k.output.trans h.output, Nat.le_trans h.size k.size, fun i o hi ho => k.same i o (h.same i o hi ho) ho⟩
theorem Limbs.kept (h : Limbs b1 b2 X v t) (hk : KpB b1 b2 X Y) : Limbs b1 b2 Y v t := natSl_move h fun b cs T fr hb hx => ⟨hk.same b cs T fr hx hb.2.1 hb.2.2, Nat.lt_of_lt_of_le hb.1 hk.size, hb.2⟩
theorem Limbs.put (h : Limbs b1 b2 X v t) (l : Nat) (o o' : Obj) (hl : X.heap[l]? = some o) (ho : o.isCells = false) : Limbs b1 b2 (X.putObj l o') v t := h.kept (KpB.put X l o o' hl ho)
theorem Limbs.fs {lo : Nat} (h : Fs lo X v t) (h1 : b1 < lo) (h2 : b2 < lo) : Limbs b1 b2 X v t := NatSl.mono h fun i hi => ⟨hi.2, by omega, by omega⟩
theorem Limbs.any (h : Limbs b1 b2 X v t) : NatSl X (fun i => i < X.heap.size) v (nat t) := NatSl.mono h fun _ hi => hi.1
theorem Rt.kept {g : Nat} {s : Bool} {v1 v2 : Value} (h : Rt X g s v1 v2) (hk : KpB b1 b2 X Y) (h1 : g ≠ b1) (h2 : g ≠ b2) : Rt Y g s v1 v2 := hk.same _ _ _ _ h h1 h2
/-- Three stores into a box leave limbs. -/
theorem Limbs.store {g : Nat} {s : Bool} {p p' : Option Addr} {q r q' r' : Nat} (h : Limbs b1 b2 X v t) (hr : Rt X g s (.slice p q r) (.slice p' q' r')) (x y z : Value) : Limbs b1 b2 (((X.setCell ⟨g, 0, none⟩ x).setCell ⟨g, 1, none⟩ y).setCell ⟨g, 2, none⟩ z) v t :=
  (natSl_off h hr).stand fun k hk => ⟨⟨by rw [size_store3]; exact hk.1.1, hk.1.2⟩, heap_keep3 X hk.2 x y z⟩
theorem OwnStep.store {g : Nat} (hg : g = bl ∨ g = bh) (hc : ∃ cs T fr, X.heap[g]? = some (.cells cs T fr)) (x y z : Value) : OwnStep bl bh X (((X.setCell ⟨g, 0, none⟩ x).setCell ⟨g, 1, none⟩ y).setCell ⟨g, 2, none⟩ z) :=
  ⟨rfl, rfl, rfl, by rw [size_store3]; exact Nat.le_refl _, fun k o hk ho => by
    have hne : k ≠ g := by
      rintro rfl
      obtain ⟨cs, T, fr, hx⟩ := hc
      rw [hk] at hx
      cases hx
      rcases ho with ho | ⟨h1, h2⟩
      · cases ho
      · rcases hg with rfl | rfl
        · exact h1 rfl
        · exact h2 rfl
    rw [heap_keep3 X hne]; exact hk⟩
end
theorem c_parts (s1 s2 : Bool) (v1 v2 u1 u2 : Value) (w : World) :
    Calls Tryz.prog 82 #[.agg #[.bool s1, v1, v2], .agg #[.bool s2, u1, u2]] w fun e w' => e = .returned (.func (.func 113) #[] #[.pointer (some ⟨w.heap.size, 0, none⟩), .pointer (some ⟨w.heap.size + 1, 0, none⟩)]) ∧
      w' = (w.alloc (.cells #[.bool s1, v1, v2] 25)).alloc (.cells #[.bool s2, u1, u2] 25) := by
  go_enter Tryz.func82, Tryz.ntmps82
  go_wp2_with (fail)
  exact bodyPost_ret (by simp [results, Tryz.func82, go_sem]) rfl ⟨rfl, rfl⟩

def cellV (X : World) (a : Addr) : Value := (X.cell? a).getD undef
/-- Between two rounds of the iterator. -/
def ItR (bl bh b1 b2 : Nat) (ts : List Nat) (L : Nat) (J : List Nat → World → Prop) (w : World) (wr : World) : Prop :=
  ∃ (f a b c d : Nat) (s1 s2 : Bool) (v1 v2 u1 u2 : Value) (pre : List Nat), Rt wr bl s1 v1 v2 ∧ Rt wr bh s2 u1 u2 ∧ Limbs b1 b2 wr v1 a ∧ Limbs b1 b2 wr v2 b ∧ Limbs b1 b2 wr u1 c ∧ Limbs b1 b2 wr u2 d ∧
    0 < b ∧ 0 < d ∧ b + d ≤ f ∧ a * d ≤ c * b ∧ (nat a).length ≤ L ∧ (nat b).length ≤ L ∧ (nat c).length ≤ L ∧ (nat d).length ≤ L ∧ ts = pre ++ partsF f a b c d ∧ J pre wr ∧ w.heap.size ≤ wr.heap.size

theorem calls_wide {n : Nat} {P : Program} {f : FuncId} {args : Array Value} {w : World} {R : Ending → World → Prop} (h : Calls P f args w R) : CallsIn Fence.wide n P f args w R := callsIn_wide.2 h

set_option maxHeartbeats 2000000 in
theorem c_parts1 (n : Nat) (hn : 1 ≤ n) (l bl bh b1 b2 : Nat) (hne : bl ≠ bh) (h1l : bl ≠ b1) (h2l : bl ≠ b2) (h1h : bh ≠ b1) (h2h : bh ≠ b2) (f a b c d : Nat) (s1 s2 : Bool) (v1 v2 u1 u2 : Value) (L : Nat) (hL : L ≤ 50000) (J Jx : List Nat → World → Prop) (w : World)
    (hb1 : b1 < w.heap.size) (hb2 : b2 < w.heap.size)
    (hR1 : Rt w bl s1 v1 v2) (hR2 : Rt w bh s2 u1 u2) (hv1 : Limbs b1 b2 w v1 a) (hv2 : Limbs b1 b2 w v2 b) (hu1 : Limbs b1 b2 w u1 c) (hu2 : Limbs b1 b2 w u2 d) (hb0 : 0 < b) (hd0 : 0 < d) (hf : b + d ≤ f) (hle : a * d ≤ c * b)
    (ha : (nat a).length ≤ L) (hb : (nat b).length ≤ L) (hc : (nat c).length ≤ L) (hd : (nat d).length ≤ L)
    (hJ : ∀ pre X Y, J pre X → OwnStep bl bh X Y → J pre Y)
    (hY : ∀ pre v t W1, J pre W1 → Limbs b1 b2 W1 v t → pre ++ [t] <+: partsF f a b c d → YieldAt Fence.wide (n - 1) Tryz.prog l #[v] W1 fun e W' =>
      (e = .returned (.bool true) ∧ J (pre ++ [t]) W' ∧ KpB b1 b2 W1 W') ∨ (e = .returned (.bool false) ∧ Jx (pre ++ [t]) W'))
    (h0 : J [] w) :
    CallsIn Fence.wide n Tryz.prog 113 #[.func (.yield l) #[] #[], .pointer (some ⟨bl, 0, none⟩), .pointer (some ⟨bh, 0, none⟩)] w fun e W' => (∃ v, e = .returned v) ∧ (J (partsF f a b c d) W' ∨ ∃ pre, pre <+: partsF f a b c d ∧ Jx pre W') := by
  obtain ⟨ts, hts⟩ : ∃ ts, ts = partsF f a b c d := ⟨_, rfl⟩
  have hinit : ItR bl bh b1 b2 ts L J w w := ⟨f, a, b, c, d, s1, s2, v1, v2, u1, u2, [], hR1, hR2, hv1, hv2, hu1, hu2, hb0, hd0, hf, hle, ha, hb, hc, hd, hts, h0, Nat.le_refl _⟩
  rw [← hts] at hY ⊢
  have HY := Lib.hid hY
  have HJ := Lib.hid hJ
  have HI := Lib.hid hinit
  clear hinit hY hJ h0 hts hR1 hR2 hv1 hv2 hu1 hu2 hle ha hb hc hd hb0 hd0 hf
  clear a b c d f s1 s2 v1 v2 u1 u2
  refine callsIn_of_wp Tryz.func113 rfl trivial ?_ rfl
  simp only [Tryz.ntmps113, List.size_toArray, List.length_cons, List.length_nil, Nat.reduceAdd, Nat.reduceSub, Array.replicate_succ, Array.replicate_zero, List.push_toArray, List.append_toArray, List.nil_append, List.cons_append]
  gi_wp2_with (fail)
  gi_loopw [] (fun wr => ItR bl bh b1 b2 ts L J w wr) (fun wr => slVal wr (cellV wr ⟨bl, 2, none⟩) + slVal wr (cellV wr ⟨bh, 2, none⟩))
  case atStart => exact HI.out
  case round =>
    obtain ⟨f, a, b, c, d, s1, s2, v1, v2, u1, u2, pre, hR1, hR2, hv1, hv2, hu1, hu2, hb0, hd0, hf, hle, ha, hb, hc, hd, hts, hj, hsz⟩ := hrel
    obtain ⟨A1, c1, rfl⟩ := hv1.shape
    obtain ⟨A2, c2, rfl⟩ := hv2.shape
    obtain ⟨A3, c3, rfl⟩ := hu1.shape
    obtain ⟨A4, c4, rfl⟩ := hu2.shape
    have up : ∀ {v : Value} {t : Nat} {X : World}, Limbs b1 b2 wr v t → Below wr.heap.size wr X → NatSl X (fun i => i < X.heap.size) v (nat t) := fun h hX => NatSl.below h hX (fun i hi => ⟨hi.1, Nat.lt_of_lt_of_le hi.1 hX.size⟩)
    have HD1 := Lib.hid (fun (X : World) (hX : Below wr.heap.size wr X) => c_divideN a b hb0 (by omega) (by omega) _ _ X (up hv1 hX) (up hv2 hX))
    have HD2 := Lib.hid (fun (X : World) (hX : Below wr.heap.size wr X) => c_divideN c d hd0 (by omega) (by omega) _ _ X (up hu1 hX) (up hu2 hX))
    have HR1 := Lib.hid hR1
    have HR2 := Lib.hid hR2
    have HV2 := Lib.hid hv2
    have HU2 := Lib.hid hu2
    have HTS := Lib.hid hts
    have HJ1 := Lib.hid hj
    have HLE := Lib.hid hle
    obtain ⟨x0, x1, x2⟩ := hR1.cells
    obtain ⟨y0, y1, y2⟩ := hR2.cells
    clear up hv1 hv2 hu1 hu2 hR1 hR2 hts hj hle
    -- the two divisions, and which of the three ways
    by_cases hr : a % b = 0
    · have hm0 : (((nat (a % b)).length : Int) == 0) = true := by rw [hr, nat_zero]; rfl
      have HTQ := Lib.hid (show ts = pre ++ [a / b] by
        rw [HTS.out]
        obtain ⟨f', rfl⟩ : ∃ f', f = f' + 1 := ⟨f - 1, by omega⟩
        simp only [partsF, if_pos hr])
      clear hr
      gi_wp2_with (fail)
      refine ⟨trivial, ?_⟩
      refine (calls_wide (HD1.out _ (Below.refl _ _))).mono ?_
      rintro e w1 ⟨q1, r1, rfl, gq1, gr1, hb1'⟩
      obtain ⟨B1, d1, rfl⟩ := gq1.shape
      obtain ⟨B2, d2, rfl⟩ := gr1.shape
      have hz1 := hb1'.size
      have HR11 := Lib.hid (HR1.out.on hb1' HR1.out.lt)
      have HR21 := Lib.hid (HR2.out.on hb1' HR2.out.lt)
      have HQ1 := Lib.hid gq1
      have HM1 := Lib.hid gr1
      have HB1 := Lib.hid hb1'
      clear gq1 gr1 hb1' x0 x1 x2 y0 y1 y2
      obtain ⟨x0, x1, x2⟩ := HR11.out.cells
      obtain ⟨y0, y1, y2⟩ := HR21.out.cells
      gi_wp2_with (fail)
      refine ⟨trivial, ?_⟩
      refine (calls_wide (HD2.out _ HB1.out)).mono ?_
      rintro e w2 ⟨q2, r2, rfl, gq2, gr2, hb2'⟩
      obtain ⟨B3, d3, rfl⟩ := gq2.shape
      obtain ⟨B4, d4, rfl⟩ := gr2.shape
      have hz2 := hb2'.size
      have HR12 := Lib.hid (HR11.out.on hb2' HR11.out.lt)
      have HR22 := Lib.hid (HR21.out.on hb2' HR21.out.lt)
      have HQ12 := Lib.hid (HQ1.out.on hb2')
      have HM12 := Lib.hid (HM1.out.on hb2')
      have HQ2 := Lib.hid gq2
      have HM2 := Lib.hid gr2
      have HB2 := Lib.hid (below_join HB1.out hb2' HB1.out.size)
      clear gq2 gr2 hb2' x0 x1 x2 y0 y1 y2
      obtain ⟨x0, x1, x2⟩ := HR12.out.cells
      obtain ⟨y0, y1, y2⟩ := HR22.out.cells
      have HJ2 := Lib.hid (HJ.out _ _ _ HJ1.out (OwnStep.of_below HB2.out (Nat.le_refl _)))
      have HLQ := Lib.hid (Limbs.fs HQ12.out (show b1 < wr.heap.size by omega) (show b2 < wr.heap.size by omega))
      obtain ⟨fn, tmps, assign, body, hy, hR⟩ := HY.out pre _ (a / b) w2 HJ2.out HLQ.out (by rw [HTQ.out]; exact List.prefix_rfl)
      gi_wp2_with (fail)
      refine hR.mono ?_
      rintro e W3 (⟨rfl, hJ3, -⟩ | ⟨rfl, hJx3⟩)
      · have HJ3 := Lib.hid hJ3
        clear hJ3 hy
        gi_wp2_with (fail)
        refine bodyPost_ret (results_none rfl _ _ _) rfl ?_
        exact ⟨⟨_, rfl⟩, .inl (by rw [HTQ.out]; exact HJ3.out)⟩
      · have Hx := Lib.hid hJx3
        clear hJx3 hy
        gi_wp2_with (fail)
        refine bodyPost_ret (results_none rfl _ _ _) rfl ?_
        exact ⟨⟨_, rfl⟩, .inr ⟨_, (by rw [HTQ.out]; exact List.prefix_rfl), Hx.out⟩⟩
    · by_cases hq : a / b < c / d
      · have hm0 : (((nat (a % b)).length : Int) == 0) = false := by
          rw [beq_eq_false_iff_ne]
          have := nat_len_pos.2 (Nat.pos_of_ne_zero hr)
          omega
        have HTQ := Lib.hid (show ts = pre ++ [a / b + 1] by
          rw [HTS.out]
          obtain ⟨f', rfl⟩ : ∃ f', f = f' + 1 := ⟨f - 1, by omega⟩
          simp only [partsF, if_neg hr, if_pos hq])
        have HC := Lib.hid (show cmpI (a / b) (c / d) < 0 by unfold cmpI; rw [if_pos hq]; decide)
        have HL1 := Lib.hid (show (nat (a / b)).length ≤ 50000 from len_le_of_le (Nat.div_le_self a b) (by omega))
        clear hr hq
        gi_wp2_with (fail)
        refine ⟨trivial, ?_⟩
        refine (calls_wide (HD1.out _ (Below.refl _ _))).mono ?_
        rintro e w1 ⟨q1, r1, rfl, gq1, gr1, hb1'⟩
        obtain ⟨B1, d1, rfl⟩ := gq1.shape
        obtain ⟨B2, d2, rfl⟩ := gr1.shape
        have hz1 := hb1'.size
        have HR11 := Lib.hid (HR1.out.on hb1' HR1.out.lt)
        have HR21 := Lib.hid (HR2.out.on hb1' HR2.out.lt)
        have HQ1 := Lib.hid gq1
        have HM1 := Lib.hid gr1
        have HB1 := Lib.hid hb1'
        clear gq1 gr1 hb1' x0 x1 x2 y0 y1 y2
        obtain ⟨x0, x1, x2⟩ := HR11.out.cells
        obtain ⟨y0, y1, y2⟩ := HR21.out.cells
        gi_wp2_with (fail)
        refine ⟨trivial, ?_⟩
        refine (calls_wide (HD2.out _ HB1.out)).mono ?_
        rintro e w2 ⟨q2, r2, rfl, gq2, gr2, hb2'⟩
        obtain ⟨B3, d3, rfl⟩ := gq2.shape
        obtain ⟨B4, d4, rfl⟩ := gr2.shape
        have hz2 := hb2'.size
        have HR12 := Lib.hid (HR11.out.on hb2' HR11.out.lt)
        have HR22 := Lib.hid (HR21.out.on hb2' HR21.out.lt)
        have HQ12 := Lib.hid (HQ1.out.on hb2')
        have HM12 := Lib.hid (HM1.out.on hb2')
        have HQ2 := Lib.hid gq2
        have HM2 := Lib.hid gr2
        have HB2 := Lib.hid (below_join HB1.out hb2' HB1.out.size)
        clear gq2 gr2 hb2' x0 x1 x2 y0 y1 y2
        obtain ⟨x0, x1, x2⟩ := HR12.out.cells
        obtain ⟨y0, y1, y2⟩ := HR22.out.cells
        have HJ2 := Lib.hid (HJ.out _ _ _ HJ1.out (OwnStep.of_below HB2.out (Nat.le_refl _)))
        have HLQ := Lib.hid (Limbs.fs HQ12.out (show b1 < wr.heap.size by omega) (show b2 < wr.heap.size by omega))
        gi_wp2_with (fail)
        refine ⟨trivial, ?_⟩
        refine (calls_wide (c_compareF HQ12.out HQ2.out)).mono ?_
        rintro e w2' ⟨rfl, nd, rfl⟩
        have hcmp := HC.out
        generalize cmpI (a / b) (c / d) = z at hcmp
        gi_wp2_with (fail)
        refine ⟨trivial, ?_⟩
        refine (calls_wide (c_one _)).mono ?_
        rintro e w3 ⟨o1, rfl, go1, hb3'⟩
        obtain ⟨B5, d5, rfl⟩ := go1.shape
        have hb3 := Below.undrewN hb3'
        have HB3 := Lib.hid (below_join HB2.out hb3 HB2.out.size)
        have HQ13 := Lib.hid (HQ12.out.on hb3)
        have HO3 := Lib.hid (show Fs w2.heap.size w3 _ 1 from go1)
        have hz3 := hb3.size
        clear go1 hb3 hb3'
        gi_wp2_with (fail)
        refine ⟨trivial, ?_⟩
        refine (calls_wide (c_addF HQ13.out HO3.out (by have := HL1.out; omega) (by have := nat_len_u64 (n := 1) (by omega); omega))).mono ?_
        rintro e w4 ⟨o2, rfl, go2, hb4⟩
        obtain ⟨B6, d6, rfl⟩ := go2.shape
        have HB4 := Lib.hid (below_join HB3.out hb4 HB3.out.size)
        have HLS := Lib.hid (Limbs.fs (show Fs w3.heap.size w4 _ (a / b + 1) from go2) (show b1 < w3.heap.size by omega) (show b2 < w3.heap.size by omega))
        have HJ4 := Lib.hid (HJ.out _ _ _ HJ1.out (OwnStep.of_below HB4.out (Nat.le_refl _)))
        clear go2 hb4
        obtain ⟨fn, tmps, assign, body, hy, hR⟩ := HY.out pre _ (a / b + 1) w4 HJ4.out HLS.out (by rw [HTQ.out]; exact List.prefix_rfl)
        gi_wp2_with (fail)
        refine hR.mono ?_
        rintro e W3 (⟨rfl, hJ3, -⟩ | ⟨rfl, hJx3⟩)
        · have HJ3 := Lib.hid hJ3
          clear hJ3 hy
          gi_wp2_with (fail)
          refine bodyPost_ret (results_none rfl _ _ _) rfl ?_
          exact ⟨⟨_, rfl⟩, .inl (by rw [HTQ.out]; exact HJ3.out)⟩
        · have Hx := Lib.hid hJx3
          clear hJx3 hy
          gi_wp2_with (fail)
          refine bodyPost_ret (results_none rfl _ _ _) rfl ?_
          exact ⟨⟨_, rfl⟩, .inr ⟨_, (by rw [HTQ.out]; exact List.prefix_rfl), Hx.out⟩⟩
      · have hm0 : (((nat (a % b)).length : Int) == 0) = false := by
          rw [beq_eq_false_iff_ne]
          have := nat_len_pos.2 (Nat.pos_of_ne_zero hr)
          omega
        obtain ⟨f', rfl⟩ : ∃ f', f = f' + 1 := ⟨f - 1, by omega⟩
        have HTQ := Lib.hid (show ts = (pre ++ [a / b]) ++ partsF f' d (c % d) b (a % b) by
          rw [HTS.out]
          simp only [partsF, if_neg hr, if_neg hq, List.append_assoc, List.cons_append, List.nil_append])
        have HINV := Lib.hid (parts_inv hb0 hd0 HLE.out hr hq)
        have HRR := Lib.hid (Nat.pos_of_ne_zero hr)
        have HC := Lib.hid (show ¬ cmpI (a / b) (c / d) < 0 by unfold cmpI; rw [if_neg hq]; split <;> decide)
        have hmb := Nat.mod_lt a hb0
        have hmd := Nat.mod_lt c hd0
        clear hr hq
        gi_wp2_with (fail)
        refine ⟨trivial, ?_⟩
        refine (calls_wide (HD1.out _ (Below.refl _ _))).mono ?_
        rintro e w1 ⟨q1, r1, rfl, gq1, gr1, hb1'⟩
        obtain ⟨B1, d1, rfl⟩ := gq1.shape
        obtain ⟨B2, d2, rfl⟩ := gr1.shape
        have hz1 := hb1'.size
        have HR11 := Lib.hid (HR1.out.on hb1' HR1.out.lt)
        have HR21 := Lib.hid (HR2.out.on hb1' HR2.out.lt)
        have HQ1 := Lib.hid gq1
        have HM1 := Lib.hid gr1
        have HB1 := Lib.hid hb1'
        clear gq1 gr1 hb1' x0 x1 x2 y0 y1 y2
        obtain ⟨x0, x1, x2⟩ := HR11.out.cells
        obtain ⟨y0, y1, y2⟩ := HR21.out.cells
        gi_wp2_with (fail)
        refine ⟨trivial, ?_⟩
        refine (calls_wide (HD2.out _ HB1.out)).mono ?_
        rintro e w2 ⟨q2, r2, rfl, gq2, gr2, hb2'⟩
        obtain ⟨B3, d3, rfl⟩ := gq2.shape
        obtain ⟨B4, d4, rfl⟩ := gr2.shape
        have hz2 := hb2'.size
        have HR12 := Lib.hid (HR11.out.on hb2' HR11.out.lt)
        have HR22 := Lib.hid (HR21.out.on hb2' HR21.out.lt)
        have HQ12 := Lib.hid (HQ1.out.on hb2')
        have HM12 := Lib.hid (HM1.out.on hb2')
        have HQ2 := Lib.hid gq2
        have HM2 := Lib.hid gr2
        have HB2 := Lib.hid (below_join HB1.out hb2' HB1.out.size)
        clear gq2 gr2 hb2' x0 x1 x2 y0 y1 y2
        obtain ⟨x0, x1, x2⟩ := HR12.out.cells
        obtain ⟨y0, y1, y2⟩ := HR22.out.cells
        have HJ2 := Lib.hid (HJ.out _ _ _ HJ1.out (OwnStep.of_below HB2.out (Nat.le_refl _)))
        have HLQ := Lib.hid (Limbs.fs HQ12.out (show b1 < wr.heap.size by omega) (show b2 < wr.heap.size by omega))
        gi_wp2_with (fail)
        refine ⟨trivial, ?_⟩
        refine (calls_wide (c_compareF HQ12.out HQ2.out)).mono ?_
        rintro e w2' ⟨rfl, nd, rfl⟩
        have hcmp := HC.out
        generalize cmpI (a / b) (c / d) = z at hcmp
        obtain ⟨w3, hw3⟩ : ∃ w3, w3 = w2.drewN nd := ⟨_, rfl⟩
        have HJ3 := Lib.hid (show J pre w3 by subst hw3; exact HJ.out _ _ _ HJ2.out (OwnStep.of_below (below_drewN (Below.refl w2.heap.size w2) nd) (Nat.le_refl _)))
        have HLQ3 := Lib.hid (show Limbs b1 b2 w3 (.slice B1 (nat (a / b)).length d1) (a / b) by subst hw3; exact HLQ.out)
        have hz3 : w2.heap.size = w3.heap.size := by subst hw3; rfl
        have HR13 := Lib.hid (show Rt w3 bl s1 _ _ by subst hw3; exact HR12.out)
        have HR23 := Lib.hid (show Rt w3 bh s2 _ _ by subst hw3; exact HR22.out)
        have HM13 := Lib.hid (show Limbs b1 b2 w3 (.slice B2 (nat (a % b)).length d2) (a % b) by subst hw3; exact Limbs.fs HM12.out (by omega) (by omega))
        have HM23 := Lib.hid (show Limbs b1 b2 w3 (.slice B4 (nat (c % d)).length d4) (c % d) by subst hw3; exact Limbs.fs HM2.out (by omega) (by omega))
        have HV23 := Lib.hid (show Limbs b1 b2 w3 _ b by subst hw3; exact (HV2.out.kept (KpB.of_below (below_drewN HB2.out nd) (Nat.le_refl _))))
        have HU23 := Lib.hid (show Limbs b1 b2 w3 _ d by subst hw3; exact (HU2.out.kept (KpB.of_below (below_drewN HB2.out nd) (Nat.le_refl _))))
        rw [← hw3]
        clear hw3 x0 x1 x2 y0 y1 y2
        obtain ⟨fn, tmps, assign, body, hy, hR⟩ := HY.out pre _ (a / b) w3 HJ3.out HLQ3.out (by rw [HTQ.out]; exact List.prefix_append _ _)
        gi_wp2_with (fail)
        refine hR.mono ?_
        rintro e W3 (⟨rfl, hJ3, hk3⟩ | ⟨rfl, hJx3⟩)
        · have HJ4 := Lib.hid hJ3
          have HR14 := Lib.hid (HR13.out.kept hk3 h1l h2l)
          have HR24 := Lib.hid (HR23.out.kept hk3 h1h h2h)
          have HM14 := Lib.hid (HM13.out.kept hk3)
          have HM24 := Lib.hid (HM23.out.kept hk3)
          have HV24 := Lib.hid (HV23.out.kept hk3)
          have HU24 := Lib.hid (HU23.out.kept hk3)
          have hz4 := hk3.size
          clear hJ3 hy hk3
          obtain ⟨x0, x1, x2⟩ := HR14.out.cells
          obtain ⟨y0, y1, y2⟩ := HR24.out.cells
          obtain ⟨f0, f1, f2⟩ := HR14.out.frozen
          obtain ⟨g0, g1, g2⟩ := HR24.out.frozen
          gi_wp2_with (fail)
          have hrb : ∀ x y z : Value, Rt (((W3.setCell ⟨bl, 0, none⟩ x).setCell ⟨bl, 1, none⟩ y).setCell ⟨bl, 2, none⟩ z) bh s2 _ _ := fun x y z => row_keep3 HR24.out (Ne.symm hne) x y z
          have sl : ∀ {v : Value} {t : Nat}, Limbs b1 b2 W3 v t → ∀ x y z x' y' z' : Value, Limbs b1 b2 ((((((W3.setCell ⟨bl, 0, none⟩ x).setCell ⟨bl, 1, none⟩ y).setCell ⟨bl, 2, none⟩ z).setCell ⟨bh, 0, none⟩ x').setCell ⟨bh, 1, none⟩ y').setCell ⟨bh, 2, none⟩ z') v t := fun h x y z x' y' z' => (h.store HR14.out x y z).store (hrb x y z) x' y' z'
          have hI1 : ItR bl bh b1 b2 ts L J w _ := ⟨f', d, c % d, b, a % b, false, false, _, _, _, _, pre ++ [a / b], row_keep3 (row_store3 HR14.out (.bool false) (.slice A4 (nat d).length c4) (.slice B4 (nat (c % d)).length d4)) hne (.bool false) (.slice A2 (nat b).length c2) (.slice B2 (nat (a % b)).length d2), row_store3 (hrb _ _ _) _ _ _, sl HU24.out _ _ _ _ _ _, sl HM24.out _ _ _ _ _ _, sl HV24.out _ _ _ _ _ _, sl HM14.out _ _ _ _ _ _, HINV.out.1, HRR.out, by omega, HINV.out.2.2, hd, len_le_of_le (Nat.le_of_lt hmd) hd, hb, len_le_of_le (Nat.le_of_lt hmb) hb, HTQ.out,
            HJ.out _ _ _ HJ4.out ((OwnStep.store (.inl rfl) ⟨_, _, _, HR14.out⟩ _ _ _).trans (OwnStep.store (.inr rfl) ⟨_, _, _, hrb _ _ _⟩ _ _ _)), by rw [size_store3, size_store3]; omega⟩
          refine ⟨hI1, ?_⟩
          obtain ⟨-, -, k1⟩ := (show Rt _ bl false _ _ from row_keep3 (row_store3 HR14.out (.bool false) (.slice A4 (nat d).length c4) (.slice B4 (nat (c % d)).length d4)) hne (.bool false) (.slice A2 (nat b).length c2) (.slice B2 (nat (a % b)).length d2)).cells
          obtain ⟨-, -, k2⟩ := (show Rt _ bh false _ _ from row_store3 (hrb (.bool false) (.slice A4 (nat d).length c4) (.slice B4 (nat (c % d)).length d4)) (.bool false) (.slice A2 (nat b).length c2) (.slice B2 (nat (a % b)).length d2)).cells
          obtain ⟨-, -, k3⟩ := HR1.out.cells
          obtain ⟨-, -, k4⟩ := HR2.out.cells
          unfold cellV
          rw [k1, k2, k3, k4]
          simp only [Option.getD_some]
          rw [slVal_fs (sl HM24.out _ _ _ _ _ _), slVal_fs (sl HM14.out _ _ _ _ _ _), slVal_fs HV2.out, slVal_fs HU2.out]
          omega
        · have Hx := Lib.hid hJx3
          clear hJx3 hy
          gi_wp2_with (fail)
          refine bodyPost_ret (results_none rfl _ _ _) rfl ?_
          exact ⟨⟨_, rfl⟩, .inr ⟨_, (by rw [HTQ.out]; exact List.prefix_append _ _), Hx.out⟩⟩
end Go.Proofs.YtfdkdloldjfnjaaGreatDoor
