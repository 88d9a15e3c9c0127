/-
  DERIVED. Several texts in one.
-/
import Derived.Test.YtidpiokkfnhobaaGreatPV51
import Derived.IntWalk
import Derived.WalkMore
import Derived.OwnWalk
import Derived.Laws.CopyOwn
import Derived.Deep.RegionLaw
import Derived.ArgAppend
import Derived.Deep.LoopGhost
set_option linter.unusedVariables false
set_option linter.unusedSimpArgs false

namespace Go.Proofs.YtidpiokkfnhobaaGreat.v5
open Go.RowKit Go.Shelf
set_option maxRecDepth 100000

set_option maxHeartbeats 4000000 in
theorem xor_flip : ∀ m : Nat, m < 256 → bits .xor .i64 (m : Int) 1 = (flip m : Int) := by decide +kernel
/-- Numbers in cells that may be written. -/
def Row (X : World) (b o : Nat) (L : List Int) : Prop := ∀ k x, L[k]? = some x → X.cell? ⟨b, o + k, none⟩ = some (.int .i64 x) ∧ X.frozen? ⟨b, o + k, none⟩ = false
section
variable {X Y : World} {b o : Nat} {L : List Int}
theorem frozen_of_block {X Y : World} {b o : Nat} (h : Y.heap[b]? = X.heap[b]?) : Y.frozen? ⟨b, o, none⟩ = X.frozen? ⟨b, o, none⟩ := World.frozen?_of_block h
theorem Row.kept (h : Row X b o L) (hk : ∀ cs t fr, X.heap[b]? = some (.cells cs t fr) → Y.heap[b]? = some (.cells cs t fr)) : Row Y b o L := fun k x hx => by
  obtain ⟨h1, h2⟩ := h k x hx
  obtain ⟨cs, t, fr, hb⟩ := cell_block h1
  have e : Y.heap[b]? = X.heap[b]? := (hk _ _ _ hb).trans hb.symm
  exact ⟨(World.cell?_of_block (a := ⟨b, o + k, none⟩) e).trans h1, (frozen_of_block e).trans h2⟩
theorem Row.other {b' i : Nat} (h : Row X b o L) (hne : b ≠ b') (v : Value) : Row (X.setCell ⟨b', i, none⟩ v) b o L :=
  h.kept fun cs t fr hb => by rw [Below.heap_setCell X ⟨b', i, none⟩ v b hne]; exact hb
theorem Row.set {j : Nat} (h : Row X b o L) (hj : j < L.length) (x : Int) : Row (X.setCell ⟨b, o + j, none⟩ (.int .i64 x)) b o (L.set j x) := fun k y hy => by
  rw [List.getElem?_set] at hy
  have h0 := h j _ (List.getElem?_eq_getElem hj)
  by_cases e : j = k
  · subst e
    rw [if_pos rfl, if_pos hj] at hy
    injection hy with hy
    subst hy
    obtain ⟨h1, h2⟩ := h0
    refine ⟨?_, ?_⟩ <;> go_simp
  · rw [if_neg e] at hy
    obtain ⟨h1, h2⟩ := h k y hy
    obtain ⟨h3, h4⟩ := h0
    have hne : ¬ (o + k = o + j) := by omega
    have hne2 : ¬ (k = j) := by omega
    refine ⟨?_, ?_⟩ <;> go_simp
theorem Row.lt (h : Row X b o L) (h0 : 0 < L.length) : b < X.heap.size := by
  obtain ⟨h1, -⟩ := h 0 _ (List.getElem?_eq_getElem h0)
  obtain ⟨cs, t, fr, hb⟩ := cell_block h1
  exact at_lt hb
end
theorem boxed_far {X : World} {B b i : Nat} {T : TypeId} {v : Value} (h : Boxed X B T v) (hne : B ≠ b) (u : Value) : Boxed (X.setCell ⟨b, i, none⟩ u) B T v := (Below.heap_setCell X ⟨b, i, none⟩ u B hne).trans h
theorem three_stores {X : World} {b o bL m : Nat} {l : List Ar} {T : TypeId} {d x y left : Int} (h : Row X b o (rooms l)) (hm : m < 2 * l.length) (hx : mvRoom l m = x) (hy : mvRoom l (flip m) = y) (hL : Boxed X bL T (.int .i64 left)) (hne : bL ≠ b) :
    (X.setCell ⟨b, o + m, none⟩ (.int .i64 (x - d))).cell? ⟨b, o + flip m, none⟩ = some (.int .i64 y) ∧ (X.setCell ⟨b, o + m, none⟩ (.int .i64 (x - d))).frozen? ⟨b, o + flip m, none⟩ = false ∧
    ((X.setCell ⟨b, o + m, none⟩ (.int .i64 (x - d))).setCell ⟨b, o + flip m, none⟩ (.int .i64 (y + d))).cell? ⟨bL, 0, none⟩ = some (.int .i64 left) ∧ ((X.setCell ⟨b, o + m, none⟩ (.int .i64 (x - d))).setCell ⟨b, o + flip m, none⟩ (.int .i64 (y + d))).frozen? ⟨bL, 0, none⟩ = false ∧
    Row (((X.setCell ⟨b, o + m, none⟩ (.int .i64 (x - d))).setCell ⟨b, o + flip m, none⟩ (.int .i64 (y + d))).setCell ⟨bL, 0, none⟩ (.int .i64 (left - d))) b o (rooms (mvSend l m d)) ∧
    Boxed (((X.setCell ⟨b, o + m, none⟩ (.int .i64 (x - d))).setCell ⟨b, o + flip m, none⟩ (.int .i64 (y + d))).setCell ⟨bL, 0, none⟩ (.int .i64 (left - d))) bL T (.int .i64 (left - d)) := by
  have hf := flip_half m
  have h1 := h.set (show m < (rooms l).length by rw [rooms_len]; omega) (x - d)
  have h2 := h1 (flip m) y (by rw [List.getElem?_set_ne (fun e => hf.2.1 e.symm), rooms_get (by omega), hy])
  have h3 := h1.set (j := flip m) (by rw [List.length_set, rooms_len]; omega) (y + d)
  have hB := boxed_far (i := o + flip m) (boxed_far (i := o + m) hL hne (.int .i64 (x - d))) hne (.int .i64 (y + d))
  refine ⟨h2.1, h2.2, hB.cell, hB.frozen, ?_, hB.set _⟩
  have h4 := h3.other (i := 0) (fun e => hne e.symm) (.int .i64 (left - d))
  rw [rooms_send hm, hx, hy]
  exact h4
theorem alloc_cell {W : World} {a : Addr} {v : Value} (h : W.cell? a = some v) (o : Obj) : (W.alloc o).cell? a = some v := (World.cell?_alloc_some W a o (by rw [h]; rfl)).trans h
theorem alloc_cell2 {W : World} {a : Addr} {v : Value} (h : W.cell? a = some v) (o o' : Obj) : ((W.alloc o).alloc o').cell? a = some v := alloc_cell (alloc_cell h o) o'
/-- All blocks but some stand. -/
structure Out (S : Nat → Prop) (X Y : World) : Prop where
  os : Y.os = X.os
  tape : Y.tape = X.tape
  output : Y.output = X.output
  size : X.heap.size ≤ Y.heap.size
  same : ∀ (k : Nat) (o : Obj), ¬ S k → X.heap[k]? = some o → Y.heap[k]? = some o
section
variable {S : Nat → Prop} {X Y Z : World}
theorem Out.refl (X : World) : Out S X X := ⟨rfl, rfl, rfl, Nat.le_refl _, fun _ _ _ h => h⟩
theorem Out.trans (h : Out S X Y) (k : Out S Y Z) : Out S X Z := ⟨k.os.trans h.os, k.tape.trans h.tape, k.output.trans h.output, Nat.le_trans h.size k.size, fun i o ho hi => k.same i o ho (h.same i o ho hi)⟩
theorem Out.of_below {B : Nat} (h : Below B X Y) (hB : X.heap.size ≤ B) : Out S X Y := ⟨h.os, h.tape, h.output, h.size, fun k _ _ hk => (h.block k (Nat.lt_of_lt_of_le (at_lt hk) hB)).trans hk⟩
theorem Out.drew : Out S X X.drew := ⟨rfl, rfl, rfl, Nat.le_refl _, fun _ _ _ h => h⟩
theorem Out.store {b i : Nat} (hb : S b) (v : Value) : Out S X (X.setCell ⟨b, i, none⟩ v) :=
  ⟨rfl, rfl, rfl, by simp [World.setCell], fun k u hne hk => by rw [Below.heap_setCell _ ⟨b, i, none⟩ v k (fun e => hne (by subst e; exact hb))]; exact hk⟩
/-- A store into a block that was not there at the start. -/
theorem Out.store_new {b i : Nat} (h : Out S X Y) (hb : X.heap.size ≤ b) (v : Value) : Out S X (Y.setCell ⟨b, i, none⟩ v) :=
  ⟨h.os, h.tape, h.output, by simpa [World.setCell] using h.size, fun k u hne hk => by
    rw [Below.heap_setCell _ ⟨b, i, none⟩ v k (by have := at_lt hk; show k ≠ b; omega)]; exact h.same k u hne hk⟩
theorem Out.own {T m : Nat} (h : Out S X Y) (hE : OwnIt T m Y Z) (hT : X.heap.size ≤ T) : Out S X Z :=
  ⟨hE.os.trans h.os, hE.tape.trans h.tape, hE.output.trans h.output, Nat.le_trans h.size hE.size, fun k o hk ho => hE.same k o (h.same k o hk ho) (.inl (Nat.lt_of_lt_of_le (at_lt ho) hT))⟩
theorem Out.put {l : Nat} {o' : Obj} (h : Out S X Y) (hl : X.heap.size ≤ l) : Out S X (Y.putObj l o') :=
  ⟨h.os, h.tape, h.output, by simpa using h.size, fun k o hk ho => put_else (h.same k o hk ho) (by have := at_lt ho; omega)⟩
theorem Out.kp {Gd : Nat → Prop} (h : Out S X Y) (hg : ∀ k, Gd k → ¬ S k) : KpG Gd X Y := ⟨h.size, fun k _ _ _ g hk => h.same k _ (hg k g) hk⟩
theorem Out.out {T : Nat → Prop} (h : Out S X Y) (hs : ∀ k, S k → T k) : Out T X Y := ⟨h.os, h.tape, h.output, h.size, fun k o hk ho => h.same k o (fun hh => hk (hs k hh)) ho⟩
theorem Out.below {w : World} (h : Out S X Y) (k : Below w.heap.size w X) (hs : ∀ i, i < w.heap.size → ¬ S i) : Below w.heap.size w Y := by
  refine ⟨h.os.trans k.os, h.tape.trans k.tape, h.output.trans k.output, Nat.le_trans k.size h.size, fun i hi => ?_⟩
  have hlt : i < X.heap.size := Nat.lt_of_lt_of_le hi k.size
  have h3 := Array.getElem?_eq_getElem hlt
  rw [h.same i _ (hs i hi) h3, ← h3]
  exact k.block i hi
end
/-- Where the rest of a net lies. -/
structure Rs where
  E : Value
  R : Value
  bE : Nat
  oE : Nat
  cE : Nat
  bR : Nat
  oR : Nat
  cR : Nat
  bM : Nat
  oM : Nat
  cM : Nat
  hd : Nat → Value
def Rs.M (r : Rs) (N : Nat) : Value := .slice (some ⟨r.bM, r.oM, none⟩) N r.cM
def Rs.val (r : Rs) (N : Nat) : Value := .agg #[r.E, r.R, r.M N]
structure RShape (r : Rs) (N : Nat) (l : List Ar) : Prop where
  se : 0 < l.length → r.E = .slice (some ⟨r.bE, r.oE, none⟩) (2 * l.length) r.cE ∧ 2 * l.length ≤ r.cE ∧ r.cE ≤ maxLen
  sr : 0 < l.length → r.R = .slice (some ⟨r.bR, r.oR, none⟩) (2 * l.length) r.cR ∧ 2 * l.length ≤ r.cR ∧ r.cR ≤ maxLen
  sm : N ≤ r.cM ∧ r.cM ≤ maxLen
  /-- E and R are slices, whatever they are. -/
  es : ∃ A n c, r.E = .slice A n c
  rs : ∃ A n c, r.R = .slice A n c
structure RFix (X : World) (r : Rs) (N : Nat) (l : List Ar) : Prop where
  ends : ∀ k q, mvTo l k = some q → X.cell? ⟨r.bE, r.oE + k, none⟩ = some (.int .i64 (q : Int))
  moves : ∀ n, n < N → ∃ A c, r.hd n = .slice A (mvs l n).length c ∧ X.cell? ⟨r.bM, r.oM + n, none⟩ = some (r.hd n) ∧ IntSl X (r.hd n) (nats (mvs l n))
theorem rFix_same {X : World} {r : Rs} {N : Nat} {l l' : List Ar} (h : RFix X r N l) (e : ends l' = ends l) : RFix X r N l' :=
  ⟨fun k q hq => h.ends k q (by rw [← mvTo_ends e]; exact hq), fun n hn => by rw [mvs_ends e]; exact h.moves n hn⟩
theorem rShape_same {r : Rs} {N : Nat} {l l' : List Ar} (h : RShape r N l) (e : ends l' = ends l) : RShape r N l' :=
  ⟨fun h0 => by rw [ends_len e] at h0 ⊢; exact h.se h0, fun h0 => by rw [ends_len e] at h0 ⊢; exact h.sr h0, h.sm, h.es, h.rs⟩
/-- What send's closure holds on to. -/
structure Sd where
  bt : Nat
  br : Nat
  bf : Nat
  bo : Nat
  bF : Nat
  oF : Nat
  cF : Nat
def Sd.lb (s : Sd) : Array Value := #[.pointer (some ⟨s.bt, 0, none⟩), .pointer (some ⟨s.br, 0, none⟩), .pointer (some ⟨s.bf, 0, none⟩), .pointer (some ⟨s.bo, 0, none⟩)]
structure SFx (X : World) (s : Sd) (r : Rs) (N t : Nat) (l : List Ar) : Prop where
  bt : Boxed X s.bt 3 (.int .i64 (t : Int))
  br : X.heap[s.br]? = some (.cells #[r.E, r.R, r.M N] 95 (0, 0))
  bf : Boxed X s.bf 69 (.slice (some ⟨s.bF, s.oF, none⟩) N s.cF)
  bo : Boxed X s.bo 132 (.func (.func 116) #[] s.lb)
  fix : RFix X r N l
def GS (r : Rs) (s : Sd) (k : Nat) : Prop := k ≠ r.bR ∧ k ≠ s.bF
def SFxA (W : World) (s : Sd) (r : Rs) (N t : Nat) (l : List Ar) : Prop := ∀ Y, KpG (GS r s) W Y → SFx Y s r N t l
theorem SFxA.on {W Y : World} {s : Sd} {r : Rs} {N t : Nat} {l : List Ar} (h : SFxA W s r N t l) (k : KpG (GS r s) W Y) : SFxA Y s r N t l := fun Z hZ => h Z (k.trans hZ)
theorem sFxA_same {W : World} {s : Sd} {r : Rs} {N t : Nat} {l l' : List Ar} (h : SFxA W s r N t l) (e : ends l' = ends l) : SFxA W s r N t l' := fun Z hZ =>
  ⟨(h Z hZ).bt, (h Z hZ).br, (h Z hZ).bf, (h Z hZ).bo, rFix_same (h Z hZ).fix e⟩
end Go.Proofs.YtidpiokkfnhobaaGreat.v5

namespace Go.Proofs.YtidpiokkfnhobaaGreat.v5
open Go.RowKit Go.Shelf
attribute [local go_sem] Oper.semAt_some
set_option maxRecDepth 100000
set_option linter.unusedSimpArgs false
set_option linter.unusedVariables false

/-- What onward leaves. -/
def OnPost (r : Rs) (s : Sd) (t : Nat) (l : List Ar) (F : List Int) (p : Nat) (most : Int) (W : World) (e : Ending) (w' : World) : Prop :=
  ∃ d l' F', e = .returned (.int .i64 d) ∧ Onw t l F p most l' F' d ∧ Row w' r.bR r.oR (rooms l') ∧ Row w' s.bF s.oF F' ∧ Out (fun k => k = r.bR ∨ k = s.bF) W w'
/-- Between two rounds of onward: bL: the box of what is left; V: the world as the loop began. -/
structure OnI (r : Rs) (s : Sd) (t : Nat) (l : List Ar) (F : List Int) (p : Nat) (most : Int) (bL : Nat) (W V : World) (pre : List Nat) (l1 : List Ar) (F1 : List Int) (left : Int) (X : World) : Prop where
  mid : Mid t l F p most pre l1 F1 left
  rr : Row X r.bR r.oR (rooms l1)
  rf : Row X s.bF s.oF F1
  lf : Boxed X bL 3 (.int .i64 left)
  kp : KpG (fun k => k ≠ r.bR ∧ k ≠ s.bF ∧ k ≠ bL) V X
  out : Out (fun k => k = r.bR ∨ k = s.bF) W X
section
variable {r : Rs} {s : Sd} {t : Nat} {l : List Ar} {F : List Int} {p : Nat} {most : Int} {bL : Nat} {W V : World} {pre : List Nat} {l1 : List Ar} {F1 : List Int} {left : Int} {X Y : World}
theorem OnI.moved (h : OnI r s t l F p most bL W V pre l1 F1 left X) (hk : ∀ (k : Nat) (cs : Array Value) (T : TypeId) (fr : Nat × Nat), X.heap[k]? = some (.cells cs T fr) → Y.heap[k]? = some (.cells cs T fr)) (hs : X.heap.size ≤ Y.heap.size) (ho : Out (fun k => k = r.bR ∨ k = s.bF) W Y) : OnI r s t l F p most bL W V pre l1 F1 left Y :=
  ⟨h.mid, h.rr.kept (fun cs t fr hb => hk _ cs t fr hb), h.rf.kept (fun cs t fr hb => hk _ cs t fr hb), hk _ _ _ _ h.lf, h.kp.trans ⟨hs, fun k cs t fr _ hb => hk k cs t fr hb⟩, ho⟩
theorem OnI.own {T : Nat} (h : OnI r s t l F p most bL W V pre l1 F1 left X) (hE : OwnIt T 0 X Y) (hT : W.heap.size ≤ T) : OnI r s t l F p most bL W V pre l1 F1 left Y :=
  h.moved (fun k cs t fr hb => hE.same k _ hb (by rcases Nat.lt_or_ge k T with g | g; exact .inl g; exact .inr ⟨rfl, by omega⟩)) hE.size (h.out.own hE hT)
theorem mvTo_mem {l : List Ar} {m q : Nat} (h : mvTo l m = some q) : ∃ a ∈ l, q = a.u ∨ q = a.v := by
  unfold mvTo at h
  obtain ⟨a, ha, e⟩ := Option.map_eq_some_iff.1 h
  refine ⟨a, List.mem_of_getElem? ha, ?_⟩
  split at e
  · exact .inr e.symm
  · exact .inl e.symm
theorem Mid.far_le {N : Nat} (h : Mid t l F p most pre l1 F1 left) (hl : ∀ n, ff F n ≤ (N : Int)) (n : Nat) : ff F1 n ≤ (N : Int) := by
  by_cases e : ff F1 n = ff F n
  · rw [e]; exact hl n
  · have := (h.lev n e).1; omega
theorem caps_ends {N : Nat} {l l' : List Ar} (h : Go.Proofs.YtidpiokkfnhobaaGreat.v5.ends l' = Go.Proofs.YtidpiokkfnhobaaGreat.v5.ends l) (hc : ∀ a ∈ l, a.u < N ∧ a.v < N ∧ a.cap ≤ 100000000) : ∀ a ∈ l', a.u < N ∧ a.v < N ∧ a.cap ≤ 100000000 := fun a ha => by
  obtain ⟨i, hi⟩ := List.getElem?_of_mem ha
  obtain ⟨b, hb, e1, e2, e3⟩ := ends_get h hi
  have := hc b (List.mem_of_getElem? hb)
  rw [e1, e2, e3] at this
  exact this
theorem room_bounds {N : Nat} {l : List Ar} (hf : Fits l) (hc : ∀ a ∈ l, a.u < N ∧ a.v < N ∧ a.cap ≤ 100000000) (k : Nat) : 0 ≤ mvRoom l k ∧ mvRoom l k ≤ 100000000 := by
  unfold mvRoom
  rcases h : l[k / 2]? with _ | a
  · simp
  · have h1 := hf a (List.mem_of_getElem? h)
    have h2 := hc a (List.mem_of_getElem? h)
    show 0 ≤ (if k % 2 = 0 then a.cap - a.x else a.x) ∧ (if k % 2 = 0 then a.cap - a.x else a.x) ≤ 100000000
    split <;> omega
theorem Out.keeps {T : Nat → Prop} {B : Nat} (h : Out T X Y) (hT : ∀ k, T k → k < B) : KeepsFrom B X Y := ⟨h.size, fun k o hk ho _ => h.same k o (fun hh => by have := hT k hh; omega) ho⟩
theorem Out.kpIt {T Gd : Nat → Prop} {B : Nat} (h : Out T X Y) (hT : ∀ k, T k → k < B) (hG : ∀ k, Gd k → ¬ T k) : KpIt B 0 Gd X Y :=
  ⟨h.size, fun k cs t fr hk hc => h.same k _ (by rcases hk with g | g; exact hG k g; omega) hc, fun k o hk ho _ => h.same k o (fun hh => by have := hT k hh; omega) ho⟩
theorem OnI.asked {m : Nat} (h : OnI r s t l F p most bL W V pre l1 F1 left X) (hm : mvFrom l m = some p) : opR r.bR r.oR X m ∨ clR r.bR r.oR X m := by
  have hlt := mvFrom_lt hm
  rw [← ends_len h.mid.ends] at hlt
  have hc := (h.rr m _ (rooms_get hlt)).1
  rcases Int.lt_or_le 0 (mvRoom l1 m) with g | g
  · exact .inl ⟨_, g, hc⟩
  · exact .inr ⟨_, g, hc⟩
theorem OnI.skip {m : Nat} (h : OnI r s t l F p most bL W V pre l1 F1 left X) (hm : mvFrom l m = some p) (hc : clR r.bR r.oR X m) : OnI r s t l F p most bL W V (pre ++ [m]) l1 F1 left X := by
  have hlt := mvFrom_lt hm
  rw [← ends_len h.mid.ends] at hlt
  obtain ⟨x, hx, hcx⟩ := hc
  have h1 := (h.rr m _ (rooms_get hlt)).1
  rw [hcx] at h1
  injection h1 with h1
  injection h1 with _ h1
  exact ⟨h.mid.skip (by omega), h.rr, h.rf, h.lf, h.kp, h.out⟩
theorem OnI.put {b : Nat} {o o' : Obj} (h : OnI r s t l F p most bL W V pre l1 F1 left X) (hl : W.heap.size ≤ b) (hb : X.heap[b]? = some o) (hc : o.isCells = false) : OnI r s t l F p most bL W V pre l1 F1 left (X.putObj b o') :=
  h.moved (fun k cs t fr hk => put_cells hk hb hc) (by simp) (h.out.put hl)
end
set_option maxHeartbeats 8000000 in
theorem c_onward (r : Rs) (s : Sd) (N t : Nat) (hN : N ≤ 64) (ht : t < N) (hne : r.bR ≠ s.bF) (hbb : s.bt ≠ r.bR ∧ s.bt ≠ s.bF ∧ s.br ≠ r.bR ∧ s.br ≠ s.bF ∧ s.bf ≠ r.bR ∧ s.bf ≠ s.bF ∧ s.bo ≠ r.bR ∧ s.bo ≠ s.bF) (hcF : N ≤ s.cF ∧ s.cF ≤ maxLen) :
    ∀ (k : Nat) (l : List Ar) (F : List Int) (p : Nat) (most : Int) (W : World), l.length ≤ 128 → (∀ a ∈ l, a.u < N ∧ a.v < N ∧ a.cap ≤ 100000000) → Fits l → RShape r N l → F.length = N → (∀ n, ff F n ≤ (N : Int)) → p < N → 0 ≤ ff F p → (N : Int) < ff F p + k →
    0 < most → most ≤ 12800000000 → r.bR < W.heap.size → s.bF < W.heap.size → SFxA W s r N t l → Row W r.bR r.oR (rooms l) → Row W s.bF s.oF F →
    Calls Tryz.prog 116 #[.int .i64 (p : Int), .int .i64 most, .pointer (some ⟨s.bt, 0, none⟩), .pointer (some ⟨s.br, 0, none⟩), .pointer (some ⟨s.bf, 0, none⟩), .pointer (some ⟨s.bo, 0, none⟩)] W (OnPost r s t l F p most W) := by
  intro k
  induction k with
  | zero =>
    intro l F p most W _ _ _ _ _ hlev _ _ hk
    have := hlev p
    omega
  | succ k ih =>
    intro l F p most W hl hnodes hfits hsh hF hlev hp h0 hk hm hm2 hbR hbF hfx hrr hrf
    have hfW := hfx W (KpG.refl W)
    by_cases hpt : p = t
    · subst hpt
      have hx := hfW.bt.cell
      have HR := Lib.hid (show OnPost r s p l F p most W (.returned (.int .i64 most)) (W.alloc (.cells #[.int .i64 (p : Int)] 3)) from
        ⟨most, l, F, rfl, Onw.end_ hfits hm, hrr.kept (fun cs t fr hb => old_heap _ hb), hrf.kept (fun cs t fr hb => old_heap _ hb), Out.of_below ((Below.refl W.heap.size W).alloc (Nat.le_refl _) _) (Nat.le_refl _)⟩)
      have hx1 := alloc_cell hx
      clear ih hfx hrr hrf hfW hlev hfits hnodes hsh hx
      go_enter Tryz.func116, Tryz.ntmps116
      go_wp2_with (fail)
      go_step3
      go_wp2_with (fail)
      go_ret
      exact HR.out
    · have hx := hfW.bt.cell
      have hxr := hfW.br
      have hlt := hfW.bt.lt
      have hlr := at_lt hxr
      have x0 : W.cell? ⟨s.br, 0, none⟩ = some r.E := cell_of hxr rfl
      have x1 : W.cell? ⟨s.br, 1, none⟩ = some r.R := cell_of hxr rfl
      have x2 : W.cell? ⟨s.br, 2, none⟩ = some (r.M N) := cell_of hxr rfl
      have hpt' : ((p : Int) == (t : Int)) = false := by rw [beq_eq_false_iff_ne]; omega
      obtain ⟨A1, n1, c1, hE⟩ := hsh.es
      obtain ⟨A2, n2, c2, hR⟩ := hsh.rs
      rw [hE] at x0
      rw [hR] at x1
      unfold Rs.M at x2
      have HE := Lib.hid hE
      have HR := Lib.hid hR
      have HFX := Lib.hid hfx
      have HRR := Lib.hid hrr
      have HRF := Lib.hid hrf
      have HIH := Lib.hid ih
      have HLV := Lib.hid hlev
      have HND := Lib.hid hnodes
      have HFT := Lib.hid hfits
      have HSH := Lib.hid hsh
      have HFL := Lib.hid hF
      clear hE hR hfx hrr hrf ih hlev hnodes hfits hsh hF hfW hxr
      have x0' := alloc_cell2 x0
      have x1' := alloc_cell2 x1
      have x2' := alloc_cell2 x2
      have hx' := alloc_cell hx
      clear x0 x1 x2 hx
      refine (callsIn_wide (n := 8)).1 ?_
      refine callsIn_of_wp_marks Tryz.func116 rfl trivial ?_ rfl
      simp only [Tryz.ntmps116, List.size_toArray, List.length_cons, List.length_nil, Nat.reduceAdd, Nat.reduceSub, Array.replicate_succ, Array.replicate_zero, List.push_toArray, List.append_toArray, List.nil_append, List.cons_append]
      rw [wpIn_wide]
      go_wp2_with (fail)
      go_step3
      go_wp2_with (fail)
      go_step3
      go_wp2_with (fail)
      go_at_call 117
      refine (c_leaving _ _ _ _ _).mono ?_
      rintro e w2 ⟨rfl, hw2⟩
      simp only [World.size_alloc] at hw2 ⊢
      have HB := Lib.hid (show Below W.heap.size W w2 by subst hw2; exact (((((Below.refl _ _).alloc (Nat.le_refl _) _).alloc (by simp) _).alloc (by simp; omega) _).alloc (by simp; omega) _))
      have HN2 := Lib.hid (show Boxed w2 W.heap.size 3 (.int .i64 (p : Int)) by subst hw2; exact old_heap _ (old_heap _ (old_heap _ (heap_alloc_new _ _))))
      have HL2 := Lib.hid (show Boxed w2 (W.heap.size + 1) 3 (.int .i64 most) by subst hw2; exact old_heap _ (old_heap _ (row_new _ _ _ (by simp))))
      have HR2 := Lib.hid (show w2.heap[W.heap.size + 1 + 1]? = some (.cells #[.slice A1 n1 c1, .slice A2 n2 c2, .slice (some ⟨r.bM, r.oM, none⟩) N r.cM] 95 (0, 0)) by subst hw2; exact old_heap _ (row_new _ _ _ (by simp)))
      have HM2 := Lib.hid (show Boxed w2 (W.heap.size + 1 + 1 + 1) 3 (.int .i64 (p : Int)) by subst hw2; exact row_new _ _ _ (by simp))
      have hz2 : w2.heap.size = W.heap.size + 4 := by subst hw2; simp
      try rw [← hw2]
      clear hw2 x0' x1' x2' hx'
      have HKW := Lib.hid (KpG.of_below (Gd := GS r s) HB.out (Nat.le_refl _))
      have HFX2 := Lib.hid (HFX.out.on HKW.out)
      have HI0 := Lib.hid (show OnI r s t l F p most (W.heap.size + 1) W w2 [] l F most w2 from
        ⟨Mid.start HFT.out (by omega), HRR.out.kept (fun cs t fr hb => (HB.out.block _ (at_lt hb)).trans hb), HRF.out.kept (fun cs t fr hb => (HB.out.block _ (at_lt hb)).trans hb), HL2.out, KpG.refl _, Out.of_below HB.out (Nat.le_refl _)⟩)
      obtain ⟨Am, cm, hhd, -, -⟩ := (HFX2.out w2 (KpG.refl _)).fix.moves p hp
      have HMV := Lib.hid (fun (X : World) (hX : KpG (fun k => k ≠ r.bR ∧ k ≠ s.bF ∧ k ≠ W.heap.size + 1) w2 X) => show X.cell? ⟨r.bM, r.oM + p, none⟩ = some (.slice Am (mvs l p).length cm) ∧ IntSl X (.slice Am (mvs l p).length cm) (nats (mvs l p)) from by
        have hk : KpG (GS r s) W X := ⟨Nat.le_trans HB.out.size hX.size, fun k cs t fr hg hc => hX.same k cs t fr ⟨hg.1, hg.2, by have := at_lt hc; omega⟩ ((HB.out.block _ (at_lt hc)).trans hc)⟩
        obtain ⟨A, c, e, g1, g2⟩ := (HFX.out X hk).fix.moves p hp
        rw [hhd] at e
        injection e with e1 e2 e3
        subst e1 e3
        rw [hhd] at g1 g2
        exact ⟨g1, g2⟩)
      have HSM := HSH.out.sm
      have HSQ := Lib.hid (c_leaving1 7 (by omega) (fun k => k ≠ r.bR ∧ k ≠ s.bF ∧ k ≠ W.heap.size + 1) (W.heap.size + 1 + 1) (W.heap.size + 1 + 1 + 1) r.bR r.oR (2 * l.length) r.cR r.bM r.oM N r.cM (.slice A1 n1 c1) p Am cm (mvs l p) (.slice A2 n2 c2)
        (by have : (mvs l p).length ≤ (List.range (2 * l.length)).length := List.length_filter_le _ _; rw [List.length_range] at this; omega) ⟨hp, HSM.1, HSM.2⟩ (fun t ht => mvFrom_lt (mem_mvs.1 ht)) (fun h0 => by
          obtain ⟨m, hm⟩ := List.exists_mem_of_length_pos h0
          have := mvFrom_lt (mem_mvs.1 hm)
          obtain ⟨g1, g2, g3⟩ := HSH.out.sr (by omega)
          exact ⟨HR.out.symm.trans g1, g2, g3⟩) w2 ⟨by omega, by omega, by omega⟩ ⟨by omega, by omega, by omega⟩ HR2.out HM2.out HMV.out)
      clear HMV HSM hhd
      go_wp2_with (fail)
      refine (wpIn_wide (n := 8)).1 ?_
      refine wpIn_it (n := 8) (by omega) (gf := 128) (lb := #[.pointer (some ⟨W.heap.size + 1 + 1, 0, none⟩), .pointer (some ⟨W.heap.size + 1 + 1 + 1, 0, none⟩)]) rfl (enters_of Tryz.func128 (by kernel_rfl) rfl) (m := 0) (Gd := fun k => k ≠ r.bR ∧ k ≠ s.bF ∧ k ≠ W.heap.size + 1) (ok := okN) (op := opR r.bR r.oR) (cl := clR r.bR r.oR) (ts := mvs l p) (w0 := w2) HSQ.out (KpG.refl _) (fun v t h => by rw [h]; rfl)
        (fun pre X => ∃ l1 F1 left, OnI r s t l F p most (W.heap.size + 1) W w2 pre l1 F1 left X) (fun c _ X => c = .exit 0 ∧ ∃ pre' l1 F1, OnI r s t l F p most (W.heap.size + 1) W w2 pre' l1 F1 0 X)
        (fun pre X Y h hE => by obtain ⟨l1, F1, left, h⟩ := h; exact ⟨l1, F1, left, h.own hE (by omega)⟩) (fun c pre X Y h hE => by obtain ⟨h0, pre', l1, F1, h⟩ := h; exact ⟨h0, pre', l1, F1, h.own hE (by omega)⟩)
        (fun pre X b o o' h hl hb hc => by obtain ⟨l1, F1, left, h⟩ := h; exact ⟨l1, F1, left, h.put (by omega) hb hc⟩) (fun c pre X b o o' h hl hb hc => by obtain ⟨h0, pre', l1, F1, h⟩ := h; exact ⟨h0, pre', l1, F1, h.put (by omega) hb hc⟩)
        (fun t X Y h hb => h.below hb) (fun t X b o o' h hb hc => h.put hb hc)
        (fun pre m X h hp => by
          obtain ⟨l1, F1, left, h⟩ := h
          exact h.asked (mem_mvs.1 (hp.subset (by simp))))
        (fun pre m X h hp hc => by
          obtain ⟨l1, F1, left, h⟩ := h
          exact ⟨l1, F1, left, h.skip (mem_mvs.1 (hp.subset (by simp))) hc⟩)
        ⟨l, F, most, HI0.out⟩ ?round ?done ?stop
      case round =>
        intro lp pre v m X K hpre hok hK
        obtain rfl : v = #[.int .i64 (m : Int)] := hok
        gi_wp2_with (fail)
        refine hK _ _ (Below.refl _ _) ?_
        rintro Y ⟨o, o', ho, hoc, hYe⟩ hsz ⟨l1, F1, left, hI⟩ hop
        clear hYe ho hoc o o' hK
        have hmf := mem_mvs.1 (hpre.subset (show m ∈ pre ++ [m] by simp))
        have hml := mvFrom_lt hmf
        obtain ⟨q, hq⟩ := mvTo_some hml
        have hml1 : m < 2 * l1.length := by rw [ends_len hI.mid.ends]; exact hml
        have hqN : q < N := by
          obtain ⟨a, ha, e⟩ := mvTo_mem hq
          have := HND.out a ha
          rcases e with e | e <;> omega
        have hSF := HFX.out Y (hI.out.kp (fun k g => not_or.2 ⟨g.1, g.2⟩))
        obtain ⟨hE1, hE2, hE3⟩ := HSH.out.se (by omega)
        obtain ⟨hR1, hR2, hR3⟩ := HSH.out.sr (by omega)
        rw [HE.out] at hE1
        rw [HR.out] at hR1
        injection hE1 with hA1 hn1 hc1
        injection hR1 with hA2 hn2 hc2
        have hmn1 : m < n1 := by omega
        have hmn2 : m < n2 := by omega
        have hfn2 : flip m < n2 := by have := flip_half m; omega
        have HN1 := Lib.hid (And.intro hn1 hn2)
        subst hA1 hA2
        have hcb1 : n1 ≤ c1 ∧ n2 ≤ c2 := by omega
        have HC12 := Lib.hid (And.intro hc1 hc2)
        have y0 : Y.cell? ⟨s.br, 0, none⟩ = some (.slice (some ⟨r.bE, r.oE, none⟩) n1 c1) := by rw [← HE.out]; exact cell_of hSF.br rfl
        have y1 : Y.cell? ⟨s.br, 1, none⟩ = some (.slice (some ⟨r.bR, r.oR, none⟩) n2 c2) := by rw [← HR.out]; exact cell_of hSF.br rfl
        have yE := hSF.fix.ends m q hq
        have yL := hI.lf.cell
        have yf := hSF.bf.cell
        have yo := hSF.bo.cell
        have hF1 : F1.length = N := hI.mid.len.trans HFL.out
        have yq := (hI.rf q _ (ff_at (by omega))).1
        have yp := (hI.rf p _ (ff_at (by omega))).1
        have yn := (show Boxed Y W.heap.size 3 (.int .i64 (p : Int)) from hI.kp.same _ _ _ _ ⟨by omega, by omega, by omega⟩ HN2.out).cell
        have yr := (hI.rr m _ (rooms_get hml1)).1
        have hlo := hI.mid.lo
        have hhi := hI.mid.hi
        have hlv1 := hI.mid.far_le HLV.out
        have HMIDS := Lib.hid hI.mid.same
        have hfp := hlv1 p
        have hfq := hlv1 q
        have hfp0 : 0 ≤ ff F1 p := by rw [HMIDS.out]; exact h0
        have HLV1 := Lib.hid hlv1
        have HPRE := Lib.hid hpre
        have HI := Lib.hid hI
        have HSF := Lib.hid hSF
        have HMF := Lib.hid hmf
        have HQ := Lib.hid hq
        have HF1 := Lib.hid hF1
        clear hE2 hE3 hR2 hR3 hn1 hn2 hc1 hc2 hpre hI hSF hmf hq hF1 hlv1
        obtain ⟨x, hx0, hxc⟩ := hop
        have hxe : x = mvRoom l1 m := by rw [yr] at hxc; injection hxc with h; injection h with _ h; exact h.symm
        rw [← hxe] at yr
        have HXE := Lib.hid hxe
        clear hxe hxc
        by_cases hl0 : left = 0
        · have hl0' : (left == 0) = true := by rw [beq_iff_eq]; exact hl0
          have HZ := Lib.hid (show OnI r s t l F p most (W.heap.size + 1) W w2 pre l1 F1 0 Y by rw [← hl0]; exact HI.out)
          clear yq yp yr
          gi_wp2_with (fail)
          exact ⟨⟨Nat.le_refl _, fun _ _ _ h _ => h⟩, rfl, _, _, _, HZ.out⟩
        · have hl0' : (left == 0) = false := by rw [beq_eq_false_iff_ne]; exact hl0
          have hfm : Tryz.prog.follows Departure.mixedOrders = true := by kernel_rfl
          have hw1 : IntKind.i64.wrap (ff F1 p + 1) = ff F1 p + 1 := IntWalk.i64_in _ (by omega)
          have hqN' : (q : Int) < (N : Int) := by omega
          have hpN' : (p : Int) < (N : Int) := by omega
          have HW1 := Lib.hid hw1
          clear hw1
          obtain ⟨bq, hbq⟩ : ∃ b : Bool, (ff F1 q == ff F1 p + 1) = b := ⟨_, rfl⟩
          have HBQ := Lib.hid hbq
          clear hbq
          gi_wp2_with (fail)
          refine region_round (S := fun X => X.cell? ⟨s.bf, 0, none⟩ = some (.slice (some ⟨s.bF, s.oF, none⟩) N s.cF) ∧ X.cell? ⟨s.bF, s.oF + q, none⟩ = some (.int .i64 (ff F1 q)) ∧ X.cell? ⟨W.heap.size, 0, none⟩ = some (.int .i64 (p : Int)) ∧ X.cell? ⟨s.bF, s.oF + p, none⟩ = some (.int .i64 (ff F1 p))) hfm (by kernel_rfl) ⟨yf, yq, yn, yp⟩ (fun hHeld => ?_)
          refine takeH 0 (some 31) rfl rfl (by kernel_rfl) (by kernel_rfl) (by kernel_rfl) (fun _ _ _ h => h) (by rfl) (by intro w ⟨g1, g2, g3, g4⟩; go_simp; try with_reducible rfl) hHeld ?_
          simp only [Act.put, List.setIfInBounds_toArray, List.set_cons_zero, List.set_cons_succ]
          refine takeH 1 (some 32) rfl rfl (by kernel_rfl) (by kernel_rfl) (by kernel_rfl) (fun _ _ _ h => h) (by rfl) (by intro w ⟨g1, g2, g3, g4⟩; go_simp; try with_reducible rfl) hHeld ?_
          simp only [Act.put, List.setIfInBounds_toArray, List.set_cons_zero, List.set_cons_succ]
          refine takeH 2 (some 33) rfl rfl (by kernel_rfl) (by kernel_rfl) (by kernel_rfl) (fun _ _ _ h => h) (by rfl) (by intro w ⟨g1, g2, g3, g4⟩; go_simp; try with_reducible rfl) hHeld ?_
          simp only [Act.put, List.setIfInBounds_toArray, List.set_cons_zero, List.set_cons_succ]
          refine takeH 3 (some 34) rfl rfl (by kernel_rfl) (by kernel_rfl) (by kernel_rfl) (fun _ _ _ h => h) (by rfl) (by intro w ⟨g1, g2, g3, g4⟩; go_simp; try with_reducible rfl) hHeld ?_
          simp only [Act.put, List.setIfInBounds_toArray, List.set_cons_zero, List.set_cons_succ]
          refine takeH 4 (some 35) rfl rfl (by kernel_rfl) (by kernel_rfl) (by kernel_rfl) (fun _ _ _ h => h) (by rfl) (by intro w ⟨g1, g2, g3, g4⟩; go_simp; try with_reducible rfl) hHeld ?_
          simp only [Act.put, List.setIfInBounds_toArray, List.set_cons_zero, List.set_cons_succ]
          refine takeH 5 (some 36) rfl rfl (by kernel_rfl) (by kernel_rfl) (by kernel_rfl) (fun _ _ _ h => h) (by rfl) (by intro w ⟨g1, g2, g3, g4⟩; go_simp; try with_reducible rfl) hHeld ?_
          simp only [Act.put, List.setIfInBounds_toArray, List.set_cons_zero, List.set_cons_succ]
          refine takeH 6 (some 37) rfl rfl (by kernel_rfl) (by kernel_rfl) (by kernel_rfl) (fun _ _ _ h => h) (by rfl) (by intro w ⟨g1, g2, g3, g4⟩; go_simp; try with_reducible rfl) hHeld ?_
          simp only [Act.put, List.setIfInBounds_toArray, List.set_cons_zero, List.set_cons_succ]
          refine takeH 7 (some 38) rfl rfl (by kernel_rfl) (by kernel_rfl) (by kernel_rfl) (fun _ _ _ h => h) (by rfl) (by intro w ⟨g1, g2, g3, g4⟩; go_simp; try with_reducible rfl) hHeld ?_
          simp only [Act.put, List.setIfInBounds_toArray, List.set_cons_zero, List.set_cons_succ]
          refine takeH 8 (some 39) rfl rfl (by kernel_rfl) (by kernel_rfl) (by kernel_rfl) (fun _ _ _ h => h) (by rfl) (by intro w ⟨g1, g2, g3, g4⟩; go_simp; try with_reducible rfl) hHeld ?_
          simp only [Act.put, List.setIfInBounds_toArray, List.set_cons_zero, List.set_cons_succ]
          refine takeH 9 (some 40) rfl rfl (by kernel_rfl) (by kernel_rfl) (by kernel_rfl) (fun _ _ _ h => h) (by rfl) (by intro w ⟨g1, g2, g3, g4⟩; go_simp; try with_reducible rfl) hHeld ?_
          simp only [Act.put, List.setIfInBounds_toArray, List.set_cons_zero, List.set_cons_succ]
          refine takeH 10 (some 30) rfl rfl (by kernel_rfl) (by kernel_rfl) (by kernel_rfl) (fun _ _ _ h => h) (by rfl) (by intro w ⟨g1, g2, g3, g4⟩; go_simp; try with_reducible rfl) hHeld ?_
          simp only [Act.put, List.setIfInBounds_toArray, List.set_cons_zero, List.set_cons_succ]
          rw [HW1.out, HBQ.out]
          refine wpAnyH_done (by kernel_rfl) ?_ _
          rw [noOut_normal]
          have HIZ := Lib.hid (HI.out.moved (Y := Y.drew) (fun _ _ _ _ h => h) (Nat.le_refl _) (HI.out.out.trans Out.drew))
          have HYZ := Lib.hid (show Out (fun k => k = r.bR ∨ k = s.bF ∨ k = W.heap.size + 1) Y Y.drew from Out.drew)
          have z1 : Y.drew.cell? ⟨s.br, 1, none⟩ = some (.slice (some ⟨r.bR, r.oR, none⟩) n2 c2) := y1
          have zL : Y.drew.cell? ⟨W.heap.size + 1, 0, none⟩ = some (.int .i64 left) := yL
          have zo : Y.drew.cell? ⟨s.bo, 0, none⟩ = some (.func (.func 116) #[] s.lb) := yo
          have zr : Y.drew.cell? ⟨r.bR, r.oR + m, none⟩ = some (.int .i64 x) := yr
          unfold Sd.lb at zo
          clear y0 y1 yE yL yf yo yq yp yr yn hHeld
          generalize Y.drew = Z at HIZ HYZ z1 zL zo zr ⊢
          cases bq
          · have HD := Lib.hid (show OnI r s t l F p most (W.heap.size + 1) W w2 (pre ++ [m]) l1 F1 left Z from
              ⟨HIZ.out.mid.off h0 HQ.out (fun e => by have := HBQ.out; rw [e] at this; simp at this), HIZ.out.rr, HIZ.out.rf, HIZ.out.lf, HIZ.out.kp, HIZ.out.out⟩)
            clear z1 zL zo zr
            gi_wp2_with (fail)
            exact ⟨HYZ.out.keeps (fun k hk => by omega), HYZ.out.kpIt (fun k hk => by omega) (fun k g => by simp; exact ⟨g.1, g.2⟩), _, _, _, HD.out⟩
          · have hfe : ff F1 q = ff F1 p + 1 := by have := HBQ.out; rw [beq_iff_eq] at this; exact this
            have hmn : 0 < min left x := by omega
            have hl128 : l1.length ≤ 128 := by have := ends_len HIZ.out.mid.ends; omega
            have hx8 := room_bounds HIZ.out.mid.fits (caps_ends HIZ.out.mid.ends HND.out) m
            rw [← HXE.out] at hx8
            have HC := Lib.hid (HIH.out l1 F1 q (min left x) Z.drew hl128 (caps_ends HIZ.out.mid.ends HND.out) HIZ.out.mid.fits (rShape_same HSH.out HIZ.out.mid.ends) HF1.out HLV1.out hqN (by omega) (by have := HMIDS.out; omega) hmn (by omega)
              (Nat.lt_of_lt_of_le hbR HIZ.out.out.size) (Nat.lt_of_lt_of_le hbF HIZ.out.out.size) (sFxA_same (HFX.out.on ((HIZ.out.out.trans Out.drew).kp (fun k g => not_or.2 ⟨g.1, g.2⟩))) HIZ.out.mid.ends) HIZ.out.rr HIZ.out.rf)
            have HMIN := Lib.hid (show (if x < left then x else left) = min left x by split <;> omega)
            clear hfe
            gi_wp2_with (fail)
            refine region_round (S := fun X => X.cell? ⟨s.bo, 0, none⟩ = some (.func (.func 116) #[] #[.pointer (some ⟨s.bt, 0, none⟩), .pointer (some ⟨s.br, 0, none⟩), .pointer (some ⟨s.bf, 0, none⟩), .pointer (some ⟨s.bo, 0, none⟩)]) ∧ X.cell? ⟨W.heap.size + 1, 0, none⟩ = some (.int .i64 left) ∧ X.cell? ⟨s.br, 1, none⟩ = some (.slice (some ⟨r.bR, r.oR, none⟩) n2 c2) ∧ X.cell? ⟨r.bR, r.oR + m, none⟩ = some (.int .i64 x)) hfm (by kernel_rfl) ⟨zo, zL, z1, zr⟩ (fun hHeld => ?_)
            refine takeH 0 (some 41) rfl rfl (by kernel_rfl) (by kernel_rfl) (by kernel_rfl) (fun _ _ _ h => h) (by rfl) (by intro w ⟨g1, g2, g3, g4⟩; go_simp; try with_reducible rfl) hHeld ?_
            simp only [Act.put, List.setIfInBounds_toArray, List.set_cons_zero, List.set_cons_succ]
            refine takeH 1 (some 42) rfl rfl (by kernel_rfl) (by kernel_rfl) (by kernel_rfl) (fun _ _ _ h => h) (by rfl) (by intro w ⟨g1, g2, g3, g4⟩; go_simp; try with_reducible rfl) hHeld ?_
            simp only [Act.put, List.setIfInBounds_toArray, List.set_cons_zero, List.set_cons_succ]
            refine takeH 2 (some 43) rfl rfl (by kernel_rfl) (by kernel_rfl) (by kernel_rfl) (fun _ _ _ h => h) (by rfl) (by intro w ⟨g1, g2, g3, g4⟩; go_simp; try with_reducible rfl) hHeld ?_
            simp only [Act.put, List.setIfInBounds_toArray, List.set_cons_zero, List.set_cons_succ]
            refine takeH 3 (some 44) rfl rfl (by kernel_rfl) (by kernel_rfl) (by kernel_rfl) (fun _ _ _ h => h) (by rfl) (by intro w ⟨g1, g2, g3, g4⟩; go_simp; try with_reducible rfl) hHeld ?_
            simp only [Act.put, List.setIfInBounds_toArray, List.set_cons_zero, List.set_cons_succ]
            refine takeH 4 (some 45) rfl rfl (by kernel_rfl) (by kernel_rfl) (by kernel_rfl) (fun _ _ _ h => h) (by rfl) (by intro w ⟨g1, g2, g3, g4⟩; go_simp; try with_reducible rfl) hHeld ?_
            simp only [Act.put, List.setIfInBounds_toArray, List.set_cons_zero, List.set_cons_succ]
            refine takeH 5 (some 46) rfl rfl (by kernel_rfl) (by kernel_rfl) (by kernel_rfl) (fun _ _ _ h => h) (by rfl) (by intro w ⟨g1, g2, g3, g4⟩; go_simp; try with_reducible rfl) hHeld ?_
            simp only [Act.put, List.setIfInBounds_toArray, List.set_cons_zero, List.set_cons_succ]
            refine takeH 6 (some 47) rfl rfl (by kernel_rfl) (by kernel_rfl) (by kernel_rfl) (fun _ _ _ h => h) (by rfl) (by intro w ⟨g1, g2, g3, g4⟩; go_simp; try with_reducible rfl) hHeld ?_
            simp only [Act.put, List.setIfInBounds_toArray, List.set_cons_zero, List.set_cons_succ]
            refine takeH 7 (some 48) rfl rfl (by kernel_rfl) (by kernel_rfl) (by kernel_rfl) (fun _ _ _ h => h) (by rfl) (by intro w ⟨g1, g2, g3, g4⟩; go_simp; try with_reducible rfl) hHeld ?_
            simp only [Act.put, List.setIfInBounds_toArray, List.set_cons_zero, List.set_cons_succ]
            refine takeH 8 (some 49) rfl rfl (by kernel_rfl) (by kernel_rfl) (by kernel_rfl) (fun _ _ _ h => h) (by rfl) (by intro w ⟨g1, g2, g3, g4⟩; go_simp; try with_reducible rfl) hHeld ?_
            simp only [Act.put, List.setIfInBounds_toArray, List.set_cons_zero, List.set_cons_succ]
            refine wpAnyH_ready (rs := [9]) (by kernel_rfl) (by simp) (AllReadyH.cons rfl (fun K hK => ?_) AllReadyH.nil)
            go_simp
            rw [HMIN.out]
            refine HC.out.mono ?_
            rintro e w3 ⟨d, l2, F2, rfl, ho, hr2, hf2, hout⟩
            rw [HXE.out] at ho
            obtain ⟨hmid, hrm⟩ := HIZ.out.mid.sent h0 HMF.out HQ.out (by have := HBQ.out; rw [beq_iff_eq] at this; exact this) ho
            have hd1 := ho.lo
            have hd2 := ho.hi
            have hl2 : l2.length = l.length := ends_len (ho.ends.trans HIZ.out.mid.ends)
            have hml2 : m < 2 * l2.length := by rw [hl2]; exact hml
            have hfl2 : flip m < 2 * l2.length := by have := flip_half m; omega
            have hyb := room_bounds ho.fits (caps_ends (ho.ends.trans HIZ.out.mid.ends) HND.out) (flip m)
            obtain ⟨y, hy⟩ : ∃ y, y = mvRoom l2 (flip m) := ⟨_, rfl⟩
            have zr3 := hr2 m _ (rooms_get hml2)
            have zy3 := hr2 (flip m) _ (rooms_get hfl2)
            rw [hrm, ← HXE.out] at zr3
            rw [← hy] at zy3 hyb
            rw [← HXE.out] at hd2
            have HZ3 := Lib.hid (show Out (fun k => k = r.bR ∨ k = s.bF) Z w3 from Out.drew.trans hout)
            have k1 : w3.cell? ⟨s.br, 1, none⟩ = some (.slice (some ⟨r.bR, r.oR, none⟩) n2 c2) := cell_kept z1 (HZ3.out.kp (Gd := GS r s) (fun k g => not_or.2 ⟨g.1, g.2⟩)) ⟨hbb.2.2.1, hbb.2.2.2.1⟩
            have HLZ := Lib.hid (show Boxed w3 (W.heap.size + 1) 3 (.int .i64 left) from HZ3.out.same _ _ (by omega) HIZ.out.lf)
            have kL := HLZ.out.cell
            have ko : w3.cell? ⟨s.bo, 0, none⟩ = some (.func (.func 116) #[] #[.pointer (some ⟨s.bt, 0, none⟩), .pointer (some ⟨s.br, 0, none⟩), .pointer (some ⟨s.bf, 0, none⟩), .pointer (some ⟨s.bo, 0, none⟩)]) := cell_kept zo (HZ3.out.kp (Gd := GS r s) (fun k g => not_or.2 ⟨g.1, g.2⟩)) ⟨hbb.2.2.2.2.2.2.1, hbb.2.2.2.2.2.2.2⟩
            have HMD := Lib.hid hmid
            have HR2 := Lib.hid hr2
            have HF2 := Lib.hid hf2
            have HY := Lib.hid hy
            have HRM := Lib.hid hrm
            have HL2' := Lib.hid hl2
            have HHO := Lib.hid ho
            clear hmid hr2 hf2 hy hrm hl2 ho hHeld z1 zL zo zr hout
            refine hK.out _ _ ⟨ko, kL, k1, zr3.1⟩ (fun hHeld => ?_)
            clear hK K ko
            refine takeH 10 (some 12) rfl rfl (by kernel_rfl) (by kernel_rfl) (by kernel_rfl) (fun _ _ _ h => h) (by rfl) (by intro w ⟨g1, g2, g3, g4⟩; go_simp; try with_reducible rfl) hHeld ?_
            simp only [Act.put, List.setIfInBounds_toArray, List.set_cons_zero, List.set_cons_succ]
            refine wpAnyH_done (by kernel_rfl) ?_ _
            rw [noOut_normal]
            clear hHeld
            obtain ⟨zr3, fr3⟩ := zr3
            obtain ⟨zy3, fy3⟩ := zy3
            have hxor := xor_flip m (by omega)
            have hfn2' : (flip m : Int) < (n2 : Int) := by omega
            have hmn2' : (m : Int) < (n2 : Int) := by omega
            have hfm := (flip_half m).2.1
            have hd3 : d ≤ x ∧ d ≤ left := by omega
            have k1' : (w3.setCell ⟨r.bR, r.oR + m, none⟩ (.int .i64 (x - d))).cell? ⟨s.br, 1, none⟩ = some (.slice (some ⟨r.bR, r.oR, none⟩) n2 c2) := (World.cell?_of_block (Below.heap_setCell w3 ⟨r.bR, r.oR + m, none⟩ _ s.br hbb.2.2.1)).trans k1
            obtain ⟨zy4, fy4, kL4, fL4, hR4, hL4⟩ := three_stores (d := d) HR2.out hml2 (HRM.out.trans HXE.out.symm) HY.out.symm HLZ.out (show W.heap.size + 1 ≠ r.bR by omega)
            have HR4 := Lib.hid hR4
            have HL4 := Lib.hid hL4
            clear hR4 hL4
            gi_wp2_with (fail)
            have HOV := Lib.hid (show Out (fun k => k = r.bR ∨ k = s.bF ∨ k = W.heap.size + 1) Z (((w3.setCell ⟨r.bR, r.oR + m, none⟩ (.int .i64 (x - d))).setCell ⟨r.bR, r.oR + flip m, none⟩ (.int .i64 (y + d))).setCell ⟨W.heap.size + 1, 0, none⟩ (.int .i64 (left - d))) from
              (((HZ3.out.out (fun k hk => by rcases hk with h | h; exact .inl h; exact .inr (.inl h))).trans (Out.store (.inl rfl) _)).trans (Out.store (.inl rfl) _)).trans (Out.store (.inr (.inr rfl)) _))
            have HOW := Lib.hid (show Out (fun k => k = r.bR ∨ k = s.bF) W (((w3.setCell ⟨r.bR, r.oR + m, none⟩ (.int .i64 (x - d))).setCell ⟨r.bR, r.oR + flip m, none⟩ (.int .i64 (y + d))).setCell ⟨W.heap.size + 1, 0, none⟩ (.int .i64 (left - d))) from
              Out.store_new ((((HIZ.out.out).trans HZ3.out).trans (Out.store (.inl rfl) _)).trans (Out.store (.inl rfl) _)) (by omega) _)
            have HRF4 := Lib.hid (((HF2.out.other (i := r.oR + m) (fun e => hne e.symm) (.int .i64 (x - d))).other (i := r.oR + flip m) (fun e => hne e.symm) (.int .i64 (y + d))).other (b' := W.heap.size + 1) (i := 0) (by omega) (.int .i64 (left - d)))
            exact ⟨(HYZ.out.trans HOV.out).keeps (fun k hk => by omega), (HYZ.out.trans HOV.out).kpIt (fun k hk => by omega) (fun k g hk => by rcases hk with h | h | h; exact g.1 h; exact g.2.1 h; exact g.2.2 h), _, _, _,
              HMD.out, HR4.out, HRF4.out, HL4.out, HIZ.out.kp.trans (HOV.out.kp (fun k g hk => by rcases hk with h | h | h; exact g.1 h; exact g.2.1 h; exact g.2.2 h)), HOW.out⟩
      case done =>
        rintro D0 X rfl ⟨l1, F1, left, hI⟩ hdef
        have hSF := HFX.out X (hI.out.kp (fun k g => not_or.2 ⟨g.1, g.2⟩))
        have hlo := hI.mid.lo
        have hhi := hI.mid.hi
        have hF1 : F1.length = N := hI.mid.len.trans HFL.out
        have xL := hI.lf.cell
        have xf := hSF.bf.cell
        have xn := (show Boxed X W.heap.size 3 (.int .i64 (p : Int)) from hI.kp.same _ _ _ _ ⟨by omega, by omega, by omega⟩ HN2.out).cell
        obtain ⟨xp, fp⟩ := hI.rf p _ (ff_at (by omega))
        have hpN' : (p : Int) < (N : Int) := by omega
        obtain ⟨D, hD⟩ : ∃ D, D = w2.heap.size := ⟨_, rfl⟩
        have hDb : D ≠ s.bF ∧ W.heap.size ≤ D := by omega
        rw [← hD] at hdef ⊢
        clear hD
        have HI := Lib.hid hI
        by_cases hgt0 : 0 < left
        · have hgt : decide (0 < left) = true := decide_eq_true hgt0
          have xL' : (X.setCell ⟨s.bF, s.oF + p, none⟩ (.int .i64 (-1))).cell? ⟨W.heap.size + 1, 0, none⟩ = some (.int .i64 left) := (boxed_far (i := s.oF + p) hI.lf (by omega) (.int .i64 (-1))).cell
          have HDEF := Lib.hid (show (X.setCell ⟨s.bF, s.oF + p, none⟩ (.int .i64 (-1))).heap[D]? = some (.deferred (some [])) from (Below.heap_setCell X ⟨s.bF, s.oF + p, none⟩ _ D hDb.1).trans hdef)
          have HP := Lib.hid (show OnPost r s t l F p most W (.returned (.int .i64 (most - left))) ((X.setCell ⟨s.bF, s.oF + p, none⟩ (.int .i64 (-1))).putObj D (.deferred none)) from by
            have hr := hI.rr.other (i := s.oF + p) hne (.int .i64 (-1))
            have hf := hI.rf.set (j := p) (by omega) (-1)
            have ho := (hI.out.trans (Out.store (X := X) (i := s.oF + p) (.inr rfl) (.int .i64 (-1)))).put (l := D) (o' := .deferred none) hDb.2
            exact ⟨_, _, _, rfl, hI.mid.done (fun _ => rfl) hpt hm (by rw [HFL.out]; exact hp) _ (by rw [if_pos hgt0]), hr.kept (fun cs t fr hb => put_cells hb HDEF.out rfl), hf.kept (fun cs t fr hb => put_cells hb HDEF.out rfl), ho⟩)
          clear hI hSF hdef
          go_wp2_with (fail)
          refine ⟨by simp, .inl ⟨_, _, rfl, run_takeDeferred HDEF.out, ?_⟩⟩
          exact ⟨_, by simp [results, Tryz.results116, go_sem], HP.out⟩
        · have hgt : decide (0 < left) = false := decide_eq_false hgt0
          have HDEF := Lib.hid hdef
          have HP := Lib.hid (show OnPost r s t l F p most W (.returned (.int .i64 (most - left))) (X.putObj D (.deferred none)) from by
            have ho := hI.out.put (l := D) (o' := .deferred none) hDb.2
            exact ⟨_, _, _, rfl, hI.mid.done (fun _ => rfl) hpt hm (by rw [HFL.out]; exact hp) _ (by rw [if_neg hgt0]), hI.rr.kept (fun cs t fr hb => put_cells hb hdef rfl), hI.rf.kept (fun cs t fr hb => put_cells hb hdef rfl), ho⟩)
          clear hI hSF hdef
          go_wp2_with (fail)
          refine ⟨by simp, .inl ⟨_, _, rfl, run_takeDeferred HDEF.out, ?_⟩⟩
          exact ⟨_, by simp [results, Tryz.results116, go_sem], HP.out⟩
      case stop =>
        rintro D0 c pre0 X rfl hpre0 ⟨rfl, pre, l1, F1, hI⟩ hdef
        refine (wpIn_wide (n := 8)).2 ?_
        have xL := hI.lf.cell
        obtain ⟨D, hD⟩ : ∃ D, D = w2.heap.size := ⟨_, rfl⟩
        have hDb : D ≠ s.bF ∧ W.heap.size ≤ D := by omega
        rw [← hD] at hdef ⊢
        clear hD
        have HDEF := Lib.hid hdef
        have HP := Lib.hid (show OnPost r s t l F p most W (.returned (.int .i64 most)) (X.putObj D (.deferred none)) from by
          have ho := hI.out.put (l := D) (o' := .deferred none) hDb.2
          have hd := hI.mid.done (fun h => by omega) hpt hm (by rw [HFL.out]; exact hp) _ (by rw [if_neg (Int.lt_irrefl 0)])
          rw [Int.sub_zero] at hd
          exact ⟨_, _, _, rfl, hd, hI.rr.kept (fun cs t fr hb => put_cells hb hdef rfl), hI.rf.kept (fun cs t fr hb => put_cells hb hdef rfl), ho⟩)
        clear hI hdef
        go_wp2_with (fail)
        refine ⟨by simp, .inl ⟨_, _, rfl, run_takeDeferred HDEF.out, ?_⟩⟩
        exact ⟨_, by simp [results, Tryz.results116, go_sem], HP.out⟩
end Go.Proofs.YtidpiokkfnhobaaGreat.v5

namespace Go.Proofs.YtidpiokkfnhobaaGreat.v5
open Go.RowKit
set_option maxRecDepth 100000
set_option linter.unusedSimpArgs false
set_option linter.unusedVariables false

theorem retTT {fn : Func} {a : Act} {W : World} {R : Ending → World → Prop} {i j : Nat} {x y : Value} (hfn : fn.results = #[.tmp i, .tmp j]) (hi : a.tmps[i]?.getD undef = x) (hj : a.tmps[j]?.getD undef = y) (hd : a.defers = [])
    (hR : R (.returned (.tuple #[x, y])) W) : bodyPost Tryz.prog fn R .ret a W :=
  bodyPost_ret (v := .tuple #[x, y]) (by simp [results, hfn, hi, hj, go_sem]) hd hR
theorem intSl_one (w : World) (p : Int) : IntSl (w.alloc (.cells #[.int .i64 p] 3)) (.slice (some ⟨w.heap.size, 0, none⟩) 1 1) [p] := by
  refine ⟨some ⟨w.heap.size, 0, none⟩, 1, rfl, Nat.le_refl _, by unfold maxLen; omega, (by intro h; cases h), fun _ => ⟨w.heap.size, 0, rfl, by simp, fun j x hj => ?_⟩⟩
  have h := heap_alloc_new w (.cells #[.int .i64 p] 3)
  match j, hj with
  | 0, hj => simp at hj; subst hj; simp only [World.cell?, h]; rfl
theorem mul_bits : ∀ n : Nat, n < 65 → bits .and .u64 (n : Int) 4294967295 = (n : Int) ∧ (n : Int) / 4294967296 = 0 ∧ IntKind.u64.wrap (n : Int) = (n : Int) := by decide +kernel
theorem mul_bits1 : bits .and .u64 1 4294967295 = 1 ∧ bits .and .u64 0 4294967295 = 0 := by decide +kernel
theorem int_info : (Tryz.prog.info? 3).map (fun i => (i.zero, i.size, i.bytes)) = some (some (.int .i64 0), 1, 8) := by kernel_rfl
theorem info_parts {P : Program} {T : TypeId} {z : Value} {s b : Nat} (h : (P.info? T).map (fun i => (i.zero, i.size, i.bytes)) = some (some z, s, b)) : ∃ i, P.info? T = some i ∧ i.zero = some z ∧ i.size = s ∧ i.bytes = b := by
  obtain ⟨i, hi, e⟩ := Option.map_eq_some_iff.1 h
  injection e with e1 e2
  injection e2 with e2 e3
  exact ⟨i, hi, e1, e2, e3⟩
set_option maxHeartbeats 4000000 in
theorem c_Mul64 (N : Nat) (hN : 1 ≤ N ∧ N ≤ 64) (w : World) : Calls Tryz.prog 131 #[.int .u64 1, .int .u64 (N : Int)] w fun e w' => e = .returned (.tuple #[.int .u64 0, .int .u64 (N : Int)]) ∧ w = w' := by
  obtain ⟨h1, h2, h3⟩ := mul_bits N (by omega)
  obtain ⟨h4, h5⟩ := mul_bits1
  go_enter Tryz.func131, Tryz.ntmps131
  go_wp2
  exact retTT rfl rfl rfl rfl ⟨rfl, rfl⟩
set_option maxHeartbeats 4000000 in
theorem c_Mul (N : Nat) (hN : 1 ≤ N ∧ N ≤ 64) (w : World) : Calls Tryz.prog 129 #[.int .u64 1, .int .u64 (N : Int)] w fun e w' => e = .returned (.tuple #[.int .u64 0, .int .u64 (N : Int)]) ∧ w = w' := by
  go_enter Tryz.func129, Tryz.ntmps129
  go_wp2_with (fail)
  go_at_call 131
  refine (c_Mul64 N hN _).mono ?_
  rintro e w1 ⟨rfl, rfl⟩
  go_wp2_with (fail)
  exact retTT rfl rfl rfl rfl ⟨rfl, rfl⟩
theorem _root_.Go.Lib.cell_of_row' {W : World} {b j : Nat} {cur : List Value} {T : TypeId} (h : W.heap[b]? = some (.cells cur.toArray T (0, 0))) : W.cell? ⟨b, j, none⟩ = cur[j]? := by
  simp [World.cell?, h]
/-- The new slice between two rounds. -/
def RpRel (N : Nat) (w : World) (g : Nat) (p : Int) (n : Value) (wr : World) : Prop :=
  ∃ (k : Nat) (cur : List Value), n = .int .i64 (k : Int) ∧ 1 ≤ k ∧ k ≤ N ∧ wr.heap[g]? = some (.cells cur.toArray 3 (0, 0)) ∧ cur.length = N ∧ Hid (cur.take k = List.replicate k (.int .i64 p)) ∧ Hid (Below w.heap.size w wr)
theorem row_whole_own {w : World} {base n g : Nat} {T : TypeId} {xs : List Value} (h : w.ownsRow base T 1 (.slice (some ⟨g, 0, none⟩) n n) n xs) : ∃ cur : List Value, w.heap[g]? = some (.cells cur.toArray T (0, 0)) ∧ cur.length = n := by
  obtain ⟨k1, ⟨e, -⟩ | ⟨g', cap', cur, e, k3, k4, k5, k6, k7, k8⟩⟩ := h
  · cases e
  · injection e with e1 _ e2
    injection e1 with e1
    injection e1 with e1
    subst e1 e2
    exact ⟨cur.toList, by simpa using k4, by simpa using k7⟩
theorem int_size : (Tryz.prog.info? 3).map (·.size) = some 1 := by kernel_rfl
set_option maxHeartbeats 1000000 in
theorem c_Repeat (N : Nat) (hN : 1 ≤ N ∧ N ≤ 64) (p : Int) (v : Value) (w : World) (h : IntSl w v [p]) : Calls Tryz.prog 127 #[v, .int .i64 (N : Int)] w fun e w' => e = .returned (.slice (some ⟨w.heap.size, 0, none⟩) N N) ∧ w'.heap[w.heap.size]? = some (.cells (List.replicate N (Value.int .i64 p)).toArray 3 (0, 0)) ∧ Below w.heap.size w w' := by
  obtain ⟨b, o, c, rfl, hb, hc1, hc2, hcell⟩ := h.at_ (k := 0) (x := p) rfl
  have e1 : ([p] : List Int).length = 1 := rfl
  rw [e1] at *
  unfold maxLen at hc2
  rw [Nat.add_zero] at hcell
  clear h
  go_enter Tryz.func127, Tryz.ntmps127
  go_wp2_with (fail)
  go_at_call 129
  refine (c_Mul N hN _).mono ?_
  rintro e w1 ⟨rfl, rfl⟩
  obtain ⟨i0, hi0, hzz0, hzz1, hzz2⟩ := info_parts int_info
  have HSRC := Lib.hid (fun (X : World) (hX : Below w.heap.size w X) (j : Nat) (u : Value) (hj : [Value.int .i64 p][j]? = some u) => show X.cell? ((⟨b, o, none⟩ : Addr).add j) = some u from by
    match j, hj with
    | 0, hj => simp at hj; subst hj; exact (hX.cell (p := ⟨b, o, none⟩) hb).trans hcell)
  go_wp2_with (first
    | (at_make; refine wpList_make_full (P := Tryz.prog) _ rfl _ _ 69 rfl w.heap.size 3 i0 (.int .i64 0) 1 Tryz.underlying69 hi0 hzz0 hzz1 .i64 .i64 _ _ N rfl rfl rfl rfl (by rw [hzz2]; omega) (by unfold maxLen; omega) (Nat.le_refl _) ?_; intro w1 ho1 hg1; obtain ⟨cur, hcur, hsz⟩ := row_whole_own ho1; have HB1 := Lib.hid ((Below.refl w.heap.size w).grown hg1 (Nat.le_refl _) (fun k hk => by cases hk)); clear ho1 hg1)
    | (refine wpList_copy_splice rfl (.tmp 31) (.tmp 32) _ _ rfl 3 Tryz.underlying69 int_size _ _ N N 1 c rfl rfl w.heap.size 0 cur 3 hcur [.int .i64 p] (show 1 = Nat.min 1 N from (Nat.min_eq_left hN.1).symm) (fun _ => ⟨rfl, _, rfl, HSRC.out _ HB1.out⟩) (by simp; omega) (by simp [Value.oneCell']) w.heap.size w HB1.out (Nat.le_refl _) ?_; intro w2 hrow hb2))
  have HR2 := hrow
  have HB2 := Lib.hid hb2
  clear hb2 hcur
  go_wp2_with (fail)
  go_loopw [8] (fun n wr => RpRel N w w.heap.size p n wr) (fun n _ => N - (intOf n).toNat)
  case atStart => exact ⟨1, _, rfl, by omega, by omega, HR2.out, by rw [length_splice _ _ _ (by simp; omega)]; exact hsz, Lib.hid (by simp [splice]), Lib.hid HB2.out⟩
  case round =>
    obtain ⟨k, cu, rfl, hk1, hk2, hrow, hlen, htk, hB⟩ := hrel
    have HR := Lib.hid hrow
    have hki : ((k : Nat) : Int).toNat = k := by omega
    by_cases hlt : k < N
    · obtain ⟨m, hm⟩ : ∃ m, m = Nat.min k (N - k) := ⟨_, rfl⟩
      have hm0 : 0 < m := by rw [hm]; exact Nat.lt_min.2 ⟨by omega, by omega⟩
      have hmk : m ≤ k := by rw [hm]; exact Nat.min_le_left _ _
      have hmk2 : m ≤ N - k := by rw [hm]; exact Nat.min_le_right _ _
      have HC := Lib.hid (fun (j : Nat) (u : Value) (hj : (List.replicate m (Value.int .i64 p))[j]? = some u) => show wr.cell? ((⟨w.heap.size, 0, none⟩ : Addr).add j) = some u from by
        have hj' := (List.getElem?_eq_some_iff.1 hj).1
        rw [List.length_replicate] at hj'
        have e : (⟨w.heap.size, 0, none⟩ : Addr).add j = ⟨w.heap.size, j, none⟩ := by unfold Addr.add; split <;> simp_all
        rw [e, Lib.cell_of_row' hrow, ← hj, List.getElem?_replicate, if_pos hj']
        have := congrArg (fun l => l[j]?) htk.out
        simp only [List.getElem?_take_of_lt (show j < k by omega)] at this
        rw [this, List.getElem?_replicate, if_pos (by omega)])
      have h300 : (k : Int) < N := by omega
      have h301 : (k : Int) ≤ N := by omega
      have h302 : ¬ (N = k) := by omega
      have HMM := Lib.hid hm
      clear hrow hm
      go_wp2_with (fail)
      go_region_law (refine step_copy_splice rfl (.tmp 41) (.tmp 44) _ _ rfl 3 Tryz.underlying69 int_size (some ⟨w.heap.size, k, none⟩) (some ⟨w.heap.size, 0, none⟩) (N - k) (N - k) k N (by simp [Act.eval, Act.put]) (by simp [Act.eval, Act.put]) w.heap.size k cu 3 HR.out (List.replicate m (.int .i64 p)) (by rw [List.length_replicate]; exact HMM.out) (fun _ => ⟨rfl, _, rfl, HC.out⟩) (by rw [List.length_replicate]; omega) (by intro u hu; rw [(List.mem_replicate.1 hu).2]; rfl) w.heap.size w hB.out.drew (Nat.le_refl _) ?_; intro w4 hg4 hb4)
      have hl4 : (splice cu k (List.replicate m (Value.int .i64 p))).length = N := by rw [length_splice _ _ _ (by rw [List.length_replicate]; omega)]; exact hlen
      have R := Lib.hid (show RpRel N w w.heap.size p (.int .i64 ((k : Int) + (m : Int))) w4 from ⟨k + m, _, by push_cast; rfl, by omega, by omega, hg4.out, hl4, Lib.hid (by
        unfold splice
        rw [← List.append_assoc, List.take_append_of_le_length (by rw [List.length_append, List.length_take, List.length_replicate]; omega), List.take_of_length_le (by rw [List.length_append, List.length_take, List.length_replicate]; omega), htk.out, List.replicate_append_replicate]), Lib.hid hb4⟩)
      clear hg4 hb4 hl4
      have el : (List.replicate m (Value.int .i64 p)).length = m := List.length_replicate
      have hwr : IntKind.i64.wrap ((k : Int) + (m : Int)) = (k : Int) + (m : Int) := by rw [IntKind.wrap_i64]; omega
      have HW := Lib.hid hwr
      clear hwr
      go_simp
      go_wp2_with (fail)
      have hwr := HW.out
      go_roundw
      case rel => rw [hwr]; exact R.out
      case measure => simp only [intOf]; rw [hwr]; omega
    · obtain rfl : N = k := by omega
      go_wp2_with (fail)
      go_ret
      have ht := htk.out
      rw [List.take_of_length_le (by omega)] at ht
      rw [ht] at hrow
      exact ⟨rfl, hrow, hB.out⟩
end Go.Proofs.YtidpiokkfnhobaaGreat.v5

namespace Go.Proofs.YtidpiokkfnhobaaGreat.v5
open Go.RowKit Go.Shelf
attribute [local go_sem] Oper.semAt_some
set_option maxRecDepth 100000
set_option linter.unusedSimpArgs false
set_option linter.unusedVariables false

/-- Numbers that wait: a slice in a block of its own, its spare cells too. -/
def QOwn (X : World) (v : Value) (q : List Int) (K : Nat → Prop) : Prop :=
  ∃ g o c, v = .slice (some ⟨g, o, none⟩) q.length c ∧ K g ∧ (∃ cs t fr, X.heap[g]? = some (.cells cs t fr)) ∧ q.length ≤ c ∧ c ≤ maxLen ∧ (∀ j, j < c → (X.cell? ⟨g, o + j, none⟩).isSome = true ∧ X.frozen? ⟨g, o + j, none⟩ = false) ∧ ∀ j x, q[j]? = some x → X.cell? ⟨g, o + j, none⟩ = some (.int .i64 x)
theorem QOwn.kept {X Y : World} {v : Value} {q : List Int} {K K' : Nat → Prop} (h : QOwn X v q K) (hk : ∀ g cs t fr, K g → X.heap[g]? = some (.cells cs t fr) → Y.heap[g]? = some (.cells cs t fr)) (hK : ∀ g, K g → g < X.heap.size → K' g) : QOwn Y v q K' := by
  obtain ⟨g, o, c, e, h1, ⟨cs, t, fr, hb⟩, h2, h3, h4, h5⟩ := h
  have hY := hk g cs t fr h1 hb
  have e2 : Y.heap[g]? = X.heap[g]? := hY.trans hb.symm
  refine ⟨g, o, c, e, hK g h1 (at_lt hb), ⟨cs, t, fr, hY⟩, h2, h3, fun j hj => ?_, fun j x hx => (World.cell?_of_block (a := ⟨g, o + j, none⟩) e2).trans (h5 j x hx)⟩
  rw [World.cell?_of_block (a := ⟨g, o + j, none⟩) e2, World.frozen?_of_block (a := ⟨g, o + j, none⟩) e2]
  exact h4 j hj
theorem QOwn.own {X : World} {v : Value} {q : List Int} {K : Nat → Prop} (h : QOwn X v q K) {k : Nat} (hk : v.ownBlock = some k) : K k ∧ ∃ cs t fr, X.heap[k]? = some (.cells cs t fr) := by
  obtain ⟨g, o, c, rfl, h1, h2, -⟩ := h
  obtain rfl : g = k := by simpa [Value.ownBlock] using hk
  exact ⟨h1, h2⟩
theorem setCells_one (w : World) (b o : Nat) (x : Value) : w.setCells b o [x] = w.setCell ⟨b, o, none⟩ x := rfl
theorem setCell_cells {w : World} {b o : Nat} {x : Value} {cs : Array Value} {t : TypeId} {fr : Nat × Nat} (h : w.heap[b]? = some (.cells cs t fr)) : ∃ cs', (w.setCell ⟨b, o, none⟩ x).heap[b]? = some (.cells cs' t fr) := by
  simp only [World.setCell, Array.getElem?_modify, if_pos trivial, h]
  exact ⟨_, rfl⟩
/-- One more. -/
theorem run_append_q {w : World} {v : Value} {q : List Int} {K : Nat → Prop} (h : QOwn w v q K) (b : Nat) (x : Int) (hx : w.cell? ⟨b, 0, none⟩ = some (.int .i64 x)) (ty : TypeId) (hq : q.length ≤ 1000000) :
    ∃ v' w', (Builtin.append_ #[69, 69] ty #[v, .slice (some ⟨b, 0, none⟩) 1 1]).run Tryz.prog w = .ok v' w' ∧ QOwn w' v' (q ++ [x]) (fun g => v.ownBlock = some g ∨ w.heap.size ≤ g) ∧ Out (fun k => v.ownBlock = some k) w w' := by
  obtain ⟨g, o, c, rfl, h1, ⟨cs, t, fr, hb⟩, h2, h3, h4, h5⟩ := h
  obtain ⟨i0, hi0, hz0, hz1, hz2⟩ := info_parts int_info
  have hnews : ∀ j u, [Value.int .i64 x][j]? = some u → w.cell? ((⟨b, 0, none⟩ : Addr).add j) = some u := fun j u hj => by
    match j, hj with
    | 0, hj => simp at hj; subst hj; exact hx
  by_cases hr : q.length + 1 ≤ c
  · have hrun := run_append_room_cells (P := Tryz.prog) w 69 ty 3 i0 Tryz.underlying69 hi0 g o q.length c ⟨b, 0, none⟩ 1 1 [.int .i64 x] (by rw [hz1]; rfl) hnews (by simp [Value.oneCell']) hr
      (fun j hj => by
        have : j = 0 := by simp at hj; omega
        subst this
        rw [hz1, Nat.mul_one]
        exact (h4 q.length (by omega)).1)
      (fun j hj => by
        have : j = 0 := by simp at hj; omega
        subst this
        rw [hz1, Nat.mul_one]
        exact (h4 q.length (by omega)).2)
    rw [hz1, Nat.mul_one, setCells_one] at hrun
    obtain ⟨cs', hb'⟩ := setCell_cells (o := o + q.length) (x := .int .i64 x) hb
    refine ⟨_, _, hrun, ⟨g, o, c, by rw [List.length_append]; rfl, .inl rfl, ⟨cs', t, fr, hb'⟩, by rw [List.length_append]; exact hr, h3, fun j hj => ?_, fun j y hj => ?_⟩, Out.store (S := fun k => (Value.slice (some ⟨g, o, none⟩) q.length c).ownBlock = some k) (show some g = some g from rfl) _⟩
    · obtain ⟨g1, g2⟩ := h4 j hj
      rw [World.frozen?_setCell]
      refine ⟨?_, g2⟩
      by_cases e : j = q.length
      · subst e
        obtain ⟨u, hu⟩ := Option.isSome_iff_exists.1 g1
        rw [World.cell?_setCell_same _ _ _ hu]; rfl
      · rw [World.cell?_setCell_other _ _ _ _ (fun e' => e (by injection e' with _ e'; omega))]; exact g1
    · by_cases e : j = q.length
      · subst e
        obtain ⟨u, hu⟩ := Option.isSome_iff_exists.1 (h4 q.length (by omega)).1
        rw [World.cell?_setCell_same _ _ _ hu]
        rw [List.getElem?_append_right (Nat.le_refl _), Nat.sub_self] at hj
        simp at hj
        rw [hj]
      · have hjl : j < q.length := by have := (List.getElem?_eq_some_iff.1 hj).1; rw [List.length_append, List.length_singleton] at this; omega
        rw [World.cell?_setCell_other _ _ _ _ (fun e' => e (by injection e' with _ e'; omega))]
        rw [List.getElem?_append_left hjl] at hj
        exact h5 j y hj
  · obtain ⟨v', w', hrun, r1, r2⟩ := run_append_arg_grows (P := Tryz.prog) w 69 ty 3 i0 (.int .i64 0) 1 8 Tryz.underlying69 hi0 hz0 hz1 hz2 rfl (by decide) ⟨g, o, none⟩ q.length c (ints q) (by simp [ints])
      (fun j u hj => by
        have hjl : j < q.length := by have := (List.getElem?_eq_some_iff.1 hj).1; simpa [ints] using this
        have e : (⟨g, o, none⟩ : Addr).add j = ⟨g, o + j, none⟩ := by unfold Addr.add; split <;> simp_all
        rw [e, h5 j _ (List.getElem?_eq_getElem hjl)]
        unfold ints at hj
        rw [List.getElem?_map, List.getElem?_eq_getElem hjl] at hj
        exact hj) ⟨b, 0, none⟩ 1 1 [.int .i64 x] (by simp) hnews (by omega) (by unfold maxLen; omega) (by omega)
    refine ⟨v', w', hrun, ?_, ⟨r2.os, r2.tape, r2.output, r2.size, fun k ob _ hk => (r2.block k (at_lt hk) (by simp)).trans hk⟩⟩
    obtain ⟨g', cap', rfl, hge, hlt⟩ := r1.form (by omega)
    obtain ⟨cur, hcur⟩ := ownsRow_block r1
    have hcap : q.length + 1 ≤ cap' ∧ cap' ≤ maxLen ∧ cur.size = cap' := by
      obtain ⟨k1, ⟨e, -⟩ | ⟨g2, cap2, cur2, e, k3, k4, k5, k6, k7, k8⟩⟩ := r1
      · cases e
      · injection e with e1 _ e2
        injection e1 with e1
        injection e1 with e1
        subst e1 e2
        rw [hcur] at k4
        injection k4 with k4
        injection k4 with k4
        subst k4
        exact ⟨k5, k6, by omega⟩
    refine ⟨g', 0, cap', by rw [List.length_append]; rfl, .inr hge, ⟨cur, _, _, hcur⟩, by rw [List.length_append]; exact hcap.1, hcap.2.1, fun j hj => ?_, fun j y hj => ?_⟩
    · rw [Nat.zero_add]
      refine ⟨?_, r1.frozenAt j⟩
      simp only [World.cell?, hcur]
      rw [Array.getElem?_eq_getElem (by omega)]; rfl
    · have hjl := (List.getElem?_eq_some_iff.1 hj).1
      rw [List.length_append, List.length_singleton] at hjl
      rw [Nat.zero_add, r1.cellAt j (by omega)]
      rw [← ints_snoc]
      unfold ints
      rw [List.getElem?_map, hj]; rfl
theorem wpListIn_append_q {F : Fence} {n : Nat} {w : World} {ops : Array Oper} {rest : List Oper} {o : Oper} {a : Act} {Q : Exit → Act → World → Prop}
    (hg : o.guard = none) (s x : Operand) (hop : o.op = Op.call { callee := Callee.builtin Builtin.append, args := #[s, x], argTypes := #[69, 69] })
    {v : Value} {q : List Int} {K : Nat → Prop} (h : QOwn w v q K) (hs : a.eval s = v) (b : Nat) (y : Int) (hx : a.eval x = .slice (some ⟨b, 0, none⟩) 1 1) (hc : w.cell? ⟨b, 0, none⟩ = some (.int .i64 y)) (hq : q.length ≤ 1000000)
    (hK : ∀ v' w', QOwn w' v' (q ++ [y]) (fun g => v.ownBlock = some g ∨ w.heap.size ≤ g) → Out (fun k => v.ownBlock = some k) w w' → wpListIn F n Tryz.prog ops Q rest (a.put o.dst v') w') :
    wpListIn F n Tryz.prog ops Q (o :: rest) a w := by
  refine wpListIn_plain hg fun K0 hK' => ?_
  obtain ⟨v', w', hrun, r1, r2⟩ := run_append_q h b y hc o.type hq
  unfold Oper.wpIn
  refine ⟨?_, ?_⟩
  · simp [Oper.about, hop, resolve, Target.leads, Sem.run_pure]
  · rw [Oper.semAt_plain F _ _ (by rw [hop]; intro c hc'; cases hc')]
    simp [execOp, hop, resolve, invoke, builtin, hs, hx, hrun, Result.andThen]
    exact hK' _ _ (hK v' w' r1 r2)
theorem row_of_block {X : World} {b : Nat} {cur : List Value} {L : List Int} {T : TypeId} (h : X.heap[b]? = some (.cells cur.toArray T (0, 0))) (hc : cur = ints L) : Row X b 0 L := fun k x hx => by
  rw [Nat.zero_add]
  refine ⟨?_, by simp [World.frozen?, h]⟩
  rw [Lib.cell_of_row' h, hc]
  unfold ints
  rw [List.getElem?_map, hx]; rfl
/-- The first one taken away. -/
theorem QOwn.tail {X : World} {x : Int} {q : List Int} {K : Nat → Prop} {v : Value} (h : QOwn X v (x :: q) K) : ∃ g o c, v = .slice (some ⟨g, o, none⟩) (q.length + 1) c ∧ q.length + 1 ≤ c ∧ c ≤ maxLen ∧ K g ∧ X.cell? ⟨g, o, none⟩ = some (.int .i64 x) ∧
    (c ≠ 1 → QOwn X (.slice (some ⟨g, o + 1, none⟩) q.length (c - 1)) q K) ∧ (c = 1 → QOwn X (.slice (some ⟨g, o, none⟩) 0 0) q K) := by
  obtain ⟨g, o, c, e, h1, hb, h2, h3, h4, h5⟩ := h
  rw [List.length_cons] at e h2
  refine ⟨g, o, c, e, h2, h3, h1, h5 0 x rfl, fun hc => ⟨g, o + 1, c - 1, rfl, h1, hb, by omega, by omega, fun j hj => ?_, fun j y hy => ?_⟩, fun hc => ?_⟩
  · rw [show o + 1 + j = o + (j + 1) by omega]; exact h4 (j + 1) (by omega)
  · rw [show o + 1 + j = o + (j + 1) by omega]; exact h5 (j + 1) y hy
  · obtain rfl : q = [] := List.eq_nil_of_length_eq_zero (by omega)
    exact ⟨g, o, 0, rfl, h1, hb, Nat.le_refl _, Nat.zero_le _, fun j hj => by omega, fun j y hy => by simp at hy⟩
theorem QOwn.tail_run {X : World} {x : Int} {q : List Int} {K : Nat → Prop} {v : Value} (h : QOwn X v (x :: q) K) (hq : q.length ≤ 1000000) : ∃ g o c v2, v = .slice (some ⟨g, o, none⟩) (q.length + 1) c ∧ q.length + 1 ≤ c ∧ c ≤ maxLen ∧ K g ∧ X.cell? ⟨g, o, none⟩ = some (.int .i64 x) ∧
    (∀ W' : World, (Instr.slice 69 (.slice (some ⟨g, o, none⟩) (q.length + 1) c) (some (.int .i64 1)) none none).run Tryz.prog W' = .ok v2 W') ∧ QOwn X v2 q K := by
  obtain ⟨g, o, c, e, h1, h2, h3, h4, h5, h6⟩ := h.tail
  by_cases hc : c = 1
  · refine ⟨g, o, c, _, e, h1, h2, h3, h4, fun W' => ?_, h6 hc⟩
    have hq0 : q.length = 0 := by omega
    have hu := Tryz.underlying69
    have e8 := int_size
    subst hc
    rw [hq0]
    go_simp
  · refine ⟨g, o, c, _, e, h1, h2, h3, h4, fun W' => ?_, h5 hc⟩
    have hu := Tryz.underlying69
    have e8 := int_size
    unfold maxLen at h2
    go_simp
    intro hh
    omega
/-- The marks that loops over an iterator leave. -/
def markOf (D : Nat) : Deferred := { target := .collected D, args := #[] }
def putMarks (Ds : List Nat) (w : World) : World := Ds.foldl (fun w D => w.putObj D (.deferred none)) w
structure Marks (B : Nat) (Ds : List Nat) (w : World) : Prop where
  nd : Ds.Nodup
  at_ : ∀ D ∈ Ds, B ≤ D ∧ w.heap[D]? = some (.deferred (some []))
theorem Marks.nil (B : Nat) (w : World) : Marks B [] w := ⟨List.nodup_nil, fun D h => by cases h⟩
theorem Marks.kept {B : Nat} {Ds : List Nat} {w w' : World} (h : Marks B Ds w) (hk : ∀ (k : Nat) (o : Obj), B ≤ k → o.isCells = false → w.heap[k]? = some o → w'.heap[k]? = some o) : Marks B Ds w' :=
  ⟨h.nd, fun D hD => ⟨(h.at_ D hD).1, hk _ _ (h.at_ D hD).1 rfl (h.at_ D hD).2⟩⟩
theorem Marks.cons {B : Nat} {Ds : List Nat} {w : World} {D : Nat} (h : Marks B Ds w) (hB : B ≤ D) (hd : w.heap[D]? = some (.deferred (some []))) (hn : D ∉ Ds) : Marks B (D :: Ds) w :=
  ⟨List.nodup_cons.2 ⟨hn, h.nd⟩, fun E hE => by
    rcases List.mem_cons.1 hE with rfl | hE
    · exact ⟨hB, hd⟩
    · exact h.at_ E hE⟩
theorem putMarks_cells {B : Nat} : ∀ {Ds : List Nat} {w : World}, Marks B Ds w → ∀ (k : Nat) (cs : Array Value) (t : TypeId) (fr : Nat × Nat), w.heap[k]? = some (.cells cs t fr) → (putMarks Ds w).heap[k]? = some (.cells cs t fr)
  | [], _, _, _, _, _, _, h => h
  | D :: Ds, w, hm, k, cs, t, fr, h => by
    have hd := (hm.at_ D (by simp)).2
    have hn := List.nodup_cons.1 hm.nd
    refine putMarks_cells (Ds := Ds) (w := w.putObj D (.deferred none)) ⟨hn.2, fun E hE => ⟨(hm.at_ E (List.mem_cons_of_mem _ hE)).1, ?_⟩⟩ k cs t fr (put_cells h hd rfl)
    exact put_else (hm.at_ E (List.mem_cons_of_mem _ hE)).2 (fun e => hn.1 (e ▸ hE))
theorem putMarks_below {B : Nat} {w0 : World} : ∀ {Ds : List Nat} {w : World}, (∀ D ∈ Ds, B ≤ D) → Below B w0 w → Below B w0 (putMarks Ds w)
  | [], _, _, h => h
  | D :: Ds, w, hm, h => putMarks_below (Ds := Ds) (fun E hE => hm E (List.mem_cons_of_mem _ hE)) (below_put h (hm D (by simp)))
theorem leaves_marks {F : Fence} {n : Nat} {P : Program} {fn : Func} {tmps : Array Value} {R : Ending → World → Prop} {B : Nat} : ∀ {Ds : List Nat} {w : World}, Marks B Ds w → LeavesInM F n P fn tmps R [] .returning (putMarks Ds w) → LeavesInM F n P fn tmps R (Ds.map markOf) .returning w
  | [], _, _, h => h
  | D :: Ds, w, hm, h => by
    have hn := List.nodup_cons.1 hm.nd
    refine ⟨by simp, .inl ⟨D, _, rfl, run_takeDeferred (hm.at_ D (by simp)).2, ?_⟩⟩
    exact leaves_marks (Ds := Ds) ⟨hn.2, fun E hE => ⟨(hm.at_ E (List.mem_cons_of_mem _ hE)).1, put_else (hm.at_ E (List.mem_cons_of_mem _ hE)).2 (fun e => hn.1 (e ▸ hE))⟩⟩ h
end Go.Proofs.YtidpiokkfnhobaaGreat.v5

namespace Go.Proofs.YtidpiokkfnhobaaGreat.v5
open Go.RowKit Go.Shelf
attribute [local go_sem] Oper.semAt_some
set_option maxRecDepth 100000
set_option linter.unusedSimpArgs false
set_option linter.unusedVariables false

/-- What distances returns. -/
def DiPost (N s : Nat) (l : List Ar) (W : World) (e : Ending) (w' : World) : Prop :=
  ∃ F g, e = .returned (.slice (some ⟨g, 0, none⟩) N N) ∧ Row w' g 0 F ∧ F.length = N ∧ IsFar l s (ff F) ∧ (∀ n, ff F n ≤ (N : Int)) ∧ W.heap.size ≤ g ∧ Below W.heap.size W w'
/-- The memory of a search. -/
structure DsM (W : World) (ro : Array Value) (g bf bq N : Nat) (K : Nat → Prop) (Q : List Nat) (F : List Int) (v : Value) (X : World) : Prop where
  row : Row X g 0 F
  qb : Boxed X bq 69 v
  qo : QOwn X v (nats Q) K
  bel : Below W.heap.size W X
  far : Boxed X bf 69 (.slice (some ⟨g, 0, none⟩) N N)
  rbox : X.heap[W.heap.size]? = some (.cells ro 95 (0, 0))
structure DiI (W : World) (ro : Array Value) (g bf bq N : Nat) (K : Nat → Prop) (l : List Ar) (s p bN B : Nat) (D Ds : List Nat) (Gd : Nat → Prop) (w2 : World) (pre Q : List Nat) (F : List Int) (v : Value) (X : World) : Prop where
  ds : DsP l s N D [p] Q F
  lp : ff F p ≤ (D.length : Int)
  seen : ∀ m ∈ pre, ∀ q, mvTo l m = some q → 0 < mvRoom l m → 0 ≤ ff F q
  mem : DsM W ro g bf bq N K Q F v X
  node : Boxed X bN 3 (.int .i64 (p : Int))
  kp : KpG Gd w2 X
  mks : Marks B Ds X
section
variable {W : World} {ro : Array Value} {g bf bq N : Nat} {K : Nat → Prop} {l : List Ar} {s p bN B : Nat} {D Ds : List Nat} {Gd : Nat → Prop} {w2 : World} {pre Q : List Nat} {F : List Int} {v : Value} {X Y : World}
theorem DsM.moved (h : DsM W ro g bf bq N K Q F v X) (hk : ∀ (k : Nat) (cs : Array Value) (T : TypeId) (fr : Nat × Nat), X.heap[k]? = some (.cells cs T fr) → Y.heap[k]? = some (.cells cs T fr)) (hb : Below W.heap.size W Y) : DsM W ro g bf bq N K Q F v Y :=
  ⟨h.row.kept (fun cs t fr hb => hk _ cs t fr hb), hk _ _ _ _ h.qb, h.qo.kept (fun g cs t fr _ hb => hk g cs t fr hb) (fun _ h _ => h), hb, hk _ _ _ _ h.far, hk _ _ _ _ h.rbox⟩
theorem DsM.toK {K' : Nat → Prop} (h : DsM W ro g bf bq N K Q F v X) (hK : ∀ k, v.ownBlock = some k → K' k) : DsM W ro g bf bq N K' Q F v X := by
  refine ⟨h.row, h.qb, ?_, h.bel, h.far, h.rbox⟩
  obtain ⟨g, o, c, rfl, h1, h2⟩ := h.qo
  exact ⟨g, o, c, rfl, hK g rfl, h2⟩
theorem DiI.own {T : Nat} (h : DiI W ro g bf bq N K l s p bN B D Ds Gd w2 pre Q F v X) (hE : OwnIt T 0 X Y) (hT : W.heap.size ≤ T) (hD : ∀ d ∈ Ds, d < T) : DiI W ro g bf bq N K l s p bN B D Ds Gd w2 pre Q F v Y := by
  have hk : ∀ (k : Nat) (cs : Array Value) (t : TypeId) (fr : Nat × Nat), X.heap[k]? = some (.cells cs t fr) → Y.heap[k]? = some (.cells cs t fr) := fun k cs t fr hb => hE.same k _ hb (by rcases Nat.lt_or_ge k T with g | g; exact .inl g; exact .inr ⟨rfl, by omega⟩)
  exact ⟨h.ds, h.lp, h.seen, h.mem.moved hk (below_own h.mem.bel hE hT), hk _ _ _ _ h.node, h.kp.trans ⟨hE.size, fun k cs t fr _ hb => hk k cs t fr hb⟩, ⟨h.mks.nd, fun d hd => ⟨(h.mks.at_ d hd).1, hE.same d _ (h.mks.at_ d hd).2 (.inl (hD d hd))⟩⟩⟩
theorem DiI.put {b : Nat} {o o' : Obj} (h : DiI W ro g bf bq N K l s p bN B D Ds Gd w2 pre Q F v X) (hl : W.heap.size ≤ b) (hb : X.heap[b]? = some o) (hc : o.isCells = false) (hD : ∀ d ∈ Ds, d ≠ b) : DiI W ro g bf bq N K l s p bN B D Ds Gd w2 pre Q F v (X.putObj b o') :=
  ⟨h.ds, h.lp, h.seen, h.mem.moved (fun k cs t fr hk => put_cells hk hb hc) (below_put h.mem.bel hl), put_cells h.node hb hc, h.kp.trans (KpG.put _ hb hc), ⟨h.mks.nd, fun d hd => ⟨(h.mks.at_ d hd).1, put_else (h.mks.at_ d hd).2 (hD d hd)⟩⟩⟩
theorem room_at {r : Rs} (hrr : Row W r.bR r.oR (rooms l)) (hb : Below W.heap.size W X) {m : Nat} (hm : m < 2 * l.length) : X.cell? ⟨r.bR, r.oR + m, none⟩ = some (.int .i64 (mvRoom l m)) := by
  have h1 := (hrr m _ (rooms_get hm)).1
  obtain ⟨cs, t, fr, hc⟩ := cell_block h1
  exact (hb.cell (p := ⟨r.bR, r.oR + m, none⟩) (at_lt hc)).trans h1
theorem op_room {r : Rs} (hrr : Row W r.bR r.oR (rooms l)) (hb : Below W.heap.size W X) {m : Nat} (hm : m < 2 * l.length) : opR r.bR r.oR X m ∨ clR r.bR r.oR X m := by
  rcases Int.lt_or_le 0 (mvRoom l m) with g | g
  · exact .inl ⟨_, g, room_at hrr hb hm⟩
  · exact .inr ⟨_, g, room_at hrr hb hm⟩
theorem DiI.skip {r : Rs} (h : DiI W ro g bf bq N K l s p bN B D Ds Gd w2 pre Q F v X) (hrr : Row W r.bR r.oR (rooms l)) {m : Nat} (hm : m < 2 * l.length) (hc : clR r.bR r.oR X m) : DiI W ro g bf bq N K l s p bN B D Ds Gd w2 (pre ++ [m]) Q F v X := by
  obtain ⟨x, hx, hcx⟩ := hc
  have h1 := room_at hrr h.mem.bel hm
  rw [hcx] at h1
  injection h1 with h1
  injection h1 with _ h1
  refine ⟨h.ds, h.lp, fun k hk q hq hr => ?_, h.mem, h.node, h.kp, h.mks⟩
  rcases List.mem_append.1 hk with hk | hk
  · exact h.seen k hk q hq hr
  · rw [List.mem_singleton] at hk; subst hk; omega
theorem DiI.old (h : DiI W ro g bf bq N K l s p bN B D Ds Gd w2 pre Q F v X) {m q : Nat} (hq : mvTo l m = some q) (hn : ff F q ≠ -1) : DiI W ro g bf bq N K l s p bN B D Ds Gd w2 (pre ++ [m]) Q F v X := by
  refine ⟨h.ds, h.lp, fun k hk q' hq' hr => ?_, h.mem, h.node, h.kp, h.mks⟩
  rcases List.mem_append.1 hk with hk | hk
  · exact h.seen k hk q' hq' hr
  · rw [List.mem_singleton] at hk
    subst hk
    rw [hq] at hq'
    injection hq' with hq'
    subst hq'
    have := h.ds.bfs.low q
    omega
end
theorem kf_drew {B : Nat} {X : World} : KeepsFrom B X X.drew := ⟨Nat.le_refl _, fun _ _ _ h _ => h⟩
theorem kf_alloc {B : Nat} {X : World} (o : Obj) : KeepsFrom B X (X.alloc o) := ⟨by simp, fun _ _ _ h _ => old_heap _ h⟩
theorem kf_out {B : Nat} {T : Nat → Prop} {X Y : World} (h : Out T X Y) (hT : ∀ k, T k → ∃ cs t fr, X.heap[k]? = some (.cells cs t fr)) : KeepsFrom B X Y :=
  ⟨h.size, fun k o _ hk ho => h.same k o (fun hh => by obtain ⟨cs, t, fr, hc⟩ := hT k hh; rw [hc] at hk; cases hk; cases ho) hk⟩
/-- A node is found: its distance is stored, it is appended to those that wait. -/
theorem di_step {W : World} {ro : Array Value} {g bf bq N : Nat} {K : Nat → Prop} {l : List Ar} {s p bN B m q : Nat} {D Ds : List Nat} {Gd : Nat → Prop} {w2 : World} {pre Q : List Nat} {F : List Int} {v v' : Value} {Y Z3 : World}
    (h : DiI W ro g bf bq N K l s p bN B D Ds Gd w2 pre Q F v Y) (h1 : mvFrom l m = some p) (h2 : mvTo l m = some q) (hr : 0 < mvRoom l m) (hq : ff F q = -1) (hqN : q < N)
    (hK : ∀ k, K k → k ≠ g ∧ k ≠ bf ∧ k ≠ bq ∧ W.heap.size < k ∧ k ≠ bN) (hG : ∀ k, Gd k → k ≠ g ∧ k ≠ bq ∧ ¬ K k ∧ k < w2.heap.size) (hnew : ∀ k, w2.heap.size + 2 ≤ k → K k) (hsz : w2.heap.size + 2 ≤ Y.heap.size) (hb : bN ≠ g ∧ bN ≠ bq ∧ W.heap.size ≤ g ∧ W.heap.size ≤ bq ∧ g ≠ bq ∧ g ≠ bf ∧ bf ≠ bq ∧ W.heap.size ≠ g ∧ W.heap.size ≠ bq)
    (hq3 : QOwn Z3 v' (nats Q ++ [(q : Int)]) (fun k => v.ownBlock = some k ∨ ((Y.drew.setCell ⟨g, q, none⟩ (.int .i64 (ff F p + 1))).alloc (.cells #[.int .i64 (q : Int)] 3)).heap.size ≤ k)) (ho : Out (fun k => v.ownBlock = some k) ((Y.drew.setCell ⟨g, q, none⟩ (.int .i64 (ff F p + 1))).alloc (.cells #[.int .i64 (q : Int)] 3)) Z3) :
    DiI W ro g bf bq N K l s p bN B D Ds Gd w2 (pre ++ [m]) (Q ++ [q]) (F.set q (ff F p + 1)) v' (Z3.setCell ⟨bq, 0, none⟩ v') ∧ (∀ B', KeepsFrom B' Y (Z3.setCell ⟨bq, 0, none⟩ v')) ∧ KpIt (w2.heap.size + 2) 0 Gd Y (Z3.setCell ⟨bq, 0, none⟩ v') ∧ Boxed Z3 bq 69 v := by
  obtain ⟨b1, b2, b3, b4, b5, b6, b7, b8, b9⟩ := hb
  have hqF : q < F.length := by rw [h.ds.len]; exact hqN
  have hrow := h.mem.row.set hqF (ff F p + 1)
  rw [Nat.zero_add] at hrow
  obtain ⟨cs0, t0, fr0, hgc⟩ := cell_block (h.mem.row q _ (ff_at hqF)).1
  -- the world behind the store
  have k1 : ∀ k o, k ≠ g → Y.heap[k]? = some o → (Y.drew.setCell ⟨g, q, none⟩ (.int .i64 (ff F p + 1))).heap[k]? = some o := fun k o hk ho => (Below.heap_setCell Y.drew ⟨g, q, none⟩ _ k hk).trans ho
  have hown : ∀ k, v.ownBlock = some k → K k ∧ ∃ cs t fr, Y.heap[k]? = some (.cells cs t fr) := fun k hk => h.mem.qo.own hk
  have z1 : (Y.drew.setCell ⟨g, q, none⟩ (.int .i64 (ff F p + 1))).heap.size = Y.heap.size := by simp [World.setCell]
  have f1 : ∀ B', KeepsFrom B' Y (Y.drew.setCell ⟨g, q, none⟩ (.int .i64 (ff F p + 1))) := fun B' => kf_drew.trans (kf_store (X := Y.drew) _ hgc)
  have r1 : Row (Y.drew.setCell ⟨g, q, none⟩ (.int .i64 (ff F p + 1))) g 0 (F.set q (ff F p + 1)) := hrow
  have e1 : Below W.heap.size W (Y.drew.setCell ⟨g, q, none⟩ (.int .i64 (ff F p + 1))) := (h.mem.bel.drew).setCell b3 _
  generalize Y.drew.setCell ⟨g, q, none⟩ (.int .i64 (ff F p + 1)) = Z1 at *
  have k2 : ∀ k o, k ≠ g → v.ownBlock ≠ some k → Y.heap[k]? = some o → Z3.heap[k]? = some o := fun k o hk hv hc => ho.same k o hv (old_heap _ (k1 k o hk hc))
  have f2 : ∀ B', KeepsFrom B' Y Z3 := fun B' => ((f1 B').trans (kf_alloc _)).trans (kf_out ho fun k hk => by
    obtain ⟨g1, cs, t, fr, hc⟩ := hown k hk
    exact ⟨cs, t, fr, old_heap _ (k1 k _ (hK k g1).1 hc)⟩)
  have hvn : ∀ k, v.ownBlock = some k → k ≠ g ∧ k ≠ bf ∧ k ≠ bq ∧ W.heap.size < k ∧ k ≠ bN := fun k hk => hK k (hown k hk).1
  have hqb : Boxed Z3 bq 69 v := k2 bq _ (fun e => b5 e.symm) (fun e => (hvn _ e).2.2.1 rfl) h.mem.qb
  have hz3 := ho.size
  rw [World.size_alloc, z1] at hz3
  have e2 : Below W.heap.size W Z3 := ho.below (e1.alloc (by rw [z1]; exact h.mem.bel.size) _) (fun i hi hv => by have := hvn i hv; omega)
  have hf3 : ∀ B', KeepsFrom B' Y (Z3.setCell ⟨bq, 0, none⟩ v') := fun B' => (f2 B').trans (kf_store _ hqb)
  have k4 : ∀ k o, k ≠ g → k ≠ bq → v.ownBlock ≠ some k → Y.heap[k]? = some o → (Z3.setCell ⟨bq, 0, none⟩ v').heap[k]? = some o := fun k o hk hk2 hv hc => (Below.heap_setCell Z3 ⟨bq, 0, none⟩ v' k hk2).trans (k2 k o hk hv hc)
  have hKv' : ∀ k, (v.ownBlock = some k ∨ (Z1.alloc (.cells #[.int .i64 (q : Int)] 3)).heap.size ≤ k) → K k := fun k hk => by
    rcases hk with hk | hk
    · exact (hown k hk).1
    · rw [World.size_alloc, z1] at hk; exact hnew k (by omega)
  have hkp : KpIt (w2.heap.size + 2) 0 Gd Y (Z3.setCell ⟨bq, 0, none⟩ v') := ⟨(hf3 0).size, fun k cs t fr hk hc => by
    rcases hk with hk | hk
    · have hk' := hG k hk
      exact k4 k _ hk'.1 hk'.2.1 (fun e => hk'.2.2.1 (hown k e).1) hc
    · omega, fun k o hk hc ho' => (hf3 0).same k o (Nat.zero_le _) hc ho'⟩
  refine ⟨⟨h.ds.visit h1 h2 hr hq hqN h.lp, ?_, fun k hk q' hq' hr' => ?_, ⟨?_, hqb.set _, ?_, e2.setCell b4 _, ?_, ?_⟩, ?_, h.kp.trans hkp.good, ?_⟩, hf3, hkp, hqb⟩
  · rw [ff_set hqF]
    have hpq : p ≠ q := fun e => by subst e; have := h.ds.at_.1; omega
    rw [if_neg hpq]; exact h.lp
  · rw [ff_set hqF]
    have hp0 := h.ds.at_.1
    split
    · omega
    · rename_i hne
      rcases List.mem_append.1 hk with hk | hk
      · exact h.seen k hk q' hq' hr'
      · rw [List.mem_singleton] at hk
        subst hk
        rw [h2] at hq'
        injection hq' with hq'
        exact absurd hq'.symm hne
  · refine (r1.kept fun cs t fr hc => ?_)
    refine (Below.heap_setCell Z3 ⟨bq, 0, none⟩ v' g b5).trans (ho.same g _ (fun e => (hvn g e).1 rfl) (old_heap _ hc))
  · have : nats (Q ++ [q]) = nats Q ++ [(q : Int)] := by simp [nats]
    rw [this]
    exact hq3.kept (fun k cs t fr hk hc => (Below.heap_setCell Z3 ⟨bq, 0, none⟩ v' k (hK k (hKv' k hk)).2.2.1).trans hc) (fun k hk _ => hKv' k hk)
  · exact k4 bf _ (fun e => b6 e.symm) b7 (fun e => (hvn _ e).2.1 rfl) h.mem.far
  · exact k4 W.heap.size _ b8 b9 (fun e => by have := (hvn _ e).2.2.2.1; omega) h.mem.rbox
  · exact k4 bN _ b1 b2 (fun e => (hvn _ e).2.2.2.2 rfl) h.node
  · exact h.mks.kept fun k o hk hc ho' => (hf3 0).same k o (Nat.zero_le _) ho' hc
set_option maxHeartbeats 8000000 in
theorem c_distances (r : Rs) (N s : Nat) (l : List Ar) (hN : 2 ≤ N ∧ N ≤ 64) (hs : s < N) (hl : l.length ≤ 128) (hnodes : ∀ a ∈ l, a.u < N ∧ a.v < N) (hsh : RShape r N l) (W : World) (hbR : r.bR < W.heap.size) (hfx : ∀ Y, KpG (fun k => k < W.heap.size) W Y → RFix Y r N l) (hrr : Row W r.bR r.oR (rooms l)) :
    Calls Tryz.prog 115 #[r.val N, .int .i64 (s : Int)] W (DiPost N s l W) := by
  unfold Rs.val Rs.M
  obtain ⟨A1, n1, c1, hE⟩ := hsh.es
  obtain ⟨A2, n2, c2, hR⟩ := hsh.rs
  rw [hE, hR]
  have HE := Lib.hid hE
  have HR := Lib.hid hR
  have HSM := hsh.sm
  unfold maxLen at HSM
  have HFX := Lib.hid hfx
  have HRR := Lib.hid hrr
  have HND := Lib.hid hnodes
  have HSH := Lib.hid hsh
  clear hE hR hfx hrr hnodes hsh
  have HRP := Lib.hid (c_Repeat N (by omega) (-1) (.slice (some ⟨W.heap.size + 1, 0, none⟩) 1 1) ((W.alloc (.cells #[.slice A1 n1 c1, .slice A2 n2 c2, .slice (some ⟨r.bM, r.oM, none⟩) N r.cM] 95)).alloc (.cells #[.int .i64 (-1)] 3)) (by simpa using intSl_one (W.alloc (.cells #[.slice A1 n1 c1, .slice A2 n2 c2, .slice (some ⟨r.bM, r.oM, none⟩) N r.cM] 95)) (-1)))
  simp only [World.size_alloc] at HRP
  refine (callsIn_wide (n := 8)).1 ?_
  refine callsIn_of_wp_marks Tryz.func115 rfl trivial ?_ rfl
  simp only [Tryz.ntmps115, List.size_toArray, List.length_cons, List.length_nil, Nat.reduceAdd, Nat.reduceSub, Array.replicate_succ, Array.replicate_zero, List.push_toArray, List.append_toArray, List.nil_append, List.cons_append]
  rw [wpIn_wide]
  go_wp2_with (fail)
  go_at_call 127
  refine HRP.out.mono ?_
  rintro e w1 ⟨rfl, hrow, hb1⟩
  have hz1 : W.heap.size + 3 ≤ w1.heap.size := by have := (at_lt hrow); omega
  have HB1 := Lib.hid (below_join (((Below.refl W.heap.size W).alloc (Nat.le_refl _) (.cells #[.slice A1 n1 c1, .slice A2 n2 c2, .slice (some ⟨r.bM, r.oM, none⟩) N r.cM] 95)).alloc (by simp) (.cells #[.int .i64 (-1)] 3)) hb1 (by omega))
  have HBR := Lib.hid (show w1.heap[W.heap.size]? = some (.cells #[.slice A1 n1 c1, .slice A2 n2 c2, .slice (some ⟨r.bM, r.oM, none⟩) N r.cM] 95 (0, 0)) from (hb1.block _ (by omega)).trans (old_heap _ (heap_alloc_new _ _)))
  obtain ⟨g, hg⟩ : ∃ g, g = W.heap.size + 1 + 1 := ⟨_, rfl⟩
  rw [← hg] at hrow ⊢
  have hgb : W.heap.size + 2 ≤ g ∧ g < W.heap.size + 3 := by omega
  have HROW := Lib.hid (show Row w1 g 0 (List.replicate N (-1)) from row_of_block hrow (by simp [ints]))
  clear hg hrow hb1 HRP
  obtain ⟨f1, f2⟩ := HROW.out s (-1) (by rw [List.getElem?_replicate, if_pos hs])
  rw [Nat.zero_add] at f1 f2
  have f1' := alloc_cell f1
  have f2' : ∀ o, (w1.alloc o).frozen? ⟨g, s, none⟩ = false := fun o => (World.frozen?_of_block (a := ⟨g, s, none⟩) (Below.heap_alloc _ _ _ (show g < w1.heap.size by omega))).trans f2
  have hsN : (s : Int) < (N : Int) := by omega
  clear f1 f2
  go_wp2_with (fail)
  obtain ⟨bf, hbf⟩ : ∃ b, b = w1.heap.size := ⟨_, rfl⟩
  obtain ⟨V, hV⟩ : ∃ V, V = ((((w1.alloc (.cells #[.slice (some ⟨g, 0, none⟩) N N] 69)).setCell ⟨g, s, none⟩ (.int .i64 0)).alloc (.cells #[.int .i64 (s : Int)] 3)).alloc (.cells #[.slice (some ⟨bf + 1, 0, none⟩) 1 1] 69)) := ⟨_, rfl⟩
  have hVM : DsM W #[.slice A1 n1 c1, .slice A2 n2 c2, .slice (some ⟨r.bM, r.oM, none⟩) N r.cM] g bf (bf + 1 + 1) N (fun k => W.heap.size < k ∧ k ≠ g ∧ k ≠ bf ∧ k ≠ bf + 1 + 1) [s] ((List.replicate N (-1)).set s 0) (.slice (some ⟨bf + 1, 0, none⟩) 1 1) V := by
    subst hV
    have q0 : Row (w1.alloc (.cells #[.slice (some ⟨g, 0, none⟩) N N] 69)) g 0 (List.replicate N (-1)) := HROW.out.kept fun cs t fr hb => old_heap _ hb
    have q1 := q0.set (j := s) (by rw [List.length_replicate]; exact hs) 0
    rw [Nat.zero_add] at q1
    have z1 : ((w1.alloc (.cells #[.slice (some ⟨g, 0, none⟩) N N] 69)).setCell ⟨g, s, none⟩ (.int .i64 0)).heap.size = bf + 1 := by simp [World.setCell, hbf]
    have b1 : Boxed ((w1.alloc (.cells #[.slice (some ⟨g, 0, none⟩) N N] 69)).setCell ⟨g, s, none⟩ (.int .i64 0)) bf 69 (.slice (some ⟨g, 0, none⟩) N N) := boxed_far (row_new _ _ _ hbf) (by omega) _
    have b2 : ((w1.alloc (.cells #[.slice (some ⟨g, 0, none⟩) N N] 69)).setCell ⟨g, s, none⟩ (.int .i64 0)).heap[W.heap.size]? = some (.cells #[.slice A1 n1 c1, .slice A2 n2 c2, .slice (some ⟨r.bM, r.oM, none⟩) N r.cM] 95 (0, 0)) :=
      (Below.heap_setCell _ ⟨g, s, none⟩ _ _ (show W.heap.size ≠ g by omega)).trans (old_heap _ HBR.out)
    have b3 : Below W.heap.size W ((w1.alloc (.cells #[.slice (some ⟨g, 0, none⟩) N N] 69)).setCell ⟨g, s, none⟩ (.int .i64 0)) := (HB1.out.alloc (by omega) _).setCell (show W.heap.size ≤ g by omega) _
    generalize (w1.alloc (.cells #[.slice (some ⟨g, 0, none⟩) N N] 69)).setCell ⟨g, s, none⟩ (.int .i64 0) = w3 at q1 z1 b1 b2 b3 ⊢
    refine ⟨q1.kept fun cs t fr hb => old_heap _ (old_heap _ hb), row_new _ _ _ (by simp [z1]), ?_, (b3.alloc (by omega) _).alloc (by simp; omega) _, old_heap _ (old_heap _ b1), old_heap _ (old_heap _ b2)⟩
    have hl := old_heap (.cells #[.slice (some ⟨bf + 1, 0, none⟩) 1 1] 69) (row_new w3 (.cells #[.int .i64 (s : Int)] 3) (bf + 1) z1.symm)
    refine ⟨bf + 1, 0, 1, rfl, by omega, ⟨_, _, _, hl⟩, Nat.le_refl _, by unfold maxLen; omega, fun j hj => ?_, fun j x hx => ?_⟩
    · obtain rfl : j = 0 := by omega
      simp [World.cell?, World.frozen?, hl]
    · match j, hx with
      | 0, hx => simp [nats] at hx; subst hx; simp [World.cell?, hl]
  rw [← hbf] at hz1 ⊢
  rw [← hV]
  have hw1b : w1.heap.size ≤ bf ∧ bf ≤ w1.heap.size := by omega
  clear hV f1' f2' HB1 HBR HROW hbf
  refine wp_loop_ghost_k (fun k a w => ∃ (Ds D Q : List Nat) (F : List Int) (v : Value) (u7 u8 u9 u20 u21 u22 u23 u24 u25 u26 u27 u28 u29 u30 u31 u32 u33 u34 u35 u36 u37 u38 u39 u40 u41 u42 u43 u44 u45 u46 u47 u48 u49 u50 u51 u52 u53 u54 : Value), a = { tmps := #[.agg #[.slice A1 n1 c1, .slice A2 n2 c2, .slice (some ⟨r.bM, r.oM, none⟩) N r.cM], .int .i64 (s : Int), .pointer (some ⟨W.heap.size, 0, none⟩), undef, .slice none 0 0, .pointer (some ⟨bf, 0, none⟩), .pointer (some ⟨bf + 1 + 1, 0, none⟩), u7, u8, u9,
      .slice (some ⟨W.heap.size + 1, 0, none⟩) 1 1, .pointer (some ⟨W.heap.size, 2, none⟩), .slice (some ⟨r.bM, r.oM, none⟩) N r.cM, .int .i64 (N : Int), .slice (some ⟨g, 0, none⟩) N N, .slice (some ⟨g, 0, none⟩) N N, .int .i64 (s : Int), .pointer (some ⟨g, s, none⟩), .int .i64 (s : Int), .slice (some ⟨bf + 1, 0, none⟩) 1 1, u20, u21, u22, u23, u24, u25, u26, u27, u28, u29, u30, u31, u32, u33, u34, u35, u36, u37, u38, u39, u40, u41, u42, u43, u44, u45, u46, u47, u48, u49, u50, u51, u52, u53, u54], defers := Ds.map markOf } ∧
      Marks bf Ds w ∧ k = N - D.length ∧ DsP l s N D [] Q F ∧ DsM W #[.slice A1 n1 c1, .slice A2 n2 c2, .slice (some ⟨r.bM, r.oM, none⟩) N r.cM] g bf (bf + 1 + 1) N (fun k => W.heap.size < k ∧ k ≠ g ∧ k ≠ bf ∧ k ≠ bf + 1 + 1) Q F v w) N ?start ?round
  case start =>
    exact ⟨[], [], [s], _, _, _, _, _, _, _, _, _, _, _, _, _, _, _, _, _, _, _, _, _, _, _, _, _, _, _, _, _, _, _, _, _, _, _, _, _, _, _, _, rfl, Marks.nil _ _, rfl, DsP.start hs, hVM⟩
  case round =>
    clear hVM V
    intro gk a X hI J KK hJ hKK
    obtain ⟨Ds, D, Q, F, v, u7, u8, u9, u20, u21, u22, u23, u24, u25, u26, u27, u28, u29, u30, u31, u32, u33, u34, u35, u36, u37, u38, u39, u40, u41, u42, u43, u44, u45, u46, u47, u48, u49, u50, u51, u52, u53, u54, rfl, hmk, hgk, hds, hm⟩ := hI
    try dsimp only
    have HMK := Lib.hid hmk
    have HGK := Lib.hid hgk
    have HDS := Lib.hid hds
    have HM := Lib.hid hm
    have hqc := hm.qb.cell
    cases Q with
    | nil =>
      obtain ⟨g1, o1, c1', e, -, -, h2, h3, -⟩ := hm.qo
      subst e
      have hfc := hm.far.cell
      have HP := Lib.hid (show DiPost N s l W (.returned (.slice (some ⟨g, 0, none⟩) N N)) (putMarks Ds X) from
        ⟨F, g, rfl, hm.row.kept (fun cs t fr hb => putMarks_cells hmk _ cs t fr hb), hds.len, hds.end_.1, hds.end_.2, by omega, putMarks_below (fun D hD => by have := (hmk.at_ D hD).1; omega) hm.bel⟩)
      clear hm hds hmk hgk
      go_wp2_with (fail)
      refine leaves_marks HMK.out ?_
      exact ⟨_, by simp [results, Tryz.results115, go_sem], HP.out⟩
    | cons p Q =>
      obtain ⟨g1, o1, c1', v2, e, h2, h3, h4, h5, h6, h7⟩ := (show QOwn X v ((p : Int) :: nats Q) _ from hm.qo).tail_run (by have := hds.below; rw [nats_len]; simp at this; omega)
      rw [nats_len] at e h2 h6
      subst e
      obtain ⟨g2, o2, cc2, hv2, hK2, -⟩ := id h7
      rw [nats_len] at hv2
      subst hv2
      have HQ2 := Lib.hid h7
      have hrc := hm.rbox
      have x0 : X.cell? ⟨W.heap.size, 0, none⟩ = some (.slice A1 n1 c1) := cell_of hrc rfl
      have x1 : X.cell? ⟨W.heap.size, 1, none⟩ = some (.slice A2 n2 c2) := cell_of hrc rfl
      have x2 : X.cell? ⟨W.heap.size, 2, none⟩ = some (.slice (some ⟨r.bM, r.oM, none⟩) N r.cM) := cell_of hrc rfl
      have hqf := hm.qb.frozen
      have hbx := hm.qb.lt
      have hbl := at_lt hrc
      unfold maxLen at h3
      have hne : bf + 1 + 1 ≠ W.heap.size := by omega
      have HHJ := Lib.hid hJ
      have HHK := Lib.hid hKK
      clear hm hds hmk hgk hrc h7 hJ hKK
      go_wp2_with (fail)
      obtain ⟨X1, hX1⟩ : ∃ Y, Y = X.setCell ⟨bf + 1 + 1, 0, none⟩ (.slice (some ⟨g2, o2, none⟩) Q.length cc2) := ⟨_, rfl⟩
      rw [← hX1]
      have z1 : X1.heap.size = X.heap.size := by subst hX1; simp [World.setCell]
      have HM1 := Lib.hid (show DsM W #[.slice A1 n1 c1, .slice A2 n2 c2, .slice (some ⟨r.bM, r.oM, none⟩) N r.cM] g bf (bf + 1 + 1) N (fun k => W.heap.size < k ∧ k ≠ g ∧ k ≠ bf ∧ k ≠ bf + 1 + 1) Q F (.slice (some ⟨g2, o2, none⟩) Q.length cc2) X1 from by
        subst hX1
        have hm := HM.out
        exact ⟨hm.row.other (by omega) _, hm.qb.set _, HQ2.out.kept (fun k cs t fr hk hc => (Below.heap_setCell X ⟨bf + 1 + 1, 0, none⟩ _ k hk.2.2.2).trans hc) (fun k hk _ => hk), hm.bel.setCell (by show W.heap.size ≤ bf + 1 + 1; omega) _, boxed_far hm.far (by omega) _, (Below.heap_setCell X ⟨bf + 1 + 1, 0, none⟩ _ W.heap.size (show W.heap.size ≠ bf + 1 + 1 by omega)).trans hm.rbox⟩)
      have HMK1 := Lib.hid (show Marks bf Ds X1 from by
        subst hX1
        exact HMK.out.kept fun k o _ ho hk => (kf_store (B := 0) _ HM.out.qb).same k o (Nat.zero_le _) hk ho)
      obtain ⟨bN, hbN⟩ : ∃ b, b = X.heap.size := ⟨_, rfl⟩
      have hg2 : g2 < bN := by rw [hbN, ← z1]; obtain ⟨_, cs, t, fr, hc⟩ := HM1.out.qo.own (k := g2) rfl; exact at_lt hc
      have hbxN : bf + 1 + 1 < bN ∧ g < bN := by rw [hbN]; exact ⟨hbx, by have := HM.out.row.lt (by rw [HDS.out.len]; omega); exact this⟩
      rw [← hbN] at z1 ⊢
      clear hX1 hbN x0 x1 x2 hqf hqc hbx
      go_at_call 117
      refine (c_leaving _ _ _ _ _).mono ?_
      rintro e w2 ⟨rfl, hw2⟩
      simp only [World.size_alloc, z1] at hw2 ⊢
      have hz2 : w2.heap.size = bN + 3 := by subst hw2; simp [z1]
      have hoc : ∀ (k : Nat) (o : Obj), X1.heap[k]? = some o → w2.heap[k]? = some o := fun k o h => by subst hw2; exact old_heap _ (old_heap _ (old_heap _ h))
      have hBX : Below X1.heap.size X1 w2 := by subst hw2; exact ((((Below.refl _ _).alloc (Nat.le_refl _) _).alloc (by simp) _).alloc (by simp; omega) _)
      have HN2 := Lib.hid (show Boxed w2 bN 3 (.int .i64 (p : Int)) by subst hw2; exact old_heap _ (old_heap _ (row_new _ _ _ z1.symm)))
      have HR2 := Lib.hid (show w2.heap[bN + 1]? = some (.cells #[.slice A1 n1 c1, .slice A2 n2 c2, .slice (some ⟨r.bM, r.oM, none⟩) N r.cM] 95 (0, 0)) by subst hw2; exact old_heap _ (row_new _ _ _ (by simp [z1])))
      have HP2 := Lib.hid (show Boxed w2 (bN + 1 + 1) 3 (.int .i64 (p : Int)) by subst hw2; exact row_new _ _ _ (by simp [z1]))
      have HDP := Lib.hid HDS.out.pop
      have hpN := HDP.out.at_
      obtain ⟨K', hKd⟩ : ∃ K' : Nat → Prop, K' = fun k => (W.heap.size < k ∧ k ≠ g ∧ k ≠ bf ∧ k ≠ bf + 1 + 1) ∧ (k = g2 ∨ bN + 5 ≤ k) := ⟨_, rfl⟩
      obtain ⟨Gd, hGd⟩ : ∃ G : Nat → Prop, G = fun k => k < bN + 3 ∧ k ≠ g ∧ k ≠ bf + 1 + 1 ∧ k ≠ g2 := ⟨_, rfl⟩
      have HI0 := Lib.hid (show DiI W #[.slice A1 n1 c1, .slice A2 n2 c2, .slice (some ⟨r.bM, r.oM, none⟩) N r.cM] g bf (bf + 1 + 1) N K' l s p bN bf D Ds Gd w2 [] Q F (.slice (some ⟨g2, o2, none⟩) Q.length cc2) w2 from
        ⟨HDP.out, by have := HDS.out.lev p; simpa using this, (fun m hm => by cases hm), (HM1.out.toK (K' := K') (fun k hk => by
          have h1 := (HM1.out.qo.own hk).1
          obtain rfl : g2 = k := by simpa [Value.ownBlock] using hk
          rw [hKd]; exact ⟨h1, .inl rfl⟩)).moved (fun k cs t fr h => hoc k _ h) (below_join HM1.out.bel hBX HM1.out.bel.size), HN2.out, KpG.refl _, HMK1.out.kept fun k o _ _ h => hoc k o h⟩)
      have hDs : ∀ d ∈ Ds, d < bN := fun d hd => by have := at_lt (HMK1.out.at_ d hd).2; omega
      have HDSL := Lib.hid hDs
      obtain ⟨Am, cm, hhd, -, -⟩ := (HFX.out W (KpG.refl W)).moves p hpN.2
      have hWG : ∀ Y, KpG Gd w2 Y → KpG (fun k => k < W.heap.size) W Y := fun Y hY => ⟨Nat.le_trans HI0.out.mem.bel.size hY.size, fun k cs t fr hk hc => hY.same k cs t fr (by rw [hGd]; exact ⟨by omega, by omega, by omega, by have := (HM1.out.qo.own (k := g2) rfl).1; omega⟩) ((HI0.out.mem.bel.block k hk).trans hc)⟩
      have HMV := Lib.hid (fun (Y : World) (hY : KpG Gd w2 Y) => show Y.cell? ⟨r.bM, r.oM + p, none⟩ = some (.slice Am (mvs l p).length cm) ∧ IntSl Y (.slice Am (mvs l p).length cm) (nats (mvs l p)) from by
        obtain ⟨A, c, e, q1, q2⟩ := (HFX.out Y (hWG Y hY)).moves p hpN.2
        rw [hhd] at e
        injection e with e1 e2 e3
        subst e1 e3
        rw [hhd] at q1 q2
        exact ⟨q1, q2⟩)
      have HWG := Lib.hid hWG
      have HSM' := HSH.out.sm
      have hg2b := (HM1.out.qo.own (k := g2) rfl).1
      have HSQ := Lib.hid (c_leaving1 7 (by omega) Gd (bN + 1) (bN + 1 + 1) r.bR r.oR (2 * l.length) r.cR r.bM r.oM N r.cM (.slice A1 n1 c1) p Am cm (mvs l p) (.slice A2 n2 c2)
        (by have : (mvs l p).length ≤ (List.range (2 * l.length)).length := List.length_filter_le _ _; rw [List.length_range] at this; omega) ⟨hpN.2, HSM'.1, HSM'.2⟩ (fun t ht => mvFrom_lt (mem_mvs.1 ht)) (fun h0 => by
          obtain ⟨m, hm⟩ := List.exists_mem_of_length_pos h0
          have := mvFrom_lt (mem_mvs.1 hm)
          obtain ⟨g1, g2, g3⟩ := HSH.out.sr (by omega)
          exact ⟨HR.out.symm.trans g1, g2, g3⟩) w2 (by rw [hGd]; exact ⟨by omega, by omega, by omega, by omega⟩) (by rw [hGd]; exact ⟨by omega, by omega, by omega, by omega⟩) HR2.out HP2.out HMV.out)
      have HKD := Lib.hid hKd
      have HGD := Lib.hid hGd
      clear HMV HSM' hhd hw2 hoc hBX hWG hDs hKd hGd
      go_wp2_with (fail)
      refine (wpIn_wide (n := 8)).1 ?_
      refine wpIn_it (n := 8) (by omega) (gf := 128) (lb := #[.pointer (some ⟨bN + 1, 0, none⟩), .pointer (some ⟨bN + 1 + 1, 0, none⟩)]) rfl (enters_of Tryz.func128 (by kernel_rfl) rfl) (m := 0) (Gd := Gd) (ok := okN) (op := opR r.bR r.oR) (cl := clR r.bR r.oR) (ts := mvs l p) (w0 := w2) HSQ.out (KpG.refl _) (fun v t h => by rw [h]; rfl)
        (fun pre Y => ∃ Q F v, DiI W #[.slice A1 n1 c1, .slice A2 n2 c2, .slice (some ⟨r.bM, r.oM, none⟩) N r.cM] g bf (bf + 1 + 1) N K' l s p bN bf D Ds Gd w2 pre Q F v Y) (fun _ _ _ => False)
        (fun pre X Y h hE => by obtain ⟨Q, F, v, h⟩ := h; exact ⟨Q, F, v, h.own hE (by omega) (fun d hd => by have := HDSL.out d hd; omega)⟩) (fun _ _ _ _ h _ => h.elim)
        (fun pre X b o o' h hl hb hc => by obtain ⟨Q, F, v, h⟩ := h; exact ⟨Q, F, v, h.put (by omega) hb hc (fun d hd => by have := HDSL.out d hd; omega)⟩) (fun _ _ _ _ _ _ h _ _ _ => h.elim)
        (fun t X Y h hb => h.below hb) (fun t X b o o' h hb hc => h.put hb hc)
        (fun pre m X h hp => by
          obtain ⟨Q, F, v, h⟩ := h
          exact op_room HRR.out h.mem.bel (mvFrom_lt (mem_mvs.1 (hp.subset (by simp)))))
        (fun pre m X h hp hc => by
          obtain ⟨Q, F, v, h⟩ := h
          exact ⟨Q, F, v, h.skip HRR.out (mvFrom_lt (mem_mvs.1 (hp.subset (by simp)))) hc⟩)
        ⟨Q, F, _, HI0.out⟩ ?iround ?done (fun _ _ _ _ _ _ h _ => h.elim)
      case iround =>
        intro lp pre v0 m X0 K0 hpre hok hK0
        obtain rfl : v0 = #[.int .i64 (m : Int)] := hok
        gi_wp2_with (fail)
        refine hK0 _ _ (Below.refl _ _) ?_
        rintro Y ⟨o, o', ho, hoc, hYe⟩ hsz ⟨Q, F, v, hI⟩ hop
        clear hYe ho hoc o o' hK0
        have hmf := mem_mvs.1 (hpre.subset (show m ∈ pre ++ [m] by simp))
        have hml := mvFrom_lt hmf
        obtain ⟨q, hq⟩ := mvTo_some hml
        have hqN : q < N := by
          obtain ⟨a, ha, e⟩ := mvTo_mem hq
          have := HND.out a ha
          rcases e with e | e <;> omega
        have hFX := HFX.out Y (HWG.out Y hI.kp)
        obtain ⟨hE1, hE2, hE3⟩ := HSH.out.se (by omega)
        rw [HE.out] at hE1
        injection hE1 with hA1 hn1 hc1
        have hmn1 : (m : Int) < (n1 : Int) := by omega
        have HN1 := Lib.hid (And.intro hn1 hc1)
        subst hA1
        have y0 : Y.cell? ⟨W.heap.size, 0, none⟩ = some (.slice (some ⟨r.bE, r.oE, none⟩) n1 c1) := cell_of hI.mem.rbox rfl
        have yE := hFX.ends m q hq
        have yf := hI.mem.far.cell
        have yn := hI.node.cell
        have hFl := hI.ds.len
        obtain ⟨yq, fq⟩ := hI.mem.row q _ (ff_at (by omega))
        have yp := (hI.mem.row p _ (ff_at (by omega))).1
        rw [Nat.zero_add] at yq fq yp
        have hqN' : (q : Int) < (N : Int) := by omega
        have hpN' : (p : Int) < (N : Int) := by omega
        have hlp := hI.lp
        have hlp0 := hI.ds.at_.1
        have hDb := hI.ds.below
        have hDb' : D.length ≤ 64 := by simp at hDb; omega
        obtain ⟨x, hx0, hxc⟩ := hop
        have hx1 := room_at HRR.out hI.mem.bel hml
        rw [hx1] at hxc
        have hroom : 0 < mvRoom l m := by injection hxc with h; injection h with _ h; omega
        have HRM := Lib.hid hroom
        have HI := Lib.hid hI
        have HMF := Lib.hid hmf
        have HQ := Lib.hid hq
        clear hE2 hE3 hn1 hc1 hFX hI hmf hq hDb hxc hx1 hroom hpre hx0 x
        have hfm : Tryz.prog.follows Departure.mixedOrders = true := by kernel_rfl
        by_cases hf : ff F q = -1
        · have hf' : (ff F q == -1) = true := by rw [beq_iff_eq]; exact hf
          have hpq : p ≠ q := fun e => by subst e; omega
          have hw1 : IntKind.i64.wrap (ff F p + 1) = ff F p + 1 := IntWalk.i64_in _ (by omega)
          have HFQ := Lib.hid hf
          have HW1 := Lib.hid hw1
          clear hf hw1
          gi_wp2_with (fail)
          refine region_round (S := fun X => X.cell? ⟨bf, 0, none⟩ = some (.slice (some ⟨g, 0, none⟩) N N) ∧ X.cell? ⟨bN, 0, none⟩ = some (.int .i64 (p : Int)) ∧ X.cell? ⟨g, p, none⟩ = some (.int .i64 (ff F p))) hfm (by kernel_rfl) ⟨yf, yn, yp⟩ (fun hHeld => ?_)
          refine takeH 0 (some 42) rfl rfl (by kernel_rfl) (by kernel_rfl) (by kernel_rfl) (fun _ _ _ h => h) (by rfl) (by intro w ⟨g1, g2, g3⟩; go_simp; try with_reducible rfl) hHeld ?_
          simp only [Act.put, List.setIfInBounds_toArray, List.set_cons_zero, List.set_cons_succ]
          refine takeH 1 (some 43) rfl rfl (by kernel_rfl) (by kernel_rfl) (by kernel_rfl) (fun _ _ _ h => h) (by rfl) (by intro w ⟨g1, g2, g3⟩; go_simp; try with_reducible rfl) hHeld ?_
          simp only [Act.put, List.setIfInBounds_toArray, List.set_cons_zero, List.set_cons_succ]
          refine takeH 2 (some 44) rfl rfl (by kernel_rfl) (by kernel_rfl) (by kernel_rfl) (fun _ _ _ h => h) (by rfl) (by intro w ⟨g1, g2, g3⟩; go_simp; try with_reducible rfl) hHeld ?_
          simp only [Act.put, List.setIfInBounds_toArray, List.set_cons_zero, List.set_cons_succ]
          refine takeH 3 (some 45) rfl rfl (by kernel_rfl) (by kernel_rfl) (by kernel_rfl) (fun _ _ _ h => h) (by rfl) (by intro w ⟨g1, g2, g3⟩; go_simp; try with_reducible rfl) hHeld ?_
          simp only [Act.put, List.setIfInBounds_toArray, List.set_cons_zero, List.set_cons_succ]
          refine takeH 4 (some 46) rfl rfl (by kernel_rfl) (by kernel_rfl) (by kernel_rfl) (fun _ _ _ h => h) (by rfl) (by intro w ⟨g1, g2, g3⟩; go_simp; try with_reducible rfl) hHeld ?_
          simp only [Act.put, List.setIfInBounds_toArray, List.set_cons_zero, List.set_cons_succ]
          refine takeH 5 (some 47) rfl rfl (by kernel_rfl) (by kernel_rfl) (by kernel_rfl) (fun _ _ _ h => h) (by rfl) (by intro w ⟨g1, g2, g3⟩; go_simp; try with_reducible rfl) hHeld ?_
          simp only [Act.put, List.setIfInBounds_toArray, List.set_cons_zero, List.set_cons_succ]
          refine takeH 6 (some 48) rfl rfl (by kernel_rfl) (by kernel_rfl) (by kernel_rfl) (fun _ _ _ h => h) (by rfl) (by intro w ⟨g1, g2, g3⟩; go_simp; try with_reducible rfl) hHeld ?_
          simp only [Act.put, List.setIfInBounds_toArray, List.set_cons_zero, List.set_cons_succ]
          refine takeH 7 (some 49) rfl rfl (by kernel_rfl) (by kernel_rfl) (by kernel_rfl) (fun _ _ _ h => h) (by rfl) (by intro w ⟨g1, g2, g3⟩; go_simp; try with_reducible rfl) hHeld ?_
          simp only [Act.put, List.setIfInBounds_toArray, List.set_cons_zero, List.set_cons_succ]
          rw [HW1.out]
          have yq' : Y.drew.cell? ⟨g, q, none⟩ = some (.int .i64 (ff F q)) := yq
          have fq' : Y.drew.frozen? ⟨g, q, none⟩ = false := fq
          refine wpAnyH_ready (rs := [8]) (by kernel_rfl) (by simp) (AllReadyH.cons rfl (fun K hK => ?_) AllReadyH.nil)
          go_simp
          have n1' : ∀ b o, b ≠ g → (Y.setCell ⟨g, q, none⟩ (.int .i64 (ff F p + 1))).drew.cell? ⟨b, o, none⟩ = Y.cell? ⟨b, o, none⟩ := fun b o hb => World.cell?_of_block (w := Y) (a := ⟨b, o, none⟩) (Below.heap_setCell Y ⟨g, q, none⟩ _ b hb)
          have n2' : (Y.setCell ⟨g, q, none⟩ (.int .i64 (ff F p + 1))).drew.cell? ⟨g, p, none⟩ = some (.int .i64 (ff F p)) := (World.cell?_setCell_other _ _ _ _ (fun e => hpq (congrArg (fun a : Addr => a.off) e).symm)).trans yp
          refine hK.out _ _ ⟨(n1' bf 0 (by omega)).trans yf, (n1' bN 0 (by omega)).trans yn, n2'⟩ (fun hHeld => ?_)
          clear hK K n2'
          refine wpAnyH_done (by kernel_rfl) ?_ _
          rw [noOut_normal]
          clear hHeld yq' fq'
          obtain ⟨gq, oq, cq, hv, hKq, hqbl, hcq1, hcq2, -⟩ := id HI.out.mem.qo
          rw [nats_len] at hv hcq1
          subst hv
          have z0 := (n1' (bf + 1 + 1) 0 (by omega)).trans HI.out.mem.qb.cell
          clear n1' y0 yE yf yn yq fq yp
          obtain ⟨Z1, hZ1⟩ : ∃ Z, Z = (Y.setCell ⟨g, q, none⟩ (.int .i64 (ff F p + 1))).drew := ⟨_, rfl⟩
          rw [← hZ1] at z0 ⊢
          rw [HKD.out] at hKq
          have HQZ := Lib.hid (show QOwn (Z1.alloc (.cells #[.int .i64 (q : Int)] 3)) (.slice (some ⟨gq, oq, none⟩) Q.length cq) (nats Q) K' from HI.out.mem.qo.kept (fun k cs t fr hk hc => by
            rw [HKD.out] at hk
            refine old_heap _ ?_
            rw [hZ1]
            exact (Below.heap_setCell Y ⟨g, q, none⟩ _ k hk.1.2.1).trans hc) (fun k hk _ => hk))
          have HZ1 := Lib.hid hZ1
          unfold maxLen at hcq2
          have hQl : Q.length ≤ 64 := by have := HI.out.ds.below; simp at this; omega
          clear hZ1 hqbl
          gi_wp2_with (gi_at_builtin; refine wpListIn_append_q rfl _ _ rfl HQZ.out rfl Z1.heap.size (q : Int) rfl (one_cell (heap_alloc_new _ _)) (by rw [nats_len]; omega) ?_)
          intro v3 Z3 hq3 ho3
          rw [HZ1.out] at hq3 ho3
          obtain ⟨hd1, hd2, hd3, hd4⟩ := di_step HI.out HMF.out HQ.out HRM.out HFQ.out hqN (fun k hk => by rw [HKD.out] at hk; obtain ⟨h1, h2⟩ := hk; exact ⟨h1.2.1, h1.2.2.1, h1.2.2.2, h1.1, by omega⟩)
            (fun k hk => by rw [HGD.out] at hk; exact ⟨hk.2.1, hk.2.2.1, (fun hk' => by rw [HKD.out] at hk'; omega), by omega⟩) (fun k hk => by rw [HKD.out]; exact ⟨⟨by omega, by omega, by omega, by omega⟩, .inr (by omega)⟩) (by omega) (by omega) (hq3.kept (fun k cs t fr _ h => h) (fun k hk _ => by rcases hk with h | h; exact .inl h; exact .inr (by rw [World.size_alloc]; exact h))) ho3
          obtain ⟨g3, o3, c3, hv3, -⟩ := id hq3
          rw [List.length_append, nats_len] at hv3
          subst hv3
          have z3 := hd4.cell
          have f3 := hd4.frozen
          have HD1 := Lib.hid hd1
          have HD2 := Lib.hid hd2
          have HD3 := Lib.hid hd3
          clear hd1 hd2 hd3 hd4 hq3 ho3 z0
          gi_wp2_with (fail)
          exact ⟨HD2.out _, HD3.out, _, _, _, HD1.out⟩
        · have hf' : (ff F q == -1) = false := by rw [beq_eq_false_iff_ne]; exact hf
          have HD := Lib.hid (HI.out.old HQ.out hf)
          clear yp fq
          gi_wp2_with (fail)
          exact ⟨⟨Nat.le_refl _, fun _ _ _ h _ => h⟩, ⟨Nat.le_refl _, fun _ _ _ _ _ h => h, fun _ _ _ h _ => h⟩, _, _, _, HD.out⟩
      case done =>
        rintro D0 Y rfl ⟨Q', F', v', hI⟩ hdef
        have hfin := hI.ds.finish (fun m q h1 h2 h3 => hI.seen m (mem_mvs.2 h1) q h2 h3)
        have hmk' : Marks bf (w2.heap.size :: Ds) Y := hI.mks.cons (by omega) hdef (fun hd => by have := HDSL.out _ hd; omega)
        have hbel := HDP.out.below
        have hgk := HGK.out
        refine HHK.out _ _ (Handed.intro (N - (D.length + 1)) (by simp at hbel; omega) (HHJ.out _ _ _ ?_))
        refine ⟨w2.heap.size :: Ds, D ++ [p], Q', F', v', _, _, _, _, _, _, _, _, _, _, _, _, _, _, _, _, _, _, _, _, _, _, _, _, _, _, _, _, _, _, _, _, _, _, _, _, _, _, rfl, hmk', by simp, hfin, ?_⟩
        exact hI.mem.toK (fun k hk => by have := (hI.mem.qo.own hk).1; rw [HKD.out] at this; exact this.1)
end Go.Proofs.YtidpiokkfnhobaaGreat.v5
