/-
  DERIVED. What a flow leaves, in memory (stage 5).
-/
import Derived.Test.YtglpaihadongkaaBC
import Derived.IntWalk
namespace Go.Proofs.Ytglpaihadongkaa
open Go.RowKit Go.Shelf
set_option maxRecDepth 100000

set_option maxHeartbeats 4000000 in
theorem xor_flip : ∀ m : Nat, m < 256 → bits .xor .i64 (m : Int) 1 = (flip m : Int) := by decide +kernel
/-- Numbers in cells that may be written. -/
def Row (X : World) (b o : Nat) (L : List Int) : Prop := ∀ k x, L[k]? = some x → X.cell? ⟨b, o + k, none⟩ = some (.int .i64 x) ∧ X.frozen? ⟨b, o + k, none⟩ = false
section
variable {X Y : World} {b o : Nat} {L : List Int}
theorem frozen_of_block {X Y : World} {b o : Nat} (h : Y.heap[b]? = X.heap[b]?) : Y.frozen? ⟨b, o, none⟩ = X.frozen? ⟨b, o, none⟩ := World.frozen?_of_block h
theorem Row.kept (h : Row X b o L) (hk : ∀ cs t fr, X.heap[b]? = some (.cells cs t fr) → Y.heap[b]? = some (.cells cs t fr)) : Row Y b o L := fun k x hx => by
  obtain ⟨h1, h2⟩ := h k x hx
  obtain ⟨cs, t, fr, hb⟩ := cell_block h1
  have e : Y.heap[b]? = X.heap[b]? := (hk _ _ _ hb).trans hb.symm
  exact ⟨(World.cell?_of_block (a := ⟨b, o + k, none⟩) e).trans h1, (frozen_of_block e).trans h2⟩
theorem Row.other {b' i : Nat} (h : Row X b o L) (hne : b ≠ b') (v : Value) : Row (X.setCell ⟨b', i, none⟩ v) b o L :=
  h.kept fun cs t fr hb => by rw [Below.heap_setCell X ⟨b', i, none⟩ v b hne]; exact hb
theorem cell_set_same {X : World} {b i : Nat} {u v : Value} (h : X.cell? ⟨b, i, none⟩ = some u) : (X.setCell ⟨b, i, none⟩ v).cell? ⟨b, i, none⟩ = some v := by
  go_simp
theorem Row.set {j : Nat} (h : Row X b o L) (hj : j < L.length) (x : Int) : Row (X.setCell ⟨b, o + j, none⟩ (.int .i64 x)) b o (L.set j x) := fun k y hy => by
  rw [List.getElem?_set] at hy
  have h0 := h j _ (List.getElem?_eq_getElem hj)
  by_cases e : j = k
  · subst e
    rw [if_pos rfl, if_pos hj] at hy
    injection hy with hy
    subst hy
    obtain ⟨h1, h2⟩ := h0
    refine ⟨?_, ?_⟩ <;> go_simp
  · rw [if_neg e] at hy
    obtain ⟨h1, h2⟩ := h k y hy
    obtain ⟨h3, h4⟩ := h0
    have hne : ¬ (o + k = o + j) := by omega
    have hne2 : ¬ (k = j) := by omega
    refine ⟨?_, ?_⟩ <;> go_simp
theorem Row.lt (h : Row X b o L) (h0 : 0 < L.length) : b < X.heap.size := by
  obtain ⟨h1, -⟩ := h 0 _ (List.getElem?_eq_getElem h0)
  obtain ⟨cs, t, fr, hb⟩ := cell_block h1
  exact at_lt hb
end
theorem boxed_far {X : World} {B b i : Nat} {T : TypeId} {v : Value} (h : Boxed X B T v) (hne : B ≠ b) (u : Value) : Boxed (X.setCell ⟨b, i, none⟩ u) B T v := (Below.heap_setCell X ⟨b, i, none⟩ u B hne).trans h
theorem three_stores {X : World} {b o bL m : Nat} {l : List Ar} {T : TypeId} {d x y left : Int} (h : Row X b o (rooms l)) (hm : m < 2 * l.length) (hx : mvRoom l m = x) (hy : mvRoom l (flip m) = y) (hL : Boxed X bL T (.int .i64 left)) (hne : bL ≠ b) :
    (X.setCell ⟨b, o + m, none⟩ (.int .i64 (x - d))).cell? ⟨b, o + flip m, none⟩ = some (.int .i64 y) ∧ (X.setCell ⟨b, o + m, none⟩ (.int .i64 (x - d))).frozen? ⟨b, o + flip m, none⟩ = false ∧
    ((X.setCell ⟨b, o + m, none⟩ (.int .i64 (x - d))).setCell ⟨b, o + flip m, none⟩ (.int .i64 (y + d))).cell? ⟨bL, 0, none⟩ = some (.int .i64 left) ∧ ((X.setCell ⟨b, o + m, none⟩ (.int .i64 (x - d))).setCell ⟨b, o + flip m, none⟩ (.int .i64 (y + d))).frozen? ⟨bL, 0, none⟩ = false ∧
    Row (((X.setCell ⟨b, o + m, none⟩ (.int .i64 (x - d))).setCell ⟨b, o + flip m, none⟩ (.int .i64 (y + d))).setCell ⟨bL, 0, none⟩ (.int .i64 (left - d))) b o (rooms (mvSend l m d)) ∧
    Boxed (((X.setCell ⟨b, o + m, none⟩ (.int .i64 (x - d))).setCell ⟨b, o + flip m, none⟩ (.int .i64 (y + d))).setCell ⟨bL, 0, none⟩ (.int .i64 (left - d))) bL T (.int .i64 (left - d)) := by
  have hf := flip_half m
  have h1 := h.set (show m < (rooms l).length by rw [rooms_len]; omega) (x - d)
  have h2 := h1 (flip m) y (by rw [List.getElem?_set_ne (fun e => hf.2.1 e.symm), rooms_get (by omega), hy])
  have h3 := h1.set (j := flip m) (by rw [List.length_set, rooms_len]; omega) (y + d)
  have hB := boxed_far (i := o + flip m) (boxed_far (i := o + m) hL hne (.int .i64 (x - d))) hne (.int .i64 (y + d))
  refine ⟨h2.1, h2.2, hB.cell, hB.frozen, ?_, hB.set _⟩
  have h4 := h3.other (i := 0) (fun e => hne e.symm) (.int .i64 (left - d))
  rw [rooms_send hm, hx, hy]
  exact h4
theorem alloc_cell {W : World} {a : Addr} {v : Value} (h : W.cell? a = some v) (o : Obj) : (W.alloc o).cell? a = some v := (World.cell?_alloc_some W a o (by rw [h]; rfl)).trans h
theorem alloc_cell2 {W : World} {a : Addr} {v : Value} (h : W.cell? a = some v) (o o' : Obj) : ((W.alloc o).alloc o').cell? a = some v := alloc_cell (alloc_cell h o) o'
/-- All blocks but some stand. -/
structure Out (S : Nat → Prop) (X Y : World) : Prop where
  os : Y.os = X.os
  tape : Y.tape = X.tape
  output : Y.output = X.output
  size : X.heap.size ≤ Y.heap.size
  same : ∀ (k : Nat) (o : Obj), ¬ S k → X.heap[k]? = some o → Y.heap[k]? = some o
section
variable {S : Nat → Prop} {X Y Z : World}
theorem Out.refl (X : World) : Out S X X := ⟨rfl, rfl, rfl, Nat.le_refl _, fun _ _ _ h => h⟩
theorem Out.trans (h : Out S X Y) (k : Out S Y Z) : Out S X Z := ⟨k.os.trans h.os, k.tape.trans h.tape, k.output.trans h.output, Nat.le_trans h.size k.size, fun i o ho hi => k.same i o ho (h.same i o ho hi)⟩
theorem Out.of_below {B : Nat} (h : Below B X Y) (hB : X.heap.size ≤ B) : Out S X Y := ⟨h.os, h.tape, h.output, h.size, fun k _ _ hk => (h.block k (Nat.lt_of_lt_of_le (at_lt hk) hB)).trans hk⟩
theorem Out.drew : Out S X X.drew := ⟨rfl, rfl, rfl, Nat.le_refl _, fun _ _ _ h => h⟩
theorem Out.store {b i : Nat} (hb : S b) (v : Value) : Out S X (X.setCell ⟨b, i, none⟩ v) :=
  ⟨rfl, rfl, rfl, by simp [World.setCell], fun k u hne hk => by rw [Below.heap_setCell _ ⟨b, i, none⟩ v k (fun e => hne (by subst e; exact hb))]; exact hk⟩
/-- A store into a block that was not there at the start. -/
theorem Out.store_new {b i : Nat} (h : Out S X Y) (hb : X.heap.size ≤ b) (v : Value) : Out S X (Y.setCell ⟨b, i, none⟩ v) :=
  ⟨h.os, h.tape, h.output, by simpa [World.setCell] using h.size, fun k u hne hk => by
    rw [Below.heap_setCell _ ⟨b, i, none⟩ v k (by have := at_lt hk; show k ≠ b; omega)]; exact h.same k u hne hk⟩
theorem Out.own {T m : Nat} (h : Out S X Y) (hE : OwnIt T m Y Z) (hT : X.heap.size ≤ T) : Out S X Z :=
  ⟨hE.os.trans h.os, hE.tape.trans h.tape, hE.output.trans h.output, Nat.le_trans h.size hE.size, fun k o hk ho => hE.same k o (h.same k o hk ho) (.inl (Nat.lt_of_lt_of_le (at_lt ho) hT))⟩
theorem Out.put {l : Nat} {o' : Obj} (h : Out S X Y) (hl : X.heap.size ≤ l) : Out S X (Y.putObj l o') :=
  ⟨h.os, h.tape, h.output, by simpa using h.size, fun k o hk ho => put_else (h.same k o hk ho) (by have := at_lt ho; omega)⟩
theorem Out.kp {Gd : Nat → Prop} (h : Out S X Y) (hg : ∀ k, Gd k → ¬ S k) : KpG Gd X Y := ⟨h.size, fun k _ _ _ g hk => h.same k _ (hg k g) hk⟩
theorem Out.out {T : Nat → Prop} (h : Out S X Y) (hs : ∀ k, S k → T k) : Out T X Y := ⟨h.os, h.tape, h.output, h.size, fun k o hk ho => h.same k o (fun hh => hk (hs k hh)) ho⟩
/-- Behind blocks that are new: what was there at the start. -/
theorem Out.join {W : World} (h : Out S W X) (k : Out (fun i => S i ∨ W.heap.size ≤ i) X Y) : Out S W Y :=
  ⟨k.os.trans h.os, k.tape.trans h.tape, k.output.trans h.output, Nat.le_trans h.size k.size, fun i o hi ho => k.same i o (fun hh => by rcases hh with hh | hh; exact hi hh; have := at_lt ho; omega) (h.same i o hi ho)⟩
theorem Out.below {w : World} (h : Out S X Y) (k : Below w.heap.size w X) (hs : ∀ i, i < w.heap.size → ¬ S i) : Below w.heap.size w Y := by
  refine ⟨h.os.trans k.os, h.tape.trans k.tape, h.output.trans k.output, Nat.le_trans k.size h.size, fun i hi => ?_⟩
  have hlt : i < X.heap.size := Nat.lt_of_lt_of_le hi k.size
  have h3 := Array.getElem?_eq_getElem hlt
  rw [h.same i _ (hs i hi) h3, ← h3]
  exact k.block i hi
end
/-- Where the rest of a net lies. -/
structure Rs where
  E : Value
  R : Value
  bE : Nat
  oE : Nat
  cE : Nat
  bR : Nat
  oR : Nat
  cR : Nat
  bM : Nat
  oM : Nat
  cM : Nat
  hd : Nat → Value
def Rs.M (r : Rs) (N : Nat) : Value := .slice (some ⟨r.bM, r.oM, none⟩) N r.cM
def Rs.val (r : Rs) (N : Nat) : Value := .agg #[r.E, r.R, r.M N]
structure RShape (r : Rs) (N : Nat) (l : List Ar) : Prop where
  se : 0 < l.length → r.E = .slice (some ⟨r.bE, r.oE, none⟩) (2 * l.length) r.cE ∧ 2 * l.length ≤ r.cE ∧ r.cE ≤ maxLen
  sr : 0 < l.length → r.R = .slice (some ⟨r.bR, r.oR, none⟩) (2 * l.length) r.cR ∧ 2 * l.length ≤ r.cR ∧ r.cR ≤ maxLen
  sm : N ≤ r.cM ∧ r.cM ≤ maxLen
  /-- E and R are slices, whatever they are. -/
  es : ∃ A n c, r.E = .slice A n c
  rs : ∃ A n c, r.R = .slice A n c
structure RFix (X : World) (r : Rs) (N : Nat) (l : List Ar) : Prop where
  ends : ∀ k q, mvTo l k = some q → X.cell? ⟨r.bE, r.oE + k, none⟩ = some (.int .i64 (q : Int))
  moves : ∀ n, n < N → ∃ A c, r.hd n = .slice A (mvs l n).length c ∧ X.cell? ⟨r.bM, r.oM + n, none⟩ = some (r.hd n) ∧ IntSl X (r.hd n) (nats (mvs l n))
theorem rFix_same {X : World} {r : Rs} {N : Nat} {l l' : List Ar} (h : RFix X r N l) (e : ends l' = ends l) : RFix X r N l' :=
  ⟨fun k q hq => h.ends k q (by rw [← mvTo_ends e]; exact hq), fun n hn => by rw [mvs_ends e]; exact h.moves n hn⟩
theorem rShape_same {r : Rs} {N : Nat} {l l' : List Ar} (h : RShape r N l) (e : ends l' = ends l) : RShape r N l' :=
  ⟨fun h0 => by rw [ends_len e] at h0 ⊢; exact h.se h0, fun h0 => by rw [ends_len e] at h0 ⊢; exact h.sr h0, h.sm, h.es, h.rs⟩
/-- What send's closure holds on to. -/
structure Sd where
  bt : Nat
  br : Nat
  bf : Nat
  bo : Nat
  bF : Nat
  oF : Nat
  cF : Nat
def Sd.lb (s : Sd) : Array Value := #[.pointer (some ⟨s.bt, 0, none⟩), .pointer (some ⟨s.br, 0, none⟩), .pointer (some ⟨s.bf, 0, none⟩), .pointer (some ⟨s.bo, 0, none⟩)]
structure SFx (X : World) (s : Sd) (r : Rs) (N t : Nat) (l : List Ar) : Prop where
  bt : Boxed X s.bt 3 (.int .i64 (t : Int))
  br : X.heap[s.br]? = some (.cells #[r.E, r.R, r.M N] 64 (0, 0))
  bf : Boxed X s.bf 25 (.slice (some ⟨s.bF, s.oF, none⟩) N s.cF)
  bo : Boxed X s.bo 79 (.func (.func 47) #[] s.lb)
  fix : RFix X r N l
def GS (r : Rs) (s : Sd) (k : Nat) : Prop := k ≠ r.bR ∧ k ≠ s.bF
def SFxA (W : World) (s : Sd) (r : Rs) (N t : Nat) (l : List Ar) : Prop := ∀ Y, KpG (GS r s) W Y → SFx Y s r N t l
theorem SFxA.on {W Y : World} {s : Sd} {r : Rs} {N t : Nat} {l : List Ar} (h : SFxA W s r N t l) (k : KpG (GS r s) W Y) : SFxA Y s r N t l := fun Z hZ => h Z (k.trans hZ)
theorem sFxA_same {W : World} {s : Sd} {r : Rs} {N t : Nat} {l l' : List Ar} (h : SFxA W s r N t l) (e : ends l' = ends l) : SFxA W s r N t l' := fun Z hZ =>
  ⟨(h Z hZ).bt, (h Z hZ).br, (h Z hZ).bf, (h Z hZ).bo, rFix_same (h Z hZ).fix e⟩
end Go.Proofs.Ytglpaihadongkaa
