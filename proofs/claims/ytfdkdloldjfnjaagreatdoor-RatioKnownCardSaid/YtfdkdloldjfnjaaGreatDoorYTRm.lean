/-
  DERIVED. Several texts in one.
-/
import Derived.Test.YtfdkdloldjfnjaaGreatDoorTO
import Derived.Test.YtfdkdloldjfnjaaGreatDoorYRAm
set_option linter.unusedVariables false
set_option linter.unusedSimpArgs false

/- DERIVED. What stands at fixed places; the end of a range with a break; around. -/
namespace Go.Proofs.YtfdkdloldjfnjaaGreatDoor
open Go.RowKit Go.Shelf
attribute [local go_sem] Oper.semAt_some
set_option maxRecDepth 100000

/-- Boxes that stand. -/
def Kept (L : List (Nat × Obj)) (X : World) : Prop := ∀ p ∈ L, X.heap[p.1]? = some p.2 ∧ p.2.isCells = true
section
variable {L : List (Nat × Obj)} {X Y : World}
theorem Kept.own {bl bh : Nat} (h : Kept L X) (hE : OwnStep bl bh X Y) (hL : ∀ p ∈ L, p.1 ≠ bl ∧ p.1 ≠ bh) : Kept L Y := fun p hp => ⟨hE.same _ _ (h p hp).1 (.inr (hL p hp)), (h p hp).2⟩
theorem Kept.put {l : Nat} {o o' : Obj} (h : Kept L X) (hl : X.heap[l]? = some o) (ho : o.isCells = false) : Kept L (X.putObj l o') := fun p hp =>
  ⟨put_other (h p hp).1 (fun e => by subst e; have := (h p hp).1; rw [hl] at this; cases this; have h2 := (h p hp).2; rw [ho] at h2; cases h2), (h p hp).2⟩
theorem Kept.below {B : Nat} (h : Kept L X) (hb : Below B X Y) (hB : X.heap.size ≤ B) : Kept L Y := fun p hp => ⟨(hb.block _ (Nat.lt_of_lt_of_le (Array.getElem?_eq_some_iff.1 (h p hp).1).1 hB)).trans (h p hp).1, (h p hp).2⟩
theorem Kept.store {g : Nat} (h : Kept L X) (hL : ∀ p ∈ L, p.1 ≠ g) (x y z : Value) : Kept L (((X.setCell ⟨g, 0, none⟩ x).setCell ⟨g, 1, none⟩ y).setCell ⟨g, 2, none⟩ z) := fun p hp => ⟨row_keep3 (h p hp).1 (hL p hp) x y z, (h p hp).2⟩
theorem Kept.at_ {b : Nat} {o : Obj} (h : Kept L X) (hp : (b, o) ∈ L) : X.heap[b]? = some o := (h _ hp).1
end
/-- A range over an iterator that is left by its end or by a break, in its block. -/
theorem wpIn_over_end {F : Fence} {n : Nat} {P : Program} {g : Operand} {ps : Array Tmp} {assign body : Code} {id : Nat} {K : Act → World → Prop} {Q' : Exit → Act → World → Prop} {a : Act} {w : World}
    (hro : F.round = none) (h1 : 1 ≤ n) {gf : Nat} {lb : Array Value} (hg : a.eval g = .func (.func gf) #[] lb) (hFg : F.fn gf) (eg : ∀ args w, (callFunc gf args).run P w = .ok (.enter gf args) w)
    {E Kp : World → World → Prop} {ok : Value → Nat → World → Prop} {ts : List Nat} {w0 : World} (hseq : PartsSeq F (n - 1) P gf lb E Kp ok ts w0) (hb0 : Below w0.heap.size w0 w) (hps : ps.size = 1)
    (hEk : ∀ (X Y : World) (k : Nat) (o : Obj), E X Y → X.heap[k]? = some o → o.isCells = false → Y.heap[k]? = some o)
    (hKt : ∀ {A B C : World}, Kp A B → Kp B C → Kp A C) (hKb : ∀ (W : World) (l : Nat) (o o' : Obj), W.heap[l]? = some o → o.isCells = false → Kp W (W.putObj l o'))
    (hok : ∀ (v : Value) (t : Nat) (W : World) (l : Nat) (o o' : Obj), ok v t W → W.heap[l]? = some o → o.isCells = false → ok v t (W.putObj l o'))
    (I J : List Nat → World → Prop) (hIE : ∀ pre X Y, I pre X → E X Y → I pre Y)
    (hIP : ∀ (pre : List Nat) (X : World) (l : Nat) (o o' : Obj), I pre X → w.heap.size ≤ l → X.heap[l]? = some o → o.isCells = false → I pre (X.putObj l o'))
    (hJP : ∀ (pre : List Nat) (X : World) (l : Nat) (o o' : Obj), J pre X → w.heap.size ≤ l → X.heap[l]? = some o → o.isCells = false → J pre (X.putObj l o'))
    (hIA : ∀ (X : World) (o : Obj), I [] X → I [] (X.alloc o)) (h0 : I [] w)
    (hround : ∀ (l : Nat) (pre : List Nat) (v : Value) (t : Nat) (W : World) (K : Act → World → Prop), pre ++ [t] <+: ts →
      (∀ a' : Act, (∀ X : World, w.heap.size ≤ l → I pre X → ok v t X → body.wpIn (F.inRound l) (n - 1 - 1) P (ownPostG w.heap.size Kp I (fun c pre X => c = .exit id ∧ J pre X) (pre ++ [t]) X) a' X) → K a' W) →
      assign.wpIn (F.inRound l) (n - 1 - 1) P (Exit.then K (fun _ _ _ => False)) { tmps := (ps.zip #[v]).foldl (fun t (p, v) => t.setIfInBounds p v) a.tmps, defers := [] } W)
    (hend : ∀ (D : Nat) (X : World), w.heap.size ≤ D → (I ts X ∨ ∃ pre, J pre X) → X.heap[D]? = some (.deferred (some [])) → K { a with defers := { target := .collected D, args := #[] } :: a.defers } X) :
    (Code.rangeFunc g ps assign body).wpIn F n P (Exit.inBlock id (Exit.then K Q')) a w := by
  refine wpIn_over hro h1 hg hFg eg hseq hb0 hps hEk hKt hKb hok I (fun c pre X => c = .exit id ∧ J pre X) hIE hIP (fun c pre X l o o' h hl hx ho => ⟨h.1, hJP pre X l o o' h.2 hl hx ho⟩) hIA h0 hround (fun D X hD hi hd => hend D X hD (.inl hi) hd) ?_
  rintro D c pre X hD - ⟨rfl, hJ⟩ hd
  refine wpIn_exit ?_
  show Exit.inBlock id (Exit.then K Q') (.exit id) _ X
  unfold Exit.inBlock
  simp only [if_true]
  exact hend D X hD (.inr ⟨pre, hJ⟩) hd
theorem Pair.limbs {b7 b8 bl bh : Nat} {s : Two4} {X : World} (h : Pair b7 b8 bl bh s X) : ∃ A1 c1 A2 c2 A3 c3 A4 c4, Rt X b7 false (.slice A1 (nat s.p0).length c1) (.slice A2 (nat s.q0).length c2) ∧ Rt X b8 false (.slice A3 (nat s.p1).length c3) (.slice A4 (nat s.q1).length c4) ∧
    Limbs bl bh X (.slice A1 (nat s.p0).length c1) s.p0 ∧ Limbs bl bh X (.slice A2 (nat s.q0).length c2) s.q0 ∧ Limbs bl bh X (.slice A3 (nat s.p1).length c3) s.p1 ∧ Limbs bl bh X (.slice A4 (nat s.q1).length c4) s.q1 := by
  obtain ⟨x1, x2, y1, y2, r1, r2, l1, l2, l3, l4⟩ := h
  obtain ⟨A1, c1, rfl⟩ := l1.shape
  obtain ⟨A2, c2, rfl⟩ := l2.shape
  obtain ⟨A3, c3, rfl⟩ := l3.shape
  obtain ⟨A4, c4, rfl⟩ := l4.shape
  exact ⟨A1, c1, A2, c2, A3, c3, A4, c4, r1, r2, l1, l2, l3, l4⟩
theorem rt_cells_store {X : World} {g b : Nat} {s : Bool} {v1 v2 : Value} (h : Rt X g s v1 v2) (hb : g ≠ b) (x y z : Value) :
    (((X.setCell ⟨b, 0, none⟩ x).setCell ⟨b, 1, none⟩ y).setCell ⟨b, 2, none⟩ z).cell? ⟨g, 0, none⟩ = some (.bool s) ∧ (((X.setCell ⟨b, 0, none⟩ x).setCell ⟨b, 1, none⟩ y).setCell ⟨b, 2, none⟩ z).cell? ⟨g, 1, none⟩ = some v1 ∧ (((X.setCell ⟨b, 0, none⟩ x).setCell ⟨b, 1, none⟩ y).setCell ⟨b, 2, none⟩ z).cell? ⟨g, 2, none⟩ = some v2 :=
  three_cells (row_keep3 h hb x y z)
theorem rt_store {X : World} {g b : Nat} {s : Bool} {v1 v2 : Value} (h : Rt X g s v1 v2) (hb : g ≠ b) (x y z : Value) : Rt (((X.setCell ⟨b, 0, none⟩ x).setCell ⟨b, 1, none⟩ y).setCell ⟨b, 2, none⟩ z) g s v1 v2 := row_keep3 h hb x y z
def AroundPost (p q r s : Nat) (w : World) (e : Ending) (w' : World) : Prop := ∃ u v, e = .returned (.tuple #[u, v]) ∧ Fr w' u false p q ∧ Fr w' v false r s ∧ Below w.heap.size w w'
end Go.Proofs.YtfdkdloldjfnjaaGreatDoor

/- DERIVED. around. -/
namespace Go.Proofs.YtfdkdloldjfnjaaGreatDoor
open Go.RowKit Go.Shelf
attribute [local go_sem] Oper.semAt_some
set_option maxRecDepth 100000

theorem four_new (w : World) (v1 v2 v3 : Value) (s : Bool) : Rt ((((w.alloc (.cells #[.bool s, v1, v2] 25)).alloc (.cells #[v3] 23)).alloc (.cells #[.bool false, .slice none 0 0, .slice none 0 0] 25)).alloc (.cells #[.bool false, .slice none 0 0, .slice none 0 0] 25)) w.heap.size s v1 v2 ∧
    ((((w.alloc (.cells #[.bool s, v1, v2] 25)).alloc (.cells #[v3] 23)).alloc (.cells #[.bool false, .slice none 0 0, .slice none 0 0] 25)).alloc (.cells #[.bool false, .slice none 0 0, .slice none 0 0] 25)).heap[w.heap.size + 1]? = some (.cells #[v3] 23 (0, 0)) ∧
    ResZ (w.heap.size + 2) ((((w.alloc (.cells #[.bool s, v1, v2] 25)).alloc (.cells #[v3] 23)).alloc (.cells #[.bool false, .slice none 0 0, .slice none 0 0] 25)).alloc (.cells #[.bool false, .slice none 0 0, .slice none 0 0] 25)) ∧
    ResZ (w.heap.size + 3) ((((w.alloc (.cells #[.bool s, v1, v2] 25)).alloc (.cells #[v3] 23)).alloc (.cells #[.bool false, .slice none 0 0, .slice none 0 0] 25)).alloc (.cells #[.bool false, .slice none 0 0, .slice none 0 0] 25)) := by
  refine ⟨?_, ?_, ?_, ?_⟩
  · exact (Below.heap_alloc _ _ _ (by simp; omega)).trans ((Below.heap_alloc _ _ _ (by simp; omega)).trans (two_new w s v1 v2 _))
  · exact (Below.heap_alloc _ _ _ (by simp)).trans ((Below.heap_alloc _ _ _ (by simp)).trans (row_new4 _ _ _ (by simp)))
  · exact (Below.heap_alloc _ _ _ (by simp)).trans (row_new4 _ _ _ (by simp))
  · exact row_new4 _ _ _ (by simp)

set_option maxHeartbeats 4000000 in
theorem c_around (m n M : Nat) (k1 : (nat m).length ≤ 32) (k2 : (nat n).length ≤ 32) (k3 : (nat M).length ≤ 32) (p1 : 0 < n) (hM : 1 ≤ M) (hg : Nat.gcd m n = 1) (x vm : Value) (w : World) (hx : Fr w x false m n) (hm : NatSl w (fun i => i < w.heap.size) vm (nat M)) :
    Calls Tryz.prog 86 #[x, vm] w (AroundPost (arS M m n).p1 (arS M m n).q1 ((arS M m n).p0 + arK M m n * (arS M m n).p1) ((arS M m n).q0 + arK M m n * (arS M m n).q1) w) := by
  obtain ⟨v1, v2, rfl, h1, h2⟩ := hx
  obtain ⟨A1, c1, rfl⟩ := h1.shape
  obtain ⟨A2, c2, rfl⟩ := h2.shape
  obtain ⟨Am, cm, rfl⟩ := hm.shape
  have H1 := Lib.hid h1
  have H2 := Lib.hid h2
  have HMM := Lib.hid hm
  have HFA := Lib.hid (arS_facts hM p1 hg)
  obtain ⟨W, hW⟩ : ∃ W, W = (((w.alloc (.cells #[.bool false, .slice A1 (nat m).length c1, .slice A2 (nat n).length c2] 25)).alloc (.cells #[.slice Am (nat M).length cm] 23)).alloc (.cells #[.bool false, .slice none 0 0, .slice none 0 0] 25)).alloc (.cells #[.bool false, .slice none 0 0, .slice none 0 0] 25) := ⟨_, rfl⟩
  obtain ⟨X0, Q0, R0, R1⟩ : Rt W w.heap.size false _ _ ∧ W.heap[w.heap.size + 1]? = some (.cells #[.slice Am (nat M).length cm] 23 (0, 0)) ∧ ResZ (w.heap.size + 2) W ∧ ResZ (w.heap.size + 3) W := by subst hW; exact four_new w _ _ _ _
  have B0 : Below w.heap.size w W := by subst hW; exact (((((Below.refl _ _).alloc (Nat.le_refl _) _).alloc (by simp) _).alloc (by simp; omega) _).alloc (by simp; omega) _)
  have hz : w.heap.size + 3 < W.heap.size := by subst hW; simp
  have HX0 := Lib.hid X0
  have HKW := Lib.hid (show Kept [(w.heap.size + 1, .cells #[.slice Am (nat M).length cm] 23 (0, 0)), (w.heap.size + 2, .cells #[.bool false, .slice none 0 0, .slice none 0 0] 25 (0, 0)), (w.heap.size + 3, .cells #[.bool false, .slice none 0 0, .slice none 0 0] 25 (0, 0))] W by
    intro p hp
    simp only [List.mem_cons, List.not_mem_nil, or_false] at hp
    rcases hp with rfl | rfl | rfl
    · exact ⟨Q0, rfl⟩
    · exact ⟨R0, rfl⟩
    · exact ⟨R1, rfl⟩)
  have HB0 := Lib.hid B0
  clear X0 Q0 R0 R1 B0 h1 h2 hm hg
  refine (callsIn_wide (n := 8)).1 ?_
  refine callsIn_of_wp_marks Tryz.func86 rfl trivial ?_ rfl
  simp only [Tryz.ntmps86, List.size_toArray, List.length_cons, List.length_nil, Nat.reduceAdd, Nat.reduceSub, Array.replicate_succ, Array.replicate_zero, List.push_toArray, List.append_toArray, List.nil_append, List.cons_append]
  rw [wpIn_wide]
  go_wp2_with (fail)
  rw [← hW]
  clear hW
  refine (c_ends _).mono ?_
  rintro e w5 ⟨xb, xl, rfl, hxb, hxl, hb5⟩
  have hz5 := hb5.size
  have HX5 := Lib.hid (HX0.out.on hb5 (by omega))
  have HK5 := Lib.hid (HKW.out.below hb5 (Nat.le_refl _))
  have HB5 := Lib.hid (below_join HB0.out hb5 HB0.out.size)
  obtain ⟨e1, e2, rfl, he1, he2⟩ := hxb
  obtain ⟨e3, e4, rfl, he3, he4⟩ := hxl
  obtain ⟨B1, d1, rfl⟩ := he1.shape
  obtain ⟨B2, d2, rfl⟩ := he2.shape
  obtain ⟨B3, d3, rfl⟩ := he3.shape
  obtain ⟨B4, d4, rfl⟩ := he4.shape
  have HE1 := Lib.hid he1
  have HE2 := Lib.hid he2
  have HE3 := Lib.hid he3
  have HE4 := Lib.hid he4
  clear hb5 he1 he2 he3 he4
  obtain ⟨W6, hW6⟩ : ∃ W6, W6 = (w5.alloc (.cells #[.bool false, .slice B1 (nat 0).length d1, .slice B2 (nat 1).length d2] 25)).alloc (.cells #[.bool false, .slice B3 (nat 1).length d3, .slice B4 (nat 0).length d4] 25) := ⟨_, rfl⟩
  have hb6 : Below w5.heap.size w5 ((w5.alloc (.cells #[.bool false, .slice B1 (nat 0).length d1, .slice B2 (nat 1).length d2] 25)).alloc (.cells #[.bool false, .slice B3 (nat 1).length d3, .slice B4 (nat 0).length d4] 25)) := below_two _ _ _
  have hz6 : w5.heap.size + 2 ≤ W6.heap.size := by subst hW6; simp
  obtain ⟨x0, x1, x2⟩ := (HX5.out.on hb6 HX5.out.lt).cells
  have HB7 := Lib.hid (show Rt W6 w5.heap.size false _ _ by subst hW6; exact two_new _ _ _ _ _)
  have HB8 := Lib.hid (show Rt W6 (w5.heap.size + 1) false _ _ by subst hW6; exact rt_new _ _ _ _ _ (by simp))
  rw [← hW6] at hb6
  have HK6 := Lib.hid (HK5.out.below hb6 (Nat.le_refl _))
  have HB6 := Lib.hid (below_join HB5.out hb6 HB5.out.size)
  have HBB6 := Lib.hid hb6
  clear hb6
  go_wp2_with (fail)
  rw [← hW6]
  clear hW6 x0 x1 x2
  refine (c_parts false false _ _ _ _ _).mono ?_
  rintro e w7 ⟨rfl, hw7⟩
  go_wp2_with (fail)
  have hbw : Below W6.heap.size W6 w7 := by subst hw7; exact below_two _ _ _
  have HBL := Lib.hid (show Rt w7 W6.heap.size false _ _ by subst hw7; exact two_new _ _ _ _ _)
  have HBH := Lib.hid (show Rt w7 (W6.heap.size + 1) false _ _ by subst hw7; exact rt_new _ _ _ _ _ (by simp))
  have hz7 : W6.heap.size + 2 ≤ w7.heap.size := by subst hw7; simp
  have HBW := Lib.hid hbw
  have HB77 := Lib.hid (HB7.out.on hbw (by omega))
  have HB87 := Lib.hid (HB8.out.on hbw (by omega))
  have HK7 := Lib.hid (HK6.out.below hbw (Nat.le_refl _))
  have HB7w := Lib.hid (below_join HB6.out hbw HB6.out.size)
  try rw [← hw7]
  clear hw7 hbw
  have hLL : ∀ p ∈ [(w.heap.size + 1, Obj.cells #[.slice Am (nat M).length cm] 23 (0, 0)), (w.heap.size + 2, Obj.cells #[.bool false, .slice none 0 0, .slice none 0 0] 25 (0, 0)), (w.heap.size + 3, Obj.cells #[.bool false, .slice none 0 0, .slice none 0 0] 25 (0, 0))], p.1 < W.heap.size := by
    intro p hp
    simp only [List.mem_cons, List.not_mem_nil, or_false] at hp
    rcases hp with rfl | rfl | rfl <;> simp <;> omega
  have HLL := Lib.hid hLL
  clear hLL
  generalize hLg : [(w.heap.size + 1, Obj.cells #[.slice Am (nat M).length cm] 23 (0, 0)), (w.heap.size + 2, Obj.cells #[.bool false, .slice none 0 0, .slice none 0 0] 25 (0, 0)), (w.heap.size + 3, Obj.cells #[.bool false, .slice none 0 0, .slice none 0 0] 25 (0, 0))] = L at HLL HKW HK5 HK6 HK7
  have HLG := Lib.hid hLg
  clear hLg
  refine (wpIn_wide (n := 8)).1 ?_
  refine wpIn_over_end (F := Fence.wide) (n := 8) rfl (by omega) (gf := 113) (lb := #[.pointer (some ⟨W6.heap.size, 0, none⟩), .pointer (some ⟨W6.heap.size + 1, 0, none⟩)]) rfl trivial (enters_of Tryz.func113 (by kernel_rfl) rfl)
    (E := OwnStep W6.heap.size (W6.heap.size + 1)) (Kp := KpB w5.heap.size (w5.heap.size + 1)) (ok := fun v t X => Limbs w5.heap.size (w5.heap.size + 1) X v t) (ts := partsF (n + n) m n m n) (w0 := w7) ?seq (Below.refl _ _) rfl
    (fun X Y k o hE hk ho => hE.same k o hk (.inl ho)) KpB.trans KpB.put (fun v t W l o o' h hl ho => Limbs.put h l o o' hl ho)
    (fun pre X => Pair w5.heap.size (w5.heap.size + 1) W6.heap.size (W6.heap.size + 1) (foldT pre) X ∧ Kept L X ∧ Below w.heap.size w X ∧ w7.heap.size ≤ X.heap.size ∧ Within M (partsF (n + n) m n m n) pre)
    (fun _ X => Pair w5.heap.size (w5.heap.size + 1) W6.heap.size (W6.heap.size + 1) (arS M m n) X ∧ Kept L X ∧ Below w.heap.size w X ∧ w7.heap.size ≤ X.heap.size)
    (fun pre X Y h hE => ⟨h.1.own hE (by omega) (by omega) (by omega) (by omega), h.2.1.own hE (fun p hp => by have := HLL.out p hp; omega), below_own h.2.2.1 hE (by omega) (by omega) h.2.2.1.size, Nat.le_trans h.2.2.2.1 hE.size, h.2.2.2.2⟩)
    (fun pre X l o o' h hl hx ho => ⟨h.1.put hx ho, h.2.1.put hx ho, below_put h.2.2.1 (by omega), by rw [World.putObj_size]; exact h.2.2.2.1, h.2.2.2.2⟩)
    (fun pre X l o o' h hl hx ho => ⟨h.1.put hx ho, h.2.1.put hx ho, below_put h.2.2.1 (by omega), by rw [World.putObj_size]; exact h.2.2.2⟩)
    (fun X o h => ⟨h.1.below ((Below.refl X.heap.size X).alloc (Nat.le_refl _) o) (Nat.le_refl _), h.2.1.below ((Below.refl X.heap.size X).alloc (Nat.le_refl _) o) (Nat.le_refl _), h.2.2.1.alloc h.2.2.1.size o, Nat.le_trans h.2.2.2.1 ((Below.refl X.heap.size X).alloc (Nat.le_refl _) o).size, h.2.2.2.2⟩) ?init ?round ?done
  case seq =>
    intro l J Jx W hB hJ hY hj
    have up : ∀ {v : Value} {t : Nat}, NatSl w (fun i => i < w.heap.size) v (nat t) → Limbs w5.heap.size (w5.heap.size + 1) W v t := fun h => NatSl.below h (below_join HB7w.out hB HB7w.out.size) (fun i hi => ⟨hi, by have := hB.size; omega, by omega, by omega⟩)
    exact c_parts1 7 (by omega) l W6.heap.size (W6.heap.size + 1) w5.heap.size (w5.heap.size + 1) (by omega) (by omega) (by omega) (by omega) (by omega) (n + n) m n m n false false _ _ _ _ 32 (by omega) J Jx W (by have := hB.size; omega) (by have := hB.size; omega)
      (HBL.out.on hB (by omega)) (HBH.out.on hB (by omega)) (up H1.out) (up H2.out) (up H1.out) (up H2.out) p1 p1 (Nat.le_refl _) (Nat.le_refl _) k1 k2 k1 k2 hJ hY hj
  case init =>
    have hbb := below_join HBB6.out HBW.out HBB6.out.size
    have up : ∀ {v : Value} {t : Nat}, NatSl w5 (fun i => i < w5.heap.size) v (nat t) → Limbs W6.heap.size (W6.heap.size + 1) w7 v t := fun h => NatSl.below h hbb (fun i hi => ⟨hi, by omega, by omega, by omega⟩)
    exact ⟨⟨_, _, _, _, HB77.out, HB87.out, up HE1.out, up HE2.out, up HE3.out, up HE4.out⟩, HK7.out, HB7w.out, Nat.le_refl _, Within.nil _ _⟩
  case round =>
    intro l pre v t Wr K hpre hK
    gi_wp2
    rintro X hl ⟨hpair, hkept, hbx, hsx, hwi⟩ hv
    obtain ⟨D1, i1, D2, i2, D3, i3, D4, i4, r1, r2, l1, l2, l3, l4⟩ := hpair.limbs
    obtain ⟨bp0, bq0, bp1, bq1, bt⟩ := bounds p1 p1 (Nat.le_refl _) k1 k2 hpre
    obtain ⟨D5, i5, rfl⟩ := hv.shape
    have HCF := Lib.hid (fun (Y : World) (hY : Below X.heap.size X Y) => c_further false false (foldT pre).p0 (foldT pre).q0 (foldT pre).p1 (foldT pre).q1 t (by omega) (by omega) (by omega) (by omega) (by omega) _ _ _ Y
      (Fr.on ⟨_, _, rfl, l1.any, l2.any⟩ hY) (Fr.on ⟨_, _, rfl, l3.any, l4.any⟩ hY) (NatSl.below hv.any hY (fun i hi => ⟨hi, Nat.lt_of_lt_of_le hi hY.size⟩)))
    have HRA := Lib.hid r1
    have HRB := Lib.hid r2
    have HL1 := Lib.hid l1
    have HL2 := Lib.hid l2
    have HL3 := Lib.hid l3
    have HL4 := Lib.hid l4
    have HKX := Lib.hid hkept
    have HBX := Lib.hid hbx
    have HWI := Lib.hid (hwi.cons hpre)
    obtain ⟨c10, c11, c12⟩ := r1.cells
    obtain ⟨c20, c21, c22⟩ := r2.cells
    have hfm : Tryz.prog.follows Departure.mixedOrders = true := by kernel_rfl
    clear r1 r2 l1 l2 l3 l4 hkept hbx hwi hv hpre bp0 bq0 bp1 bq1 bt hpair
    gi_wp2_with (fail)
    refine ⟨trivial, ?_⟩
    refine (CallsIn.inRound l (calls_wide (HCF.out _ (Below.refl _ _)))).mono ?_
    rintro e wa ⟨q1, q2, rfl, gq1, gq2, hba⟩
    obtain ⟨D6, i6, rfl⟩ := gq1.shape
    obtain ⟨D7, i7, rfl⟩ := gq2.shape
    obtain ⟨W9, hW9⟩ : ∃ W9, W9 = wa.alloc (.cells #[.bool false, .slice D6 (nat ((foldT pre).p0 + t * (foldT pre).p1)).length i6, .slice D7 (nat ((foldT pre).q0 + t * (foldT pre).q1)).length i7] 25) := ⟨_, rfl⟩
    have hb9 : Below X.heap.size X W9 := by rw [hW9]; exact hba.alloc hba.size _
    have hra9 : Rt W9 wa.heap.size false (.slice D6 (nat ((foldT pre).p0 + t * (foldT pre).p1)).length i6) (.slice D7 (nat ((foldT pre).q0 + t * (foldT pre).q1)).length i7) := by rw [hW9]; exact rt_new _ _ _ _ _ rfl
    have hza := hba.size
    have hzw9 : wa.heap.size < W9.heap.size := hra9.lt
    have HQ1 := Lib.hid (show Fs X.heap.size W9 (.slice D6 (nat ((foldT pre).p0 + t * (foldT pre).p1)).length i6) _ by rw [hW9]; exact Fs.on gq1 ((Below.refl _ _).alloc (Nat.le_refl _) _))
    have HQ2 := Lib.hid (show Fs X.heap.size W9 (.slice D7 (nat ((foldT pre).q0 + t * (foldT pre).q1)).length i7) _ by rw [hW9]; exact Fs.on gq2 ((Below.refl _ _).alloc (Nat.le_refl _) _))
    have HR9 := Lib.hid hra9
    have HB9 := Lib.hid hb9
    have hmo : W9.cell? ⟨w.heap.size + 1, 0, none⟩ = some (.slice Am (nat M).length cm) := by
      have := (HKX.out.below hb9 (Nat.le_refl _)).at_ (b := w.heap.size + 1) (o := .cells #[.slice Am (nat M).length cm] 23 (0, 0)) (by rw [← HLG.out]; simp)
      simp [World.cell?, this]
    have HM9 := Lib.hid (show Fs 0 W9 (.slice Am (nat M).length cm) M from NatSl.below HMM.out (below_join HBX.out hb9 HBX.out.size) (fun i hi => ⟨hi, Nat.zero_le _, by have := HBX.out.size; have := hb9.size; omega⟩))
    obtain ⟨c90, c91, c92⟩ := hra9.cells
    have c92' := c92
    have hmo' := hmo
    rw [hW9] at c92 hmo
    have hz9 := hb9.size
    clear gq1 gq2 hba hra9 hb9
    gi_wp2_with (fail)
    rw [← hW9]
    clear hW9 c92 hmo
    refine ⟨trivial, ?_⟩
    refine (CallsIn.inRound l (calls_wide (c_compareF HQ2.out HM9.out))).mono ?_
    rintro e w10 ⟨rfl, nd, rfl⟩
    by_cases hgt : M < (foldT pre).q0 + t * (foldT pre).q1
    · have hcz := cmpI_more hgt
      have HEQ := Lib.hid (show arS M m n = foldT pre by have := HWI.out; rwa [if_pos hgt] at this)
      clear hgt
      generalize cmpI ((foldT pre).q0 + t * (foldT pre).q1) M = z at hcz
      gi_wp2_with (fail)
      have hbd : Below X.heap.size X (W9.drewN nd) := below_drewN HB9.out nd
      refine ⟨keeps_below hbd (Nat.le_refl _), rfl, ?_, HKX.out.below hbd (Nat.le_refl _), below_join HBX.out hbd HBX.out.size, Nat.le_trans hsx hbd.size⟩
      rw [HEQ.out]
      exact Pair.below ⟨_, _, _, _, HRA.out, HRB.out, HL1.out, HL2.out, HL3.out, HL4.out⟩ hbd (Nat.le_refl _)
    · have hcz := cmpI_le (Nat.le_of_not_lt hgt)
      have HEQ := Lib.hid (show Within M (partsF (n + n) m n m n) (pre ++ [t]) by have := HWI.out; rwa [if_neg hgt] at this)
      clear hgt
      generalize cmpI ((foldT pre).q0 + t * (foldT pre).q1) M = z at hcz
      obtain ⟨V, hV⟩ : ∃ V, V = W9.drewN nd := ⟨_, rfl⟩
      have hbd : Below X.heap.size X V := by rw [hV]; exact below_drewN HB9.out nd
      have HR9v := Lib.hid (show Rt V wa.heap.size false (.slice D6 (nat ((foldT pre).p0 + t * (foldT pre).p1)).length i6) (.slice D7 (nat ((foldT pre).q0 + t * (foldT pre).q1)).length i7) by rw [hV]; exact HR9.out)
      have HQ1v := Lib.hid (show Fs X.heap.size V (.slice D6 (nat ((foldT pre).p0 + t * (foldT pre).p1)).length i6) _ by rw [hV]; exact HQ1.out.drewN nd)
      have HQ2v := Lib.hid (show Fs X.heap.size V (.slice D7 (nat ((foldT pre).q0 + t * (foldT pre).q1)).length i7) _ by rw [hV]; exact HQ2.out.drewN nd)
      have HRAv := Lib.hid (HRA.out.on hbd HRA.out.lt)
      have HRBv := Lib.hid (HRB.out.on hbd HRB.out.lt)
      have HBD := Lib.hid hbd
      rw [← hV]
      clear hV hbd c10 c11 c12 c20 c21 c22 c90 c91 c92' hmo'
      obtain ⟨c10, c11, c12⟩ := HRAv.out.cells
      obtain ⟨c20, c21, c22⟩ := HRBv.out.cells
      obtain ⟨c90, c91, c92⟩ := HR9v.out.cells
      obtain ⟨f10, f11, f12⟩ := HRAv.out.frozen
      obtain ⟨f20, f21, f22⟩ := HRBv.out.frozen
      gi_wp2_with (fail)
      gi_region_o
      all_goals gi_wp2
      all_goals (
        have rB' : ∀ x y z : Value, Rt (((V.setCell ⟨w5.heap.size, 0, none⟩ x).setCell ⟨w5.heap.size, 1, none⟩ y).setCell ⟨w5.heap.size, 2, none⟩ z) (w5.heap.size + 1) false _ _ := fun x y z => row_keep3 HRBv.out (by omega) x y z
        have n3 := HL3.out.below HBD.out (Nat.le_refl _)
        have n4 := HL4.out.below HBD.out (Nat.le_refl _)
        have n1 : Limbs W6.heap.size (W6.heap.size + 1) V _ _ := Limbs.fs HQ1v.out (by omega) (by omega)
        have n2 : Limbs W6.heap.size (W6.heap.size + 1) V _ _ := Limbs.fs HQ2v.out (by omega) (by omega)
        have hlp : ∀ p ∈ L, p.1 < W.heap.size := HLL.out
        obtain ⟨Y, hY⟩ : ∃ Y, Y = (((((((V.setCell ⟨w5.heap.size, 0, none⟩ (.bool false)).setCell ⟨w5.heap.size, 1, none⟩ (.slice D3 (nat (foldT pre).p1).length i3)).setCell ⟨w5.heap.size, 2, none⟩ (.slice D4 (nat (foldT pre).q1).length i4)).setCell ⟨w5.heap.size + 1, 0, none⟩ (.bool false)).setCell ⟨w5.heap.size + 1, 1, none⟩ (.slice D6 (nat ((foldT pre).p0 + t * (foldT pre).p1)).length i6)).setCell ⟨w5.heap.size + 1, 2, none⟩ (.slice D7 (nat ((foldT pre).q0 + t * (foldT pre).q1)).length i7))) := ⟨_, rfl⟩
        have key : KeepsFrom w7.heap.size X Y ∧ KpB w5.heap.size (w5.heap.size + 1) X Y ∧ Pair w5.heap.size (w5.heap.size + 1) W6.heap.size (W6.heap.size + 1) (foldT (pre ++ [t])) Y ∧ Kept L Y ∧ Below w.heap.size w Y ∧ w7.heap.size ≤ Y.heap.size := by
          rw [hY]
          refine ⟨(keeps_below HBD.out (Nat.le_refl _)).trans ((keeps_store V _ _ _).trans (keeps_store _ _ _ _)), (KpB.of_below HBD.out (Nat.le_refl _)).trans ((kp_store V (.inl rfl) _ _ _).trans (kp_store _ (.inr rfl) _ _ _)), ?_, ((HKX.out.below HBD.out (Nat.le_refl _)).store (fun p hp => by have := hlp p hp; omega) _ _ _).store (fun p hp => by have := hlp p hp; omega) _ _ _, below_store3 (below_store3 (below_join HBX.out HBD.out HBX.out.size) (by omega) _ _ _) (by omega) _ _ _, ?_⟩
          · rw [foldT_snoc]
            exact ⟨_, _, _, _, row_keep3 (row_store3 HRAv.out _ _ _) (by omega) _ _ _, row_store3 (rB' _ _ _) _ _ _, (n3.store HRAv.out _ _ _).store (rB' _ _ _) _ _ _, (n4.store HRAv.out _ _ _).store (rB' _ _ _) _ _ _, (n1.store HRAv.out _ _ _).store (rB' _ _ _) _ _ _, (n2.store HRAv.out _ _ _).store (rB' _ _ _) _ _ _⟩
          · rw [size_store3, size_store3]
            exact Nat.le_trans hsx HBD.out.size
        rw [← hY]
        clear hY
        obtain ⟨a1, a2, a3, a4, a5, a6⟩ := key
        exact ⟨a1.trans ((KeepsOthers.drew Y).from _), a2.trans (KpB.of_below ((Below.refl Y.heap.size Y).drew) (Nat.le_refl _)), a3.below ((Below.refl Y.heap.size Y).drew) (Nat.le_refl _), a4.below ((Below.refl Y.heap.size Y).drew) (Nat.le_refl _), a5.drew, a6, HEQ.out⟩)
  case done =>
    intro D X hD hIJ hdef
    have hS : Pair w5.heap.size (w5.heap.size + 1) W6.heap.size (W6.heap.size + 1) (arS M m n) X ∧ Kept L X ∧ Below w.heap.size w X ∧ w7.heap.size ≤ X.heap.size := by
      rcases hIJ with ⟨h1, h2, h3, h4, h5⟩ | ⟨pre, h⟩
      · exact ⟨by rw [show arS M m n = _ from h5.all]; exact h1, h2, h3, h4⟩
      · exact h
    clear hIJ
    obtain ⟨hpair, hkept, hbx, hsx⟩ := hS
    obtain ⟨D1, i1, D2, i2, D3, i3, D4, i4, r1, r2, l1, l2, l3, l4⟩ := hpair.limbs
    have HRA := Lib.hid r1
    have HRB := Lib.hid r2
    have HL1 := Lib.hid l1.any
    have HL2 := Lib.hid l2.any
    have HL3 := Lib.hid l3.any
    have HL4 := Lib.hid l4.any
    have HBX := Lib.hid hbx
    have HDEF := Lib.hid hdef
    have hDx : D < X.heap.size := (Array.getElem?_eq_some_iff.1 hdef).1
    have hmo : X.cell? ⟨w.heap.size + 1, 0, none⟩ = some (.slice Am (nat M).length cm) := by
      have := hkept.at_ (b := w.heap.size + 1) (o := .cells #[.slice Am (nat M).length cm] 23 (0, 0)) (by rw [← HLG.out]; simp)
      simp [World.cell?, this]
    have HR2 := Lib.hid (show ResZ (w.heap.size + 2) X from hkept.at_ (by rw [← HLG.out]; simp))
    have HR3 := Lib.hid (show ResZ (w.heap.size + 3) X from hkept.at_ (by rw [← HLG.out]; simp))
    have HMX := Lib.hid (show NatSl X (fun i => i < X.heap.size) _ (nat M) from NatSl.below HMM.out HBX.out (fun i hi => ⟨hi, by have := HBX.out.size; omega⟩))
    have hB := arS_le (M := M) p1 (pow_pos' 32) (Nat.le_of_lt (nat_len_le.1 k1)) (Nat.le_of_lt (nat_len_le.1 k2))
    obtain ⟨b1, b2, b3, b4⟩ : (nat (arS M m n).p0).length ≤ 33 ∧ (nat (arS M m n).q0).length ≤ 33 ∧ (nat (arS M m n).p1).length ≤ 33 ∧ (nat (arS M m n).q1).length ≤ 33 := by
      obtain ⟨h1, h2, h3, h4⟩ := hB
      generalize hz : BB ^ 32 = z at *
      exact ⟨len_two (by rw [hz]; omega), len_two (by rw [hz]; omega), len_two (by rw [hz]; omega), len_two (by rw [hz]; omega)⟩
    obtain ⟨q1p, -, q0M, -⟩ := HFA.out
    have hsub : (nat (M - (arS M m n).q0)).length ≤ 32 := len_le_of_le (Nat.sub_le _ _) k3
    have hak : (nat (arK M m n)).length ≤ 32 := len_le_of_le (Nat.div_le_self _ _) hsub
    have HSU := Lib.hid (fun (Y : World) (hY : Below X.heap.size X Y) => c_subtractF (lo := 0) (lo' := 0) (X := Y) (NatSl.below HMX.out hY (fun i hi => ⟨hi, Nat.zero_le _, Nat.lt_of_lt_of_le hi hY.size⟩)) (NatSl.below HL2.out hY (fun i hi => ⟨hi, Nat.zero_le _, Nat.lt_of_lt_of_le hi hY.size⟩)) (by omega) q0M)
    have HDI := Lib.hid (fun (Y : World) (hY : Below X.heap.size X Y) (r : Value) (lo : Nat) (hr : Fs lo Y r (M - (arS M m n).q0)) => c_divideN (M - (arS M m n).q0) (arS M m n).q1 q1p (by omega) (by omega) r _ Y (NatSl.mono hr (fun i hi => hi.2)) (NatSl.below HL4.out hY (fun i hi => ⟨hi, Nat.lt_of_lt_of_le hi hY.size⟩)))
    have HFU := Lib.hid (fun (Y : World) (hY : Below X.heap.size X Y) (r : Value) (lo : Nat) (hr : Fs lo Y r (arK M m n)) => c_further false false (arS M m n).p0 (arS M m n).q0 (arS M m n).p1 (arS M m n).q1 (arK M m n) (by omega) (by omega) (by omega) (by omega) (by omega) _ _ r Y
      (Fr.on ⟨_, _, rfl, HL1.out, HL2.out⟩ hY) (Fr.on ⟨_, _, rfl, HL3.out, HL4.out⟩ hY) (NatSl.mono hr (fun i hi => hi.2)))
    have hkd : (M - (arS M m n).q0) / (arS M m n).q1 = arK M m n := rfl
    rw [hkd] at HDI
    have HX0' := Lib.hid (Below.refl X.heap.size X)
    clear r1 r2 l1 l2 l3 l4 hbx hdef hkept hpair hB b1 b2 b3 b4 q1p q0M hsub hak hkd
    generalize arK M m n = kk at *
    generalize (arS M m n).p0 = P0 at *
    generalize (arS M m n).q0 = Q0 at *
    generalize (arS M m n).p1 = P1 at *
    generalize (arS M m n).q1 = Q1 at *
    obtain ⟨c10, c11, c12⟩ := HRA.out.cells
    obtain ⟨c20, c21, c22⟩ := HRB.out.cells
    go_wp2_with (fail)
    refine wp_only ?_
    go_region_held3 (fun Y => Y.cell? ⟨w.heap.size + 1, 0, none⟩ = some (.slice Am (nat M).length cm) ∧ Y.cell? ⟨w5.heap.size, 2, none⟩ = some (.slice D2 (nat Q0).length i2) ∧ Y.cell? ⟨w5.heap.size + 1, 2, none⟩ = some (.slice D4 (nat Q1).length i4))
      (first | exact HSb.out | exact HSa.out | exact ⟨hmo, c12, c22⟩)
      (first
        | (go_at_call 102; (with_reducible refine (HSU.out _ HX0'.out.drew).mono ?_); rintro e ya ⟨ra, rfl, hra, hba0⟩; obtain ⟨Aa, ca, rfl⟩ := hra.shape; have hba := Below.undrew hba0; have HYa := Lib.hid hba; have HNa := Lib.hid (show Fs X.heap.size ya _ _ from hra); have HSa := Lib.hid (show ya.cell? ⟨w.heap.size + 1, 0, none⟩ = some (.slice Am (nat M).length cm) ∧ ya.cell? ⟨w5.heap.size, 2, none⟩ = some (.slice D2 (nat Q0).length i2) ∧ ya.cell? ⟨w5.heap.size + 1, 2, none⟩ = some (.slice D4 (nat Q1).length i4) from ⟨(hba.cell (p := ⟨w.heap.size + 1, 0, none⟩) (by show w.heap.size + 1 < _; omega)).trans hmo, (hba.cell (p := ⟨w5.heap.size, 2, none⟩) (by show w5.heap.size < _; omega)).trans c12, (hba.cell (p := ⟨w5.heap.size + 1, 2, none⟩) (by show w5.heap.size + 1 < _; omega)).trans c22⟩); have hza := hba.size; clear hra hba hba0)
        | (go_at_call 73; (with_reducible refine (HDI.out _ HYa.out _ _ HNa.out).mono ?_); rintro e yb ⟨qb, rb, rfl, gqb, grb, hbb⟩; obtain ⟨Ab, cb, rfl⟩ := gqb.shape; obtain ⟨Ac, cc, rfl⟩ := grb.shape; have HYb := Lib.hid (below_join HYa.out hbb HYa.out.size); have HNb := Lib.hid (show Fs ya.heap.size yb _ _ from gqb); have HSb := Lib.hid (show yb.cell? ⟨w.heap.size + 1, 0, none⟩ = some (.slice Am (nat M).length cm) ∧ yb.cell? ⟨w5.heap.size, 2, none⟩ = some (.slice D2 (nat Q0).length i2) ∧ yb.cell? ⟨w5.heap.size + 1, 2, none⟩ = some (.slice D4 (nat Q1).length i4) from ⟨(hbb.cell (p := ⟨w.heap.size + 1, 0, none⟩) (by show w.heap.size + 1 < _; omega)).trans HSa.out.1, (hbb.cell (p := ⟨w5.heap.size, 2, none⟩) (by show w5.heap.size < _; omega)).trans HSa.out.2.1, (hbb.cell (p := ⟨w5.heap.size + 1, 2, none⟩) (by show w5.heap.size + 1 < _; omega)).trans HSa.out.2.2⟩); have hzb := hbb.size; clear gqb grb hbb))
    refine only_intro ?_
    have HRAb := Lib.hid (HRA.out.on HYb.out HRA.out.lt)
    have HRBb := Lib.hid (HRB.out.on HYb.out HRB.out.lt)
    have HR2b := Lib.hid (HR2.out.on HYb.out (Nat.lt_of_lt_of_le (by omega) hsx))
    have HR3b := Lib.hid (HR3.out.on HYb.out (Nat.lt_of_lt_of_le (by omega) hsx))
    have HYY := Lib.hid (Below.refl yb.heap.size yb)
    have hzy := HYb.out.size
    clear c10 c11 c12 c20 c21 c22 hmo
    obtain ⟨c10, c11, c12⟩ := HRAb.out.cells
    obtain ⟨c20, c21, c22⟩ := HRBb.out.cells
    have hn1 : w5.heap.size ≠ w.heap.size + 1 + 1 := by omega
    have hn2 : w5.heap.size ≠ w.heap.size + 1 + 1 + 1 := by omega
    have hn3 : w5.heap.size + 1 ≠ w.heap.size + 1 + 1 := by omega
    have hn4 : w5.heap.size + 1 ≠ w.heap.size + 1 + 1 + 1 := by omega
    go_wp2_with (fail)
    refine wp_only ?_
    go_region_held3 (fun Y => (Y.cell? ⟨w5.heap.size, 0, none⟩ = some (.bool false) ∧ Y.cell? ⟨w5.heap.size, 1, none⟩ = some (.slice D1 (nat P0).length i1) ∧ Y.cell? ⟨w5.heap.size, 2, none⟩ = some (.slice D2 (nat Q0).length i2)) ∧ Y.cell? ⟨w5.heap.size + 1, 0, none⟩ = some (.bool false) ∧ Y.cell? ⟨w5.heap.size + 1, 1, none⟩ = some (.slice D3 (nat P1).length i3) ∧ Y.cell? ⟨w5.heap.size + 1, 2, none⟩ = some (.slice D4 (nat Q1).length i4))
      (first | with_reducible exact ⟨HRAc.out.cells, HRBc.out.cells⟩ | with_reducible exact ⟨rt_cells_store (rt_store HRAc.out hn1 _ _ _) hn2 _ _ _, rt_cells_store (rt_store HRBc.out hn3 _ _ _) hn4 _ _ _⟩ | with_reducible exact ⟨rt_cells_store HRAc.out hn1 _ _ _, rt_cells_store HRBc.out hn3 _ _ _⟩ | exact ⟨HRAb.out.cells, HRBb.out.cells⟩)
      ((go_at_call 83; (with_reducible refine (HFU.out _ HYb.out.drew _ _ (Fs.drew HNb.out)).mono ?_); rintro e yc ⟨qc, rc, rfl, gqc, grc, hbc0⟩; obtain ⟨Ae, ce, rfl⟩ := gqc.shape; obtain ⟨Af, cf, rfl⟩ := grc.shape; have hbc := Below.undrew hbc0; have HYc := Lib.hid (below_join HYb.out hbc HYb.out.size); have HNe := Lib.hid (show Fs yb.heap.size yc _ _ from gqc); have HNf := Lib.hid (show Fs yb.heap.size yc _ _ from grc); have HRAc := Lib.hid (HRAb.out.on hbc HRAb.out.lt); have HRBc := Lib.hid (HRBb.out.on hbc HRBb.out.lt); have HR2c := Lib.hid (HR2b.out.on hbc (by omega)); have HR3c := Lib.hid (HR3b.out.on hbc (by omega)); have hzc := hbc.size; clear gqc grc hbc0 hbc; obtain ⟨s20, s21, s22⟩ := three_cells HR2c.out; obtain ⟨s30, s31, s32⟩ := three_cells HR3c.out; obtain ⟨g20, g21, g22⟩ := three_frozen HR2c.out; obtain ⟨g30, g31, g32⟩ := three_frozen HR3c.out))
    refine only_intro ?_
    go_wp2_with (fail)
    have hD9 : yc.heap[D]? = some (.deferred (some [])) := (HYc.out.block _ hDx).trans HDEF.out
    have hK := row_keep3 (row_keep3 hD9 (show D ≠ w.heap.size + 1 + 1 by omega) (.bool false) (.slice D3 (nat P1).length i3) (.slice D4 (nat Q1).length i4)) (show D ≠ w.heap.size + 1 + 1 + 1 by omega) (.bool false) (.slice Ae (nat (P0 + kk * P1)).length ce) (.slice Af (nat (Q0 + kk * Q1)).length cf)
    have hr2 := row_keep3 (row_store3 HR2c.out (.bool false) (.slice D3 (nat P1).length i3) (.slice D4 (nat Q1).length i4)) (show w.heap.size + 1 + 1 ≠ w.heap.size + 1 + 1 + 1 by omega) (.bool false) (.slice Ae (nat (P0 + kk * P1)).length ce) (.slice Af (nat (Q0 + kk * Q1)).length cf)
    have hq3 := row_keep3 HR3c.out (show w.heap.size + 1 + 1 + 1 ≠ w.heap.size + 1 + 1 by omega) (.bool false) (.slice D3 (nat P1).length i3) (.slice D4 (nat Q1).length i4)
    have hr3 := row_store3 hq3 (.bool false) (.slice Ae (nat (P0 + kk * P1)).length ce) (.slice Af (nat (Q0 + kk * Q1)).length cf)
    have hf2 := put_other (o' := .deferred none) hr2 (show w.heap.size + 1 + 1 ≠ D by omega)
    have hf3 := put_other (o' := .deferred none) hr3 (show w.heap.size + 1 + 1 + 1 ≠ D by omega)
    have nz : ∀ {v : Value} {t : Nat}, NatSl yc (fun i => i < yc.heap.size) v (nat t) → _ := fun {v t} h => natSl_put (natSl_storeZ (natSl_storeZ h HR2c.out (.bool false) (.slice D3 (nat P1).length i3) (.slice D4 (nat Q1).length i4)) hq3 (.bool false) (.slice Ae (nat (P0 + kk * P1)).length ce) (.slice Af (nat (Q0 + kk * Q1)).length cf)) (o' := .deferred none) hK rfl
    have up9 : ∀ {v : Value} {t : Nat}, NatSl X (fun i => i < X.heap.size) v (nat t) → NatSl yc (fun i => i < yc.heap.size) v (nat t) := fun h => NatSl.below h HYc.out (fun i hi => ⟨hi, Nat.lt_of_lt_of_le hi HYc.out.size⟩)
    have hfin := below_put (o' := .deferred none) (below_store3 (below_store3 (below_join HBX.out HYc.out HBX.out.size) (show w.heap.size ≤ w.heap.size + 1 + 1 by omega) (.bool false) (.slice D3 (nat P1).length i3) (.slice D4 (nat Q1).length i4)) (show w.heap.size ≤ w.heap.size + 1 + 1 + 1 by omega) (.bool false) (.slice Ae (nat (P0 + kk * P1)).length ce) (.slice Af (nat (Q0 + kk * Q1)).length cf)) (show w.heap.size ≤ D by omega)
    obtain ⟨m0, m1', m2'⟩ := three_cells hf2
    obtain ⟨m3, m4, m5⟩ := three_cells hf3
    refine ⟨by simp, .inl ⟨_, _, rfl, run_takeDeferred hK, ?_⟩⟩
    refine ⟨.tuple #[.agg #[.bool false, .slice D3 (nat P1).length i3, .slice D4 (nat Q1).length i4], .agg #[.bool false, .slice Ae (nat (P0 + kk * P1)).length ce, .slice Af (nat (Q0 + kk * Q1)).length cf]], by simp [results, Tryz.results86, go_sem, m0, m1', m2', m3, m4, m5], ?_⟩
    exact ⟨_, _, rfl, ⟨_, _, rfl, nz (up9 HL3.out), nz (up9 HL4.out)⟩, ⟨_, _, rfl, nz (natSl_any HNe.out), nz (natSl_any HNf.out)⟩, hfin⟩
end Go.Proofs.YtfdkdloldjfnjaaGreatDoor

/- DERIVED. Simplest where it is refused, and of an interval that has 0 in it. -/
namespace Go.Proofs.YtfdkdloldjfnjaaGreatDoor
open Go.RowKit Go.Shelf
set_option maxRecDepth 100000

set_option maxHeartbeats 1000000 in
theorem c_SimplestE (s t : Bool) (a b c d : List Nat) (x y : Value) (w : World) (ht : Tz w) (hx : Fr0 w x s a b) (hy : Fr0 w y t c d) (p1 p2 : Bool) (hp1 : validB s a b = p1) (hp2 : validB t c d = p2) (hpp : (p1 && p2) = false) :
    Calls Tryz.prog 38 #[x, y] w (ResPost none 1 w) := by
  have HT := Lib.hid ht
  have HX := Lib.hid hx
  have HY := Lib.hid hy
  have HV1 := Lib.hid (fun (X : World) (hX : Below w.heap.size w X) => c_ValidF (hx.on hX) p1 hp1 (ht.heap (hX.block _ ht.lt)))
  have HV2 := Lib.hid (fun (X : World) (hX : Below w.heap.size w X) => c_ValidF (hy.on hX) p2 hp2 (ht.heap (hX.block _ ht.lt)))
  obtain ⟨A1, c1, A2, c2, rfl⟩ := hx.shape
  obtain ⟨A3, c3, A4, c4, rfl⟩ := hy.shape
  clear hx hy ht hp1 hp2
  obtain ⟨W, hW⟩ : ∃ W, W = ((w.alloc (.cells #[.bool s, .slice A1 a.length c1, .slice A2 b.length c2] 25)).alloc (.cells #[.bool t, .slice A3 c.length c3, .slice A4 d.length c4] 25)).alloc (.cells #[.bool false, .slice none 0 0, .slice none 0 0] 25) := ⟨_, rfl⟩
  have S0 := six_new w s (.slice A1 a.length c1) (.slice A2 b.length c2) t (.slice A3 c.length c3) (.slice A4 d.length c4) (.cells #[.bool false, .slice none 0 0, .slice none 0 0] 25)
  have R0 := resz_new w (.cells #[.bool s, .slice A1 a.length c1, .slice A2 b.length c2] 25) (.cells #[.bool t, .slice A3 c.length c3, .slice A4 d.length c4] 25)
  rw [← hW] at S0 R0
  have B0 : Below w.heap.size w W := by subst hW; exact (((Below.refl _ _).alloc (Nat.le_refl _) _).alloc (by simp) _).alloc (by simp; omega) _
  have hz : w.heap.size + 2 < W.heap.size := by subst hW; simp
  have HS0 := Lib.hid S0
  have HR0 := Lib.hid R0
  have HB0 := Lib.hid B0
  clear S0 R0 B0
  cases p1 with
  | false =>
    go_enter Tryz.func38, Tryz.ntmps38
    go_wp2_with (fail)
    rw [← hW]
    clear hW
    refine (HV1.out _ HB0.out).mono ?_
    rintro e w1 ⟨rfl, hb1⟩
    have r1 := HR0.out.on hb1 hz
    have HR1 := Lib.hid r1
    have HB1 := Lib.hid (below_join HB0.out hb1 HB0.out.size)
    obtain ⟨e0, e1, e2⟩ := three_cells r1
    obtain ⟨f0, f1, f2⟩ := three_frozen r1
    clear r1
    go_wp2_with (fail)
    exact ret3t (b := w.heap.size + 1 + 1) rfl rfl rfl rfl (row_store3 HR1.out _ _ _) ⟨_, _, rfl, below_store3 HB1.out (by omega) _ _ _, fun _ => ⟨rfl, rfl⟩, fun _ _ _ h => absurd h (by simp)⟩
  | true =>
    cases p2 with
    | false =>
      go_enter Tryz.func38, Tryz.ntmps38
      go_wp2_with (fail)
      rw [← hW]
      clear hW
      refine (HV1.out _ HB0.out).mono ?_
      rintro e w1 ⟨rfl, hb1⟩
      have hz1 := hb1.size
      have HR1 := Lib.hid (HR0.out.on hb1 hz)
      have HS1 := Lib.hid (HS0.out.on hb1 hz)
      have HB1 := Lib.hid (below_join HB0.out hb1 HB0.out.size)
      obtain ⟨x0, x1, x2, y0, y1, y2⟩ := HS1.out
      clear hb1
      go_wp2_with (fail)
      refine (HV2.out _ HB1.out).mono ?_
      rintro e w2 ⟨rfl, hb2⟩
      have r2 := HR1.out.on hb2 (by omega)
      have HR2 := Lib.hid r2
      have HB2 := Lib.hid (below_join HB1.out hb2 HB1.out.size)
      obtain ⟨e0, e1, e2⟩ := three_cells r2
      obtain ⟨f0, f1, f2⟩ := three_frozen r2
      clear r2 hb2
      go_wp2_with (fail)
      exact ret3t (b := w.heap.size + 1 + 1) rfl rfl rfl rfl (row_store3 HR2.out _ _ _) ⟨_, _, rfl, below_store3 HB2.out (by omega) _ _ _, fun _ => ⟨rfl, rfl⟩, fun _ _ _ h => absurd h (by simp)⟩
    | true => exact absurd hpp (by simp)

set_option maxHeartbeats 1000000 in
theorem c_SimplestR (s1 s2 : Bool) (m1 n1 m2 n2 : Nat) (k1 : (nat m1).length ≤ 32) (k2 : (nat n1).length ≤ 32) (k3 : (nat m2).length ≤ 32) (k4 : (nat n2).length ≤ 32) (x y : Value) (w : World) (ht : Tz w) (hx : Fr w x s1 m1 n1) (hy : Fr w y s2 m2 n2)
    (hv1 : validB s1 (nat m1) (nat n1) = true) (hv2 : validB s2 (nat m2) (nat n2) = true) (ho : (0 : Int) < ordP (sumP s1 m1 n1 (negP s2 true m2) m2 n2)) :
    Calls Tryz.prog 38 #[x, y] w (ResPost none 2 w) := by
  have hx0 := hx.to0 (by omega) (by omega)
  have hy0 := hy.to0 (by omega) (by omega)
  have HV1 := Lib.hid (fun (X : World) (hX : Below w.heap.size w X) => c_ValidF (hx0.on hX) true hv1 (ht.heap (hX.block _ ht.lt)))
  have HV2 := Lib.hid (fun (X : World) (hX : Below w.heap.size w X) => c_ValidF (hy0.on hX) true hv2 (ht.heap (hX.block _ ht.lt)))
  have HO := Lib.hid (fun (X : World) (hX : Below w.heap.size w X) => c_order s1 s2 m1 m2 n1 n2 (by omega) (by omega) (by omega) (by omega) x y X (hx.on hX) (hy.on hX))
  obtain ⟨v1, v2, rfl, h1, h2⟩ := hx
  obtain ⟨u1, u2, rfl, g1, g2⟩ := hy
  obtain ⟨A1, c1, rfl⟩ := h1.shape
  obtain ⟨A2, c2, rfl⟩ := h2.shape
  obtain ⟨A3, c3, rfl⟩ := g1.shape
  obtain ⟨A4, c4, rfl⟩ := g2.shape
  have H1 := Lib.hid h1
  have H2 := Lib.hid h2
  have G1 := Lib.hid g1
  have G2 := Lib.hid g2
  have HOO := Lib.hid ho
  obtain ⟨W, hW⟩ : ∃ W, W = ((w.alloc (.cells #[.bool s1, .slice A1 (nat m1).length c1, .slice A2 (nat n1).length c2] 25)).alloc (.cells #[.bool s2, .slice A3 (nat m2).length c3, .slice A4 (nat n2).length c4] 25)).alloc (.cells #[.bool false, .slice none 0 0, .slice none 0 0] 25) := ⟨_, rfl⟩
  have S0 : Six w.heap.size s1 (.slice A1 (nat m1).length c1) (.slice A2 (nat n1).length c2) s2 (.slice A3 (nat m2).length c3) (.slice A4 (nat n2).length c4) W := by subst hW; exact six_new w _ _ _ _ _ _ _
  have R0 : ResZ (w.heap.size + 2) W := by subst hW; exact resz_new w _ _
  have B0 : Below w.heap.size w W := by subst hW; exact (((Below.refl _ _).alloc (Nat.le_refl _) _).alloc (by simp) _).alloc (by simp; omega) _
  have hz : w.heap.size + 2 < W.heap.size := by subst hW; simp
  have HS0 := Lib.hid S0
  have HR0 := Lib.hid R0
  have HB0 := Lib.hid B0
  clear S0 R0 B0 h1 h2 g1 g2 ho hx0 hy0 hv1 hv2 ht
  go_enter Tryz.func38, Tryz.ntmps38
  go_wp2_with (fail)
  rw [← hW]
  clear hW
  refine (HV1.out _ HB0.out).mono ?_
  rintro e w1 ⟨rfl, hb1⟩
  have hz1 := hb1.size
  have HR1 := Lib.hid (HR0.out.on hb1 hz)
  have HS1 := Lib.hid (HS0.out.on hb1 hz)
  have HB1 := Lib.hid (below_join HB0.out hb1 HB0.out.size)
  obtain ⟨x0, x1, x2, y0, y1, y2⟩ := HS1.out
  clear hb1
  go_wp2_with (fail)
  refine (HV2.out _ HB1.out).mono ?_
  rintro e w2 ⟨rfl, hb2⟩
  have hz2 := hb2.size
  have HR2 := Lib.hid (HR1.out.on hb2 (by omega))
  have HS2 := Lib.hid (HS1.out.on hb2 (by omega))
  have HB2 := Lib.hid (below_join HB1.out hb2 HB1.out.size)
  clear x0 x1 x2 y0 y1 y2 hb2
  obtain ⟨x0, x1, x2, y0, y1, y2⟩ := HS2.out
  go_wp2_with (fail)
  refine (HO.out _ HB2.out).mono ?_
  rintro e w3 ⟨rfl, hb3⟩
  have hz3 := hb3.size
  have HR3 := Lib.hid (HR2.out.on hb3 (by omega))
  have HS3 := Lib.hid (HS2.out.on hb3 (by omega))
  have HB3 := Lib.hid (below_join HB2.out hb3 HB2.out.size)
  have hord := HOO.out
  generalize ordP (sumP s1 m1 n1 (negP s2 true m2) m2 n2) = od at hord
  clear x0 x1 x2 y0 y1 y2 hb3
  obtain ⟨x0, x1, x2, y0, y1, y2⟩ := HS3.out
  obtain ⟨e0, e1, e2⟩ := three_cells HR3.out
  obtain ⟨f0, f1, f2⟩ := three_frozen HR3.out
  go_wp2_with (fail)
  exact ret3t (b := w.heap.size + 1 + 1) rfl rfl rfl rfl (row_store3 HR3.out _ _ _) ⟨_, _, rfl, below_store3 HB3.out (by omega) _ _ _, fun _ => ⟨rfl, rfl⟩, fun _ _ _ h => absurd h (by simp)⟩

set_option maxHeartbeats 1000000 in
theorem c_SimplestZ (m1 n1 m2 n2 : Nat) (k1 : (nat m1).length ≤ 32) (k2 : (nat n1).length ≤ 32) (k3 : (nat m2).length ≤ 32) (k4 : (nat n2).length ≤ 32) (x y : Value) (w : World) (ht : Tz w) (hx : Fr w x true m1 n1) (hy : Fr w y false m2 n2)
    (hv1 : validB true (nat m1) (nat n1) = true) (hv2 : validB false (nat m2) (nat n2) = true) (ho : ¬ (0 : Int) < ordP (sumP true m1 n1 (negP false true m2) m2 n2)) :
    Calls Tryz.prog 38 #[x, y] w (ResPost (some (false, 0, 1)) 0 w) := by
  have hx0 := hx.to0 (by omega) (by omega)
  have hy0 := hy.to0 (by omega) (by omega)
  have HV1 := Lib.hid (fun (X : World) (hX : Below w.heap.size w X) => c_ValidF (hx0.on hX) true hv1 (ht.heap (hX.block _ ht.lt)))
  have HV2 := Lib.hid (fun (X : World) (hX : Below w.heap.size w X) => c_ValidF (hy0.on hX) true hv2 (ht.heap (hX.block _ ht.lt)))
  have HO := Lib.hid (fun (X : World) (hX : Below w.heap.size w X) => c_order true false m1 m2 n1 n2 (by omega) (by omega) (by omega) (by omega) x y X (hx.on hX) (hy.on hX))
  obtain ⟨v1, v2, rfl, h1, h2⟩ := hx
  obtain ⟨u1, u2, rfl, g1, g2⟩ := hy
  obtain ⟨A1, c1, rfl⟩ := h1.shape
  obtain ⟨A2, c2, rfl⟩ := h2.shape
  obtain ⟨A3, c3, rfl⟩ := g1.shape
  obtain ⟨A4, c4, rfl⟩ := g2.shape
  have H1 := Lib.hid h1
  have H2 := Lib.hid h2
  have G1 := Lib.hid g1
  have G2 := Lib.hid g2
  have HOO := Lib.hid ho
  obtain ⟨W, hW⟩ : ∃ W, W = ((w.alloc (.cells #[.bool true, .slice A1 (nat m1).length c1, .slice A2 (nat n1).length c2] 25)).alloc (.cells #[.bool false, .slice A3 (nat m2).length c3, .slice A4 (nat n2).length c4] 25)).alloc (.cells #[.bool false, .slice none 0 0, .slice none 0 0] 25) := ⟨_, rfl⟩
  have S0 : Six w.heap.size true (.slice A1 (nat m1).length c1) (.slice A2 (nat n1).length c2) false (.slice A3 (nat m2).length c3) (.slice A4 (nat n2).length c4) W := by subst hW; exact six_new w _ _ _ _ _ _ _
  have R0 : ResZ (w.heap.size + 2) W := by subst hW; exact resz_new w _ _
  have B0 : Below w.heap.size w W := by subst hW; exact (((Below.refl _ _).alloc (Nat.le_refl _) _).alloc (by simp) _).alloc (by simp; omega) _
  have hz : w.heap.size + 2 < W.heap.size := by subst hW; simp
  have HS0 := Lib.hid S0
  have HR0 := Lib.hid R0
  have HB0 := Lib.hid B0
  clear S0 R0 B0 h1 h2 g1 g2 ho hx0 hy0 hv1 hv2 ht
  go_enter Tryz.func38, Tryz.ntmps38
  go_wp2_with (fail)
  rw [← hW]
  clear hW
  refine (HV1.out _ HB0.out).mono ?_
  rintro e w1 ⟨rfl, hb1⟩
  have hz1 := hb1.size
  have HR1 := Lib.hid (HR0.out.on hb1 hz)
  have HS1 := Lib.hid (HS0.out.on hb1 hz)
  have HB1 := Lib.hid (below_join HB0.out hb1 HB0.out.size)
  obtain ⟨x0, x1, x2, y0, y1, y2⟩ := HS1.out
  clear hb1
  go_wp2_with (fail)
  refine (HV2.out _ HB1.out).mono ?_
  rintro e w2 ⟨rfl, hb2⟩
  have hz2 := hb2.size
  have HR2 := Lib.hid (HR1.out.on hb2 (by omega))
  have HS2 := Lib.hid (HS1.out.on hb2 (by omega))
  have HB2 := Lib.hid (below_join HB1.out hb2 HB1.out.size)
  clear x0 x1 x2 y0 y1 y2 hb2
  obtain ⟨x0, x1, x2, y0, y1, y2⟩ := HS2.out
  go_wp2_with (fail)
  refine (HO.out _ HB2.out).mono ?_
  rintro e w3 ⟨rfl, hb3⟩
  have hz3 := hb3.size
  have HR3 := Lib.hid (HR2.out.on hb3 (by omega))
  have HS3 := Lib.hid (HS2.out.on hb3 (by omega))
  have HB3 := Lib.hid (below_join HB2.out hb3 HB2.out.size)
  have hord := HOO.out
  generalize ordP (sumP true m1 n1 (negP false true m2) m2 n2) = od at hord
  clear x0 x1 x2 y0 y1 y2 hb3
  obtain ⟨x0, x1, x2, y0, y1, y2⟩ := HS3.out
  go_wp2_with (fail)
  refine (c_negation false _).mono ?_
  rintro e w4 ⟨rfl, hw4⟩
  have hb4 : Below w3.heap.size w3 w4 := by subst hw4; exact (Below.refl _ _).alloc (Nat.le_refl _) _
  have hz4 : w3.heap.size < w4.heap.size := by subst hw4; simp
  have HR4 := Lib.hid (HR3.out.on hb4 (by omega))
  have HS4 := Lib.hid (HS3.out.on hb4 (by omega))
  have HB4 := Lib.hid (below_join HB3.out hb4 HB3.out.size)
  clear x0 x1 x2 y0 y1 y2 hb4 hw4
  obtain ⟨x0, x1, x2, y0, y1, y2⟩ := HS4.out
  go_wp2_with (fail)
  refine (c_one _).mono ?_
  rintro e w5 ⟨o1, rfl, go1, hb5⟩
  obtain ⟨D1, i1, rfl⟩ := go1.shape
  have hz5 := hb5.size
  have HR5 := Lib.hid (HR4.out.on hb5 (by omega))
  have HB5 := Lib.hid (below_join HB4.out hb5 HB4.out.size)
  have HG1 := Lib.hid (natSl_any go1)
  clear x0 x1 x2 y0 y1 y2 hb5 go1
  obtain ⟨e0, e1, e2⟩ := three_cells HR5.out
  obtain ⟨f0, f1, f2⟩ := three_frozen HR5.out
  go_wp2_with (fail)
  refine ret3t (b := w.heap.size + 1 + 1) rfl rfl rfl rfl (row_store3 HR5.out _ _ _) ⟨_, _, rfl, below_store3 HB5.out (by omega) _ _ _, fun h => absurd h (by simp), fun s' n' d' h => ?_⟩
  injection h with h
  injection h with h1 h
  injection h with h2 h3
  subst h1 h2 h3
  exact ⟨⟨_, _, rfl, natSl_nil0 _ _, natSl_storeZ HG1.out HR5.out _ _ _⟩, rfl⟩
end Go.Proofs.YtfdkdloldjfnjaaGreatDoor
