/-
  DERIVED. What own makes, in memory (stage 6).
-/
import Derived.Test.YthghinkicaafmaaBV
import Derived.Test.YthghinkicaafmaaBU
import Derived.Laws.AppendOwnNone
namespace Go.Proofs.Ythghinkicaafmaa
open Go.RowKit
set_option maxRecDepth 100000

theorem own_low {w : World} {b b' : Nat} {e : TypeId} {size n : Nat} {v : Value} {xs : List Value} (h : w.ownsRow b e size v n xs) (hb : b' ≤ b) : w.ownsRow b' e size v n xs := by
  obtain ⟨k1, h | ⟨g, cap, cur, rfl, k3, k⟩⟩ := h
  · exact ⟨k1, .inl h⟩
  · exact ⟨k1, .inr ⟨g, cap, cur, rfl, Nat.le_trans hb k3, k⟩⟩
theorem own_other {w : World} {b b' : Nat} {e e' : TypeId} {size n size' n' : Nat} {v v' : Value} {xs xs' : List Value} (h : w.ownsRow b e size v n xs) (h' : w.ownsRow b' e' size' v' n' xs') (he : e ≠ e') : v.ownBlock = none ∨ v.ownBlock ≠ v'.ownBlock := by
  obtain ⟨k1, ⟨rfl, -⟩ | ⟨g, cap, cur, rfl, k3, k4, k⟩⟩ := h
  · exact .inl rfl
  · obtain ⟨-, ⟨rfl, -⟩ | ⟨g', cap', cur', rfl, -, k4', -⟩⟩ := h'
    · exact .inr (by intro h; cases h)
    · refine .inr fun h => ?_
      obtain rfl : g = g' := by simpa [Value.ownBlock] using h
      rw [k4] at k4'
      simp at k4'
      exact he k4'.2
/-- A row is appended to nil: a row of its own, or nil. -/
theorem wpList_copy {w : World} {ops : Array Oper} {rest : List Oper} {o : Oper} {a : Act} {Q : Exit → Act → World → Prop} (hg : o.guard = none) (s x : Operand) (t : TypeId) (ho : o.op = .call { callee := .builtin .append, args := #[s, x], argTypes := #[t, t] })
    (e : TypeId) (i : TypeInfo) (z : Value) (size bytes : Nat) (h1 : Try.prog.underlying t = some (.slice e)) (h2 : Try.prog.info? e = some i) (h3 : i.zero = some z) (h4 : i.size = size) (h5 : i.bytes = bytes) (h6 : z.cells.size = size) (h7 : 0 < size)
    (hs : a.eval s = .slice none 0 0) (A : Option Addr) (m c : Nat) (hx : a.eval x = .slice A m c) (hA : A = none → m = 0 ∧ c = 0) (xs : List Value) (hl : xs.length = m * size)
    (hc : ∀ ad, A = some ad → ∀ j u, xs[j]? = some u → w.cell? (ad.add j) = some u) (h1c : ∀ u ∈ xs, u.oneCell' = true) (b1 : m ≤ maxLen) (b2 : m * bytes ≤ 140737488355328)
    (h : ∀ A' c' w', w'.ownsRow w.heap.size e size (.slice A' m c') m xs → (A' = none → c' = 0) → Below w.heap.size w w' → wpList Try.prog ops Q rest (a.put o.dst (.slice A' m c')) w') : wpList Try.prog ops Q (o :: rest) a w := by
  cases A with
  | none =>
    obtain ⟨rfl, rfl⟩ := hA rfl
    have hxs : xs = [] := List.eq_nil_of_length_eq_zero (by simpa using hl)
    subst hxs
    exact wpList_append_own_none hg s x t ho w.heap.size e i size h1 h2 (.slice none 0 0) 0 [] hs (World.ownsRow_nil _ _ _ _) hx (h none 0 w (World.ownsRow_nil _ _ _ _) (fun _ => rfl) (Below.refl _ _))
  | some ad =>
    refine wpList_append_own w hg s x t ho w.heap.size e i z size bytes h1 h2 h3 h4 h5 h6 h7 (.slice none 0 0) 0 [] hs (World.ownsRow_nil _ _ _ _) ad m c xs hx hl (hc ad rfl) h1c (by omega) (by rw [Nat.zero_add]; exact b2) (Nat.le_refl _) ?_
    intro v' w1 hown hgrow _
    rw [Nat.zero_add, List.nil_append] at hown
    have hb : Below w.heap.size w w1 := (Below.refl _ w).grown hgrow (Nat.le_refl _) (fun k hk => by cases hk)
    have ho2 := hown
    obtain ⟨k1, ⟨rfl, rfl⟩ | ⟨g, cap, cur, rfl, k⟩⟩ := hown
    · exact h none 0 w1 ho2 (fun _ => rfl) hb
    · exact h (some ⟨g, 0, none⟩) cap w1 ho2 (fun h => by cases h) hb
/-- Lists of numbers in rows of their own. -/
def InRow (base : Nat) (X : World) (v : Value) (ls : List (List Int)) : Prop :=
  ∃ us : List Value, us.length = ls.length ∧ X.ownsRow base 32 1 v ls.length us ∧ ∀ (j : Nat) (u : Value) (l : List Int), us[j]? = some u → ls[j]? = some l → X.ownsRow base 3 1 u l.length (ints l)
theorem InRow.nil (base : Nat) (X : World) : InRow base X (.slice none 0 0) [] := ⟨[], rfl, World.ownsRow_nil _ _ _ _, fun j u l h => by simp at h⟩
theorem InRow.kept {base : Nat} {X Y : World} {v : Value} {ls : List (List Int)} (h : InRow base X v ls) (hs : ∀ k o, base ≤ k → X.heap[k]? = some o → Y.heap[k]? = some o) : InRow base Y v ls := by
  obtain ⟨us, h1, h2, h3⟩ := h
  exact ⟨us, h1, own_row_kept h2 (fun g cur hg hc => hs _ _ (h2.lt g hg).1 hc), fun j u l hu hl => own_row_kept (h3 j u l hu hl) (fun g cur hg hc => hs _ _ ((h3 j u l hu hl).lt g hg).1 hc)⟩
theorem InRow.liSl {base : Nat} {X : World} {v : Value} {ls : List (List Int)} (h : InRow base X v ls) : LiSl X v ls := by
  obtain ⟨us, h1, h2, h3⟩ := h
  have h2' := h2
  obtain ⟨k1, ⟨rfl, k2⟩ | ⟨g, cap, cur, rfl, k3, k4, k5, k6, k7, k8⟩⟩ := h2
  · obtain rfl : ls = [] := List.eq_nil_of_length_eq_zero k2
    exact ⟨none, 0, rfl, Nat.le_refl _, Nat.zero_le _, fun h => absurd h (Nat.lt_irrefl _)⟩
  · refine ⟨some ⟨g, 0, none⟩, cap, rfl, k5, k6, fun _ => ⟨g, 0, rfl, at_lt k4, fun j l hj => ?_⟩⟩
    have hjl := (List.getElem?_eq_some_iff.1 hj).1
    obtain ⟨u, hu⟩ : ∃ u, us[j]? = some u := ⟨_, List.getElem?_eq_getElem (by omega)⟩
    refine ⟨u, ?_, own_intSl (h3 j u l hu hj)⟩
    rw [Nat.zero_add]
    exact (h2'.cellAt j (by omega)).trans hu
theorem InRow.len {base : Nat} {X : World} {v : Value} {ls : List (List Int)} (h : InRow base X v ls) : ∃ A c, v = .slice A ls.length c := by
  obtain ⟨A, c, h1, -⟩ := h.liSl.shape
  exact ⟨A, c, h1⟩
/-- One more list: its row was made, then the outer row grew. -/
theorem InRow.step {base : Nat} {wr w7 w8 : World} {v u v' : Value} {ls : List (List Int)} {l : List Int} {us : List Value} {o : Obj} (hb : base ≤ wr.heap.size) (h1 : us.length = ls.length) (h2 : wr.ownsRow base 32 1 v ls.length us)
    (h3 : ∀ (j : Nat) (u : Value) (l : List Int), us[j]? = some u → ls[j]? = some l → wr.ownsRow base 3 1 u l.length (ints l))
    (hB : Below wr.heap.size wr w7) (hu : w7.ownsRow wr.heap.size 3 1 u l.length (ints l)) (hown : w8.ownsRow base 32 1 v' (ls.length + 1) (us ++ [u])) (hgrow : (w7.alloc o).grownBy w8 v.ownBlock) : InRow base w8 v' (ls ++ [l]) := by
  have old : ∀ (x : Value) (y : List Int), wr.ownsRow base 3 1 x y.length (ints y) → w8.ownsRow base 3 1 x y.length (ints y) := fun x y hx => by
    have g1 : w7.ownsRow base 3 1 x y.length (ints y) := own_row_kept hx (fun g cur hg hc => (hB.block g (hx.lt g hg).2).trans hc)
    have g2 : w7.ownsRow base 32 1 v ls.length us := own_row_kept h2 (fun g cur hg hc => (hB.block g (h2.lt g hg).2).trans hc)
    exact (g1.alloc o).kept hgrow (own_other g1 g2 (by decide))
  have g2 : w7.ownsRow base 32 1 v ls.length us := own_row_kept h2 (fun g cur hg hc => (hB.block g (h2.lt g hg).2).trans hc)
  refine ⟨us ++ [u], by simp [h1], by simpa using hown, fun j x y hx hy => ?_⟩
  rcases Nat.lt_or_ge j ls.length with hj | hj
  · rw [List.getElem?_append_left (by omega)] at hx hy
    exact old x y (h3 j x y hx hy)
  · have hjl := (List.getElem?_eq_some_iff.1 hy).1
    simp at hjl
    obtain rfl : j = ls.length := by omega
    rw [List.getElem?_append_right (by omega), h1] at hx
    rw [List.getElem?_append_right (by omega)] at hy
    simp at hx hy
    subst hx hy
    exact ((own_low hu hb).alloc o).kept hgrow (own_other hu g2 (by decide))
theorem in_below {base : Nat} {w1 wr w7 w8 : World} {o : Obj} {v : Value} {n : Nat} {us : List Value} (hX : Below w1.heap.size w1 wr) (hO : wr.ownsRow base 32 1 v n us) (hb : w1.heap.size ≤ base) (hB : Below wr.heap.size wr w7) (hg : (w7.alloc o).grownBy w8 v.ownBlock) : Below w1.heap.size w1 w8 := by
  have h1 := hX.size
  have h2 := hB.size
  refine ((below_join hX hB hX.size).alloc (by omega) _).grown hg (by rw [World.size_alloc]; omega) (fun k hk => Nat.le_trans hb (hO.lt k hk).1)
/-- The lists as own cuts them, and its number of ticks. -/
def cutL (l : List Int) : List Int := l.take (if 1000 < l.length then 1001 else 60)
def cutI (ins : List (List Int)) : List (List Int) := (ins.take 18).map cutL
def cutN (n : Int) : Int := if 100 < n ∧ n < 1000 then 100 else n
theorem cutL_len (l : List Int) : (cutL l).length ≤ 1001 := by unfold cutL; rw [List.length_take]; split <;> omega
theorem cutL_cut (l : List Int) : cutL (cutL l) = cutL l := by
  unfold cutL
  rw [List.take_take]
  congr 1
  rw [List.length_take]
  by_cases h : 1000 < l.length
  · rw [if_pos h, if_pos (by omega)]; omega
  · rw [if_neg h, if_neg (by omega)]; omega
theorem cutI_cut (ins : List (List Int)) : cutI (cutI ins) = cutI ins := by
  unfold cutI
  rw [← List.map_take, List.take_take, Nat.min_self, List.map_map]
  congr 1
  funext l
  exact cutL_cut l
theorem cutN_cut (n : Int) : cutN (cutN n) = cutN n := by unfold cutN; split <;> rfl
theorem cutI_snoc {ins : List (List Int)} {k : Nat} {l : List Int} (h : ins[k]? = some l) (hk : k < 18) : cutI (ins.take (k + 1)) = cutI (ins.take k) ++ [cutL l] := by
  unfold cutI
  rw [List.take_take, List.take_take, Nat.min_eq_right (by omega), Nat.min_eq_right (by omega), List.take_add_one, h, List.map_append]
  rfl
theorem cutI_len {ins : List (List Int)} {k : Nat} (hk : k ≤ 18) (hl : k ≤ ins.length) : (cutI (ins.take k)).length = k := by
  unfold cutI
  rw [List.length_map, List.length_take, List.length_take]; omega
theorem cellsP_len (l : List (Int × Int × Int)) : (cellsP l).length = l.length * 3 := by
  induction l with
  | nil => rfl
  | cons p l ih => show ([_, _, _] ++ cellsP l).length = _; rw [List.length_append, ih]; simp; omega
theorem pt_cells {w W : World} {A : Option Addr} {n c k : Nat} {l : List (Int × Int × Int)} (h : PtSl w (.slice A n c) l) (hb : Below w.heap.size w W) (ad : Addr) (hA : A = some ad) (j : Nat) (u : Value) (hj : (cellsP (l.take k))[j]? = some u) : W.cell? (ad.add j) = some u := by
  obtain ⟨B, d, h1, h2, h3, h4⟩ := h
  injection h1 with e1 e2 e3
  subst e1 hA
  have hlt := (List.getElem?_eq_some_iff.1 hj).1
  have hcl : (cellsP (l.take k)).length = (l.take k).length * 3 := cellsP_len _
  rw [hcl, List.length_take] at hlt
  obtain ⟨b, o, h5, h6, h7⟩ := h4 (by omega)
  injection h5 with h5
  subst h5
  obtain ⟨q, hq⟩ : ∃ q, q = j / 3 := ⟨_, rfl⟩
  obtain ⟨p, hp⟩ : ∃ p, l[q]? = some p := ⟨_, List.getElem?_eq_getElem (by omega)⟩
  obtain ⟨c1, c2, c3⟩ := h7 q p hp
  have e : (⟨b, o, none⟩ : Addr).add j = ⟨b, o + j, none⟩ := by unfold Addr.add; split <;> simp_all
  rw [e]
  have hp2 : (l.take k)[q]? = some p := by rw [List.getElem?_take_of_lt (by omega)]; exact hp
  obtain ⟨d1, d2, d3⟩ := cellsP_get _ _ _ hp2
  have hm : j = q * 3 ∨ j = q * 3 + 1 ∨ j = q * 3 + 2 := by omega
  rcases hm with rfl | rfl | rfl
  · rw [d1] at hj; cases hj
    exact (hb.cell (p := ⟨b, o + q * 3, none⟩) h6).trans c1
  · rw [d2] at hj; cases hj
    exact (hb.cell (p := ⟨b, o + q * 3 + 1, none⟩) h6).trans c2
  · rw [d3] at hj; cases hj
    exact (hb.cell (p := ⟨b, o + q * 3 + 2, none⟩) h6).trans c3
set_option maxHeartbeats 4000000 in
/-- A struct of seven fields, given back from its cell. -/
theorem ret7 {fn : Func} {a : Act} {W : World} {R : Ending → World → Prop} {b i : Nat} {x0 x1 x2 x3 x4 x5 x6 : Value} (hfn : fn.results = #[.cell i 27]) (hp : a.tmps[i]?.getD undef = .pointer (some ⟨b, 0, none⟩)) (hd : a.defers = [])
    (h : W.heap[b]? = some (.cells #[x0, x1, x2, x3, x4, x5, x6] 27 (0, 0))) (hR : R (.returned (.agg #[x0, x1, x2, x3, x4, x5, x6])) W) : bodyPost Try.prog fn R .ret a W := by
  obtain ⟨c0, c1, c2, c3, c4, c5, c6⟩ := args_cells h
  exact bodyPost_ret (v := .agg #[x0, x1, x2, x3, x4, x5, x6]) (by simp [results, hfn, hp, go_sem, c0, c1, c2, c3, c4, c5, c6]) hd hR
theorem row_store7 {W : World} {b : Nat} {y0 y1 y2 y3 y4 y5 y6 : Value} {T : TypeId} (h : W.heap[b]? = some (.cells #[y0, y1, y2, y3, y4, y5, y6] T (0, 0))) (x0 x1 x2 x3 x4 x5 x6 : Value) :
    (((((((W.setCell ⟨b, 0, none⟩ x0).setCell ⟨b, 1, none⟩ x1).setCell ⟨b, 2, none⟩ x2).setCell ⟨b, 3, none⟩ x3).setCell ⟨b, 4, none⟩ x4).setCell ⟨b, 5, none⟩ x5).setCell ⟨b, 6, none⟩ x6).heap[b]? = some (.cells #[x0, x1, x2, x3, x4, x5, x6] T (0, 0)) := by
  have h1 : (W.setCell ⟨b, 0, none⟩ x0).heap[b]? = some (.cells #[x0, y1, y2, y3, y4, y5, y6] T (0, 0)) := set_field h x0
  have h2 : ((W.setCell ⟨b, 0, none⟩ x0).setCell ⟨b, 1, none⟩ x1).heap[b]? = some (.cells #[x0, x1, y2, y3, y4, y5, y6] T (0, 0)) := set_field h1 x1
  have h3 : (((W.setCell ⟨b, 0, none⟩ x0).setCell ⟨b, 1, none⟩ x1).setCell ⟨b, 2, none⟩ x2).heap[b]? = some (.cells #[x0, x1, x2, y3, y4, y5, y6] T (0, 0)) := set_field h2 x2
  have h4 : ((((W.setCell ⟨b, 0, none⟩ x0).setCell ⟨b, 1, none⟩ x1).setCell ⟨b, 2, none⟩ x2).setCell ⟨b, 3, none⟩ x3).heap[b]? = some (.cells #[x0, x1, x2, x3, y4, y5, y6] T (0, 0)) := set_field h3 x3
  have h5 : (((((W.setCell ⟨b, 0, none⟩ x0).setCell ⟨b, 1, none⟩ x1).setCell ⟨b, 2, none⟩ x2).setCell ⟨b, 3, none⟩ x3).setCell ⟨b, 4, none⟩ x4).heap[b]? = some (.cells #[x0, x1, x2, x3, x4, y5, y6] T (0, 0)) := set_field h4 x4
  have h6 : ((((((W.setCell ⟨b, 0, none⟩ x0).setCell ⟨b, 1, none⟩ x1).setCell ⟨b, 2, none⟩ x2).setCell ⟨b, 3, none⟩ x3).setCell ⟨b, 4, none⟩ x4).setCell ⟨b, 5, none⟩ x5).heap[b]? = some (.cells #[x0, x1, x2, x3, x4, x5, y6] T (0, 0)) := set_field h5 x5
  have h7 : (((((((W.setCell ⟨b, 0, none⟩ x0).setCell ⟨b, 1, none⟩ x1).setCell ⟨b, 2, none⟩ x2).setCell ⟨b, 3, none⟩ x3).setCell ⟨b, 4, none⟩ x4).setCell ⟨b, 5, none⟩ x5).setCell ⟨b, 6, none⟩ x6).heap[b]? = some (.cells #[x0, x1, x2, x3, x4, x5, x6] T (0, 0)) := set_field h6 x6
  exact h7
theorem frz7 {X : World} {b : Nat} {x0 x1 x2 x3 x4 x5 x6 : Value} (h : X.heap[b]? = some (.cells #[x0, x1, x2, x3, x4, x5, x6] 27 (0, 0))) :
    X.frozen? ⟨b, 0, none⟩ = false ∧ X.frozen? ⟨b, 1, none⟩ = false ∧ X.frozen? ⟨b, 2, none⟩ = false ∧ X.frozen? ⟨b, 3, none⟩ = false ∧ X.frozen? ⟨b, 4, none⟩ = false ∧ X.frozen? ⟨b, 5, none⟩ = false ∧ X.frozen? ⟨b, 6, none⟩ = false := by
  refine ⟨?_, ?_, ?_, ?_, ?_, ?_, ?_⟩ <;> simp [World.frozen?, h]
theorem ints_sl {w : World} {A : Option Addr} {n c k : Nat} {l : List Int} (h : IntSl w (.slice A n c) l) (hk : k ≤ n) : n = l.length ∧ IntSl w (.slice A k c) (l.take k) := by
  obtain ⟨B, d, h1, h2, h3, h5, h4⟩ := h
  injection h1 with e1 e2 e3
  subst e1 e2 e3
  have e : (l.take k).length = k := by rw [List.length_take]; omega
  refine ⟨rfl, A, c, by rw [e], by rw [e]; omega, h3, h5, fun h0 => ?_⟩
  rw [e] at h0
  obtain ⟨b, o, g1, g2, g3⟩ := h4 (by omega)
  refine ⟨b, o, g1, g2, fun j x hj => g3 j x ?_⟩
  have hjl := (List.getElem?_eq_some_iff.1 hj).1
  rw [e] at hjl
  rw [List.getElem?_take_of_lt hjl] at hj
  exact hj
end Go.Proofs.Ythghinkicaafmaa
