/-
  DERIVED. A slice of tokens that came in, and the walk of the law LexisPrints.
-/
import Derived.Test.YtlfjhechploioaaQ
import Derived.Test.YtlfjhechploioaaP
import Derived.Deep.Slices
import Derived.Deep.Fields
import Derived.ChangeSame
namespace Go.Proofs.Ytlfjhechploioaa
open Go.ChangeShapes Go.WideShapes Go.Deep Go.RowKit

section
variable {H : Type} {enc : TypeId × Value → H} {P : Program} {w : World} {base : Nat} {spare : Nat → Bool} {held : Bool}
/-- A slice of structs of one-cell fields, opened to its cells. -/
theorem open_fields {t e : TypeId} {fs : Array Field} {fuel : Nat} {cs : List Value} {x : DataW H × List MemPlace} (ht : P.underlying t = some (.slice e)) (he : P.underlying e = some (.struct fs))
    (hone : oneCellFields P fs = true) (hC : P.cellsOf e = fs.size) (h : DataW.trod enc P w base spare held fuel t cs = some x) :
    cs = [.slice none 0 0] ∨
    ∃ (a : Addr) (len cap : Nat), cs = [.slice (some a) len cap] ∧ len ≤ cap ∧ cap ≤ maxLen ∧
      ∀ i, i < len → ∀ (j : Nat) (f : Field), fs[j]? = some f → ∃ (n : Nat) (v : Value) (y : DataW H × List MemPlace), w.cell? (a.add (i * fs.size + j)) = some v ∧ DataW.trod enc P w base spare held n f.type [v] = some y := by
  rcases open_slice ht h with ⟨h0, _⟩ | ⟨a, len, cap, m, n, D, Pl, hcs, hb, hl, hm, hmm, hx, hi⟩
  · exact .inl h0
  · refine .inr ⟨a, len, cap, hcs, hl, hm, fun i him j f hj => ?_⟩
    have him' : i < m := by rw [hmm]; split <;> omega
    obtain ⟨cs', hc, ht'⟩ := hi i him'
    rw [hC] at hc
    obtain ⟨ys, n', hn', hy, hlen, hyl, hf⟩ := DataW.trod_struct he ht'
    obtain ⟨_, hcl, hat⟩ := World.cells?_some hc
    obtain ⟨ho, hk⟩ := hone_of hone j f hj
    have hjl : j < fs.size := (Array.getElem?_eq_some_iff.1 hj).1
    have hcell := hat j hjl
    have h1 := hf j f hj
    rw [ho, hk] at h1
    have hone' : (cs'.drop j).take 1 = [cs'[j]'(by omega)] := by
      rw [List.drop_eq_getElem_cons (by omega)]
      rfl
    rw [hone'] at h1
    have hys : ys[j]? = some (ys[j]'(by omega)) := List.getElem?_eq_getElem (by omega)
    refine ⟨_, cs'[j]'(by omega), _, ?_, h1.trans hys⟩
    rw [← Go.Deep.add_add, hcell, List.getElem?_eq_getElem (by omega)]
end

theorem tokCells_of (l : List Tok) (j : Nat) (u : Value) (h : (tokCells l)[j]? = some u) : ∃ t, l[j / 4]? = some t ∧ (Tok.cells t)[j % 4]? = some u := by
  have hlt : j < (tokCells l).length := (List.getElem?_eq_some_iff.1 h).1
  rw [tokCells_len] at hlt
  have hi : j / 4 < l.length := by omega
  have hg : l[j / 4]? = some l[j / 4] := List.getElem?_eq_getElem hi
  refine ⟨_, hg, ?_⟩
  rw [← tokCells_at l (j / 4) (j % 4) _ hg (by omega), show j / 4 * 4 + j % 4 = j from by omega]
  exact h

theorem cell_lt {w : World} {b o : Nat} {v : Value} (h : w.cell? ⟨b, o, none⟩ = some v) : b < w.heap.size := by
  unfold World.cell? at h
  cases hb : w.heap[b]? with
  | none => simp [hb] at h
  | some ob => exact (Array.getElem?_eq_some_iff.1 hb).1

/-- What came in as a slice of tokens reads as some tokens. -/
theorem open_toks {H : Type} {enc : TypeId × Value → H} {W : World} {base : Nat} {spare : Nat → Bool} {held : Bool} {fuel : Nat} {A : Option Addr} {len cap : Nat} {x : DataW H × List MemPlace}
    (h : DataW.trod enc Try.prog W base spare held fuel 22 [.slice A len cap] = some x) :
    ∃ l, TokSl W W.heap.size (.slice A len cap) l ∧ ∀ t ∈ l, t.text.size ≤ maxLen := by
  rcases open_fields Try.underlying22 Try.underlying34 (by kernel_rfl) (by kernel_rfl) h with hcs | ⟨a, len', cap', hcs, hl, hm, hf⟩
  · simp at hcs
    obtain ⟨rfl, rfl, rfl⟩ := hcs
    exact ⟨[], TokSl.nil _ _, by simp⟩
  · simp at hcs
    obtain ⟨rfl, rfl, rfl⟩ := hcs
    have ht : ∀ i, i < len → ∃ t : Tok, t.text.size ≤ maxLen ∧ ∀ f u, (Tok.cells t)[f]? = some u → W.cell? (a.add (i * 4 + f)) = some u := by
      intro i hi
      obtain ⟨n0, v0, y0, c0, k0⟩ := hf i hi 0 _ rfl
      obtain ⟨n1, v1, y1, c1, k1⟩ := hf i hi 1 _ rfl
      obtain ⟨n2, v2, y2, c2, k2⟩ := hf i hi 2 _ rfl
      obtain ⟨n3, v3, y3, c3, k3⟩ := hf i hi 3 _ rfl
      obtain ⟨kd, e0, -, -⟩ := DataW.trod_int Try.underlying32 k0
      obtain ⟨tx, e1, -, hs⟩ := DataW.trod_string Try.underlying9 k1
      obtain ⟨nm, e2, -, -⟩ := DataW.trod_int Try.underlying3 k2
      obtain ⟨of, e3, -, -⟩ := DataW.trod_int Try.underlying3 k3
      simp at e0 e1 e2 e3
      subst e0 e1 e2 e3
      refine ⟨⟨kd, tx, nm, of⟩, hs, fun f u hu => ?_⟩
      match f, hu with
      | 0, hu => simp [Tok.cells] at hu; subst hu; exact c0
      | 1, hu => simp [Tok.cells] at hu; subst hu; exact c1
      | 2, hu => simp [Tok.cells] at hu; subst hu; exact c2
      | 3, hu => simp [Tok.cells] at hu; subst hu; exact c3
      | f + 4, hu => simp [Tok.cells] at hu
    obtain ⟨F, hF⟩ : ∃ F : Nat → Tok, ∀ i, i < len → (F i).text.size ≤ maxLen ∧ ∀ f u, (Tok.cells (F i))[f]? = some u → W.cell? (a.add (i * 4 + f)) = some u :=
      ⟨fun i => if hi : i < len then Classical.choose (ht i hi) else .zero, fun i hi => by simp only [dif_pos hi]; exact Classical.choose_spec (ht i hi)⟩
    refine ⟨(List.range len).map F, ⟨some a, cap, by simp, by simpa using hl, hm, fun h0 => ?_⟩, ?_⟩
    · obtain ⟨b, off, spot⟩ := a
      have hc0 := (hF 0 (by simpa using h0)).2 0 _ rfl
      have hsp : spot = none := by simpa [Addr.add] using World.cell?_spot hc0
      subst hsp
      have hadd : ∀ j, (⟨b, off, none⟩ : Addr).add j = ⟨b, off + j, none⟩ := fun j => by unfold Addr.add; split <;> simp_all
      rw [hadd] at hc0
      refine ⟨b, off, rfl, cell_lt hc0, fun j u hj => ?_⟩
      obtain ⟨t, h1, h2⟩ := tokCells_of _ j u hj
      have hi : j / 4 < len := by have := (List.getElem?_eq_some_iff.1 h1).1; simpa using this
      have he : t = F (j / 4) := by
        rw [List.getElem?_map, List.getElem?_range hi] at h1
        injection h1 with h1; exact h1.symm
      subst he
      have := (hF (j / 4) hi).2 (j % 4) u h2
      rw [hadd, show j / 4 * 4 + j % 4 = j from by omega] at this
      exact this
    · intro t ht'
      obtain ⟨i, hi, rfl⟩ := List.mem_map.1 ht'
      exact (hF i (List.mem_range.1 hi)).1

theorem TokSl.take {w : World} {B : Nat} {A : Option Addr} {n c : Nat} {l : List Tok} (h : TokSl w B (.slice A n c) l) (k : Nat) (hk : k ≤ n) : TokSl w B (.slice A k c) (l.take k) := by
  obtain ⟨A', c', h1, h2, h3, h4⟩ := h
  simp only [Value.slice.injEq] at h1
  obtain ⟨rfl, rfl, rfl⟩ := h1
  have hlen : (l.take k).length = k := by rw [List.length_take]; omega
  refine ⟨A, c, by rw [hlen], by omega, h3, fun h0 => ?_⟩
  obtain ⟨b, o, e, hb, hc⟩ := h4 (by omega)
  refine ⟨b, o, e, hb, fun j u hj => hc j u ?_⟩
  obtain ⟨t, g1, g2⟩ := tokCells_of _ j u hj
  have hi : j / 4 < k := by have := (List.getElem?_eq_some_iff.1 g1).1; omega
  rw [List.getElem?_take_of_lt hi] at g1
  have := tokCells_at l (j / 4) (j % 4) t g1 (by omega)
  rw [show j / 4 * 4 + j % 4 = j from by omega] at this
  exact this.trans g2

set_option maxHeartbeats 1000000 in
theorem w_LexisPrints (A : Option Addr) (n c : Nat) (l : List Tok) (w : World) (hv : TokSl w w.heap.size (.slice A n c) l) (hz : ∀ t ∈ l, t.text.size ≤ maxLen) :
    Calls Try.prog 4 #[.slice A n c] w fun e w' => e = .returned (.bool true) ∧ Below w.heap.size w w' := by
  obtain ⟨A', c', h1, h2, h3, -⟩ := id hv
  simp only [Value.slice.injEq] at h1
  obtain ⟨rfl, rfl, rfl⟩ := h1
  obtain ⟨m, hm1, hm2, hmin⟩ : ∃ m : Nat, m ≤ l.length ∧ m ≤ 5000 ∧ min (l.length : Int) 5000 = (m : Int) := ⟨min l.length 5000, by omega, by omega, by omega⟩
  have ht := TokSl.take hv m hm1
  have hl5 : (l.take m).length ≤ 5000 := by rw [List.length_take]; omega
  have hz5 : ∀ t ∈ l.take m, t.text.size ≤ maxLen := fun t h => hz t (List.mem_of_mem_take h)
  unfold maxLen at h3
  have H1 := Lib.hid (fun v w => c_Print v (l.take m) hl5 hz5 w)
  have H2 := Lib.hid (fun v w => r_Print v (l.take m) hl5 hz5 w)
  generalize printOf (l.take m) = r at H1 H2
  obtain ⟨S, er⟩ := r
  dsimp only at H1 H2
  have Ht := Lib.hid ht
  clear ht hv hz hl5 hz5
  go_enter Try.func4, Try.ntmps4
  go_wp2_with (first | (go_at_call 14; refine (H1.out _ _ Ht.out).mono ?_; rintro e w1 ⟨rfl, hb1⟩) | (go_at_call 15; refine (H2.out _ _ ((Ht.out.below hb1 (Nat.le_refl _)).more hb1.size)).mono ?_; rintro e w2 ⟨rfl, hb2⟩) | (go_at_call 13; refine (l_awake _).mono ?_; rintro e w4 ⟨rfl, hb4⟩))
  go_ret
  have z1 := hb1.size
  have z2 := hb2.size
  exact ⟨rfl, hb1.trans ((hb2.mono z1).trans (hb4.mono (by omega)))⟩
end Go.Proofs.Ytlfjhechploioaa
