/-
  DERIVED. Several texts in one.
-/
import Derived.Test.YtplnnpkohdmiaaaGreatDoorYMm
import Derived.Deep.Slices
import Derived.Deep.Fields
import Derived.ChangeSame
import Derived.SizedLaws
import Derived.Test.YtplnnpkohdmiaaaGreatDoorYFDm
import Derived.Test.YtplnnpkohdmiaaaGreatDoorYQKm
import Derived.Test.YtplnnpkohdmiaaaGreatDoorYYGm
import Derived.Lib.LaidTab
import Derived.Test.YtplnnpkohdmiaaaGreatDoorRows
import Derived.LaidMore
set_option linter.unusedVariables false
set_option linter.unusedSimpArgs false

/- DERIVED. A slice of clauses that came in, opened to a tree. -/
namespace Go.Proofs.YtplnnpkohdmiaaaGreatDoor
open Go.ChangeShapes Go.WideShapes Go.Deep Go.RowKit

section
variable {H : Type} {enc : TypeId × Value → H} {P : Program} {w : World} {base : Nat} {spare : Nat → Bool} {held : Bool}
theorem weightsAll_mem {e : TypeId} : ∀ {l : List (DataW H)} {d : DataW H}, d ∈ l → ∀ n ∈ d.weights P e, n ∈ DataW.weightsAll P e l
  | [], _, h, _, _ => by cases h
  | a :: l, d, h, n, hn => by
    simp only [DataW.weightsAll, List.mem_append]
    rcases List.mem_cons.1 h with rfl | h
    · exact .inl hn
    · exact .inr (weightsAll_mem h n hn)
/-- A slice of structs of one-cell fields, opened to its cells, each at less fuel. -/
theorem open_fields_lt {t e : TypeId} {fs : Array Field} {fuel : Nat} {cs : List Value} {x : DataW H × List MemPlace} (ht : P.underlying t = some (.slice e)) (he : P.underlying e = some (.struct fs))
    (hone : oneCellFields P fs = true) (hC : P.cellsOf e = fs.size) (h : DataW.trod enc P w base spare held fuel t cs = some x) (hw : ∀ n ∈ x.1.weights P t, n ≤ reachBytes) :
    cs = [.slice none 0 0] ∨
    ∃ (a : Addr) (len cap : Nat), cs = [.slice (some a) len cap] ∧ len ≤ cap ∧ cap ≤ maxLen ∧
      ∀ i, i < len → ∀ (j : Nat) (f : Field), fs[j]? = some f → ∃ (n : Nat) (v : Value) (y : DataW H × List MemPlace), n < fuel ∧ w.cell? (a.add (i * fs.size + j)) = some v ∧ DataW.trod enc P w base spare held n f.type [v] = some y ∧ ∀ n ∈ y.1.weights P f.type, n ≤ reachBytes := by
  rcases DataW.trod_slice ht h with ⟨h0, _⟩ | ⟨a, len, cap, elems, rest, n, hfu, hcs, hx, hb, hl, hm, hlen, hel, -, -⟩
  · exact .inl h0
  · refine .inr ⟨a, len, cap, hcs, hl, hm, fun i hi j f hj => ?_⟩
    have h0 := hel i hi
    rw [List.getElem?_eq_getElem (by omega)] at h0
    obtain ⟨cs', hc, ht'⟩ := Option.bind_eq_some_iff.1 h0
    rw [hC] at hc
    obtain ⟨ys, n', hn', hy, hlen', hyl, hf⟩ := DataW.trod_struct he ht'
    have hmem : (elems[i]'(by omega)).1 ∈ elems.map (·.1) := List.mem_map_of_mem (List.getElem_mem _)
    have hwx : ∀ n ∈ (elems[i]'(by omega)).1.weights P e, n ≤ reachBytes := fun m hmm => hw m (by
      subst hx
      simp only [DataW.weights, ht, List.mem_cons, List.mem_append]
      exact .inr (.inl (weightsAll_mem hmem m hmm)))
    obtain ⟨_, hcl, hat⟩ := World.cells?_some hc
    obtain ⟨ho, hk⟩ := hone_of hone j f hj
    have hjl : j < fs.size := (Array.getElem?_eq_some_iff.1 hj).1
    have hcell := hat j hjl
    have h1 := hf j f hj
    rw [ho, hk] at h1
    have hone' : (cs'.drop j).take 1 = [cs'[j]'(by omega)] := by
      rw [List.drop_eq_getElem_cons (by omega)]
      rfl
    rw [hone'] at h1
    have hys : ys[j]? = some (ys[j]'(by omega)) := List.getElem?_eq_getElem (by omega)
    refine ⟨n', cs'[j]'(by omega), _, by omega, ?_, h1.trans hys, ?_⟩
    rotate_left
    · intro m hmm
      refine hwx m ?_
      have hy' : (elems[i]'(by omega)).1 = .agg (ys.map (·.1)) := by rw [hy]
      rw [hy']
      simp only [DataW.weights, he]
      exact DataW.weights_mem_each (j := j) (t := f.type) (d := (ys[j]'(by omega)).1) (by simp [hj]) (by simp [hys]) m hmm
    rw [← Go.Deep.add_add, hcell, List.getElem?_eq_getElem (by omega)]
end

mutual
/-- The fields of a clause are what a value of its type can have. -/
def Cl.fit : Cl → Prop
  | .mk k ns d i a b its o => ((0 ≤ k ∧ k ≤ 255) ∧ (0 ≤ d ∧ d ≤ 255)) ∧ ((-9223372036854775808 ≤ i ∧ i ≤ 9223372036854775807) ∧ (-9223372036854775808 ≤ a ∧ a ≤ 9223372036854775807) ∧ (-9223372036854775808 ≤ b ∧ b ≤ 9223372036854775807) ∧ (-9223372036854775808 ≤ o ∧ o ≤ 9223372036854775807)) ∧ ((∀ s ∈ ns, s.size ≤ maxLen) ∧ ns.length * 16 ≤ reachBytes) ∧ fits its
def fits : List Cl → Prop
  | [] => True
  | c :: l => c.fit ∧ fits l
end
theorem fits_mem : ∀ {l : List Cl}, fits l → ∀ c ∈ l, c.fit
  | [], _, _, h => by cases h
  | c :: l, h, x, hx => by
    simp only [fits] at h
    rcases List.mem_cons.1 hx with rfl | hx
    · exact h.1
    · exact fits_mem h.2 x hx
theorem fits_of_mem : ∀ {l : List Cl}, (∀ c ∈ l, c.fit) → fits l
  | [], _ => by simp only [fits]
  | c :: l, h => by
    simp only [fits]
    exact ⟨h c (by simp), fits_of_mem fun x hx => h x (by simp [hx])⟩
theorem reps_of {w : World} {ok : Nat → Prop} : ∀ (l : List Cl) (b o : Nat), (∀ i (hi : i < l.length), ∃ us, Cl.agg w ok l[i] us ∧ ∀ j u, us[j]? = some u → w.cell? ⟨b, o + i * 8 + j, none⟩ = some u) → reps w ok l b o
  | [], _, _, _ => by simp only [reps]
  | c :: l, b, o, h => by
    simp only [reps]
    refine ⟨?_, reps_of l b (o + 8) fun i hi => ?_⟩
    · obtain ⟨us, h1, h2⟩ := h 0 (by simp)
      exact ⟨us, by simpa using h1, by simpa using h2⟩
    · obtain ⟨us, h1, h2⟩ := h (i + 1) (by simpa using hi)
      refine ⟨us, by simpa using h1, fun j u hj => ?_⟩
      have := h2 j u hj
      rwa [show o + (i + 1) * 8 + j = o + 8 + i * 8 + j by omega] at this
theorem cell_lt2 {w : World} {b o : Nat} {v : Value} (h : w.cell? ⟨b, o, none⟩ = some v) : b < w.heap.size := by
  unfold World.cell? at h
  cases hb : w.heap[b]? with
  | none => simp [hb] at h
  | some ob => exact (Array.getElem?_eq_some_iff.1 hb).1
theorem add_no (b off : Nat) (j : Nat) : (⟨b, off, none⟩ : Addr).add j = ⟨b, off + j, none⟩ := by unfold Addr.add; split <;> simp_all

/-- What came in as a slice of strings reads as some strings. -/
theorem open_strs {H : Type} {enc : TypeId × Value → H} {W : World} {base : Nat} {spare : Nat → Bool} {held : Bool} {fuel : Nat} {v : Value} {x : DataW H × List MemPlace}
    (h : DataW.trod enc Tryz.prog W base spare held fuel 33 [v] = some x) (hw : ∀ n ∈ x.1.weights Tryz.prog 33, n ≤ reachBytes) : ∃ l, StrSl W (fun b => b < W.heap.size) v l ∧ (∀ s ∈ l, s.size ≤ maxLen) ∧ l.length * 16 ≤ reachBytes := by
  have hlen : ∀ len, (∃ a cap, [v] = [Value.slice (some a) len cap]) → len * 16 ≤ reachBytes := by
    rintro len ⟨a, cap, hv⟩
    rcases DataW.trod_slice Tryz.underlying33 h with ⟨h0, _⟩ | ⟨a', len', cap', elems, rest, n, hfu, hcs, hx, hb, hl, hm, hlen, -⟩
    · rw [hv] at h0; simp at h0
    · rw [hv] at hcs
      simp at hcs
      obtain ⟨-, rfl, -⟩ := hcs
      have := hw ((elems.length + rest.length) * Tryz.prog.bytesOf 9) (by subst hx; simp [DataW.weights, Tryz.underlying33])
      have hb16 : Tryz.prog.bytesOf 9 = 16 := by kernel_rfl
      rw [hb16] at this
      have : len * 16 ≤ (elems.length + rest.length) * 16 := Nat.mul_le_mul_right _ (by omega)
      omega
  rcases open_slice1 Tryz.underlying33 (by kernel_rfl) h with ⟨h0, -⟩ | ⟨a, len, cap, m, n, V, D, Pl, hcs, hb, hl, hm, hmm, -, hx⟩
  · simp at h0
    subst h0
    exact ⟨[], StrSl.nil _ _, by simp, by simp⟩
  · simp at hcs
    subst hcs
    have hlen := hlen len ⟨a, cap, rfl⟩
    have ht : ∀ i, i < len → ∃ s : ByteArray, s.size ≤ maxLen ∧ W.cell? (a.add i) = some (.string s) := by
      intro i hi
      obtain ⟨c0, k0⟩ := hx i (by rw [hmm]; split <;> omega)
      obtain ⟨tx, e1, -, hs⟩ := DataW.trod_string Tryz.underlying9 k0
      simp at e1
      exact ⟨tx, hs, by rw [c0, e1]⟩
    obtain ⟨F, hF⟩ : ∃ F : Nat → ByteArray, ∀ i, i < len → (F i).size ≤ maxLen ∧ W.cell? (a.add i) = some (.string (F i)) :=
      ⟨fun i => if hi : i < len then Classical.choose (ht i hi) else .empty, fun i hi => by simp only [dif_pos hi]; exact Classical.choose_spec (ht i hi)⟩
    refine ⟨(List.range len).map F, ⟨some a, cap, by simp, by simpa using hl, hm, fun h0 => ?_⟩, ?_, by simpa using hlen⟩
    · obtain ⟨b, off, spot⟩ := a
      have hc0 := (hF 0 (by simpa using h0)).2
      have hsp : spot = none := by simpa [Addr.add] using World.cell?_spot hc0
      subst hsp
      rw [add_no] at hc0
      refine ⟨b, off, rfl, cell_lt2 hc0, fun j s hj => ?_⟩
      rw [List.getElem?_map] at hj
      by_cases hjl : j < len
      · rw [List.getElem?_range hjl] at hj
        injection hj with hj
        subst hj
        have := (hF j hjl).2
        rwa [add_no] at this
      · rw [List.getElem?_eq_none (by simpa using hjl)] at hj
        cases hj
    · intro s hs
      obtain ⟨i, hi, rfl⟩ := List.mem_map.1 hs
      exact (hF i (List.mem_range.1 hi)).1

/-- What came in as a slice of clauses reads as a tree. -/
theorem open_cls {H : Type} {enc : TypeId × Value → H} {W : World} {base : Nat} {spare : Nat → Bool} {held : Bool} : ∀ (fu fuel : Nat), fuel ≤ fu → ∀ {v : Value} {x : DataW H × List MemPlace},
    DataW.trod enc Tryz.prog W base spare held fuel 22 [v] = some x → (∀ n ∈ x.1.weights Tryz.prog 22, n ≤ reachBytes) → ∃ l, ClSl W (fun b => b < W.heap.size) v l ∧ fits l := by
  intro fu
  induction fu with
  | zero =>
    intro fuel hfu v x h hw
    obtain rfl : fuel = 0 := by omega
    simp [DataW.trod] at h
  | succ fu ih =>
    intro fuel hfu v x h hw
    rcases open_fields_lt Tryz.underlying22 Tryz.underlying36 (by kernel_rfl) (by kernel_rfl) h hw with hcs | ⟨a, len, cap, hcs, hl, hm, hf⟩
    · simp at hcs
      subst hcs
      exact ⟨[], ClSl.nil _ _, by simp only [fits]⟩
    · simp at hcs
      subst hcs
      have ht : ∀ i, i < len → ∃ c : Cl, c.fit ∧ ∃ us, Cl.agg W (fun b => b < W.heap.size) c us ∧ us ≠ [] ∧ ∀ j u, us[j]? = some u → W.cell? (a.add (i * 8 + j)) = some u := by
        intro i hi
        obtain ⟨n0, v0, y0, l0, c0, k0, g0⟩ := hf i hi 0 _ rfl
        obtain ⟨n1, v1, y1, l1, c1, k1, g1⟩ := hf i hi 1 _ rfl
        obtain ⟨n2, v2, y2, l2, c2, k2, g2⟩ := hf i hi 2 _ rfl
        obtain ⟨n3, v3, y3, l3, c3, k3, g3⟩ := hf i hi 3 _ rfl
        obtain ⟨n4, v4, y4, l4, c4, k4, g4⟩ := hf i hi 4 _ rfl
        obtain ⟨n5, v5, y5, l5, c5, k5, g5⟩ := hf i hi 5 _ rfl
        obtain ⟨n6, v6, y6, l6, c6, k6, g6⟩ := hf i hi 6 _ rfl
        obtain ⟨n7, v7, y7, l7, c7, k7, g7⟩ := hf i hi 7 _ rfl
        obtain ⟨kd, e0, -, w0⟩ := DataW.trod_int Tryz.underlying32 k0
        obtain ⟨ns, s1, z1⟩ := open_strs k1 g1
        obtain ⟨dm, e2, -, w2⟩ := DataW.trod_int Tryz.underlying34 k2
        obtain ⟨ix, e3, -, w3⟩ := DataW.trod_int Tryz.underlying3 k3
        obtain ⟨xa, e4, -, w4⟩ := DataW.trod_int Tryz.underlying3 k4
        obtain ⟨xb, e5, -, w5⟩ := DataW.trod_int Tryz.underlying3 k5
        obtain ⟨its, s6, z6⟩ := ih n6 (by omega) k6 g6
        obtain ⟨of, e7, -, w7⟩ := DataW.trod_int Tryz.underlying3 k7
        simp at e0 e2 e3 e4 e5 e7
        subst e0 e2 e3 e4 e5 e7
        refine ⟨.mk kd ns dm ix xa xb its of, ?_, [.int .u8 kd, v1, .int .u8 dm, .int .i64 ix, .int .i64 xa, .int .i64 xb, v6, .int .i64 of], (Cl.agg_iff _ _ _ _).2 ⟨v1, v6, rfl, s1, s6⟩, by simp, fun j u hj => ?_⟩
        · simp only [Cl.fit]
          simp [Lit.wf, go_sem] at w0 w2 w3 w4 w5 w7
          have m1 : IntKind.u8.min = 0 := by kernel_rfl
          have m2 : IntKind.u8.max = 255 := by kernel_rfl
          have m3 : IntKind.i64.min = -9223372036854775808 := by kernel_rfl
          have m4 : IntKind.i64.max = 9223372036854775807 := by kernel_rfl
          exact ⟨⟨by omega, by omega⟩, ⟨by omega, by omega, by omega, by omega⟩, z1, z6⟩
        · match j, hj with
          | 0, hj => simp at hj; subst hj; exact c0
          | 1, hj => simp at hj; subst hj; exact c1
          | 2, hj => simp at hj; subst hj; exact c2
          | 3, hj => simp at hj; subst hj; exact c3
          | 4, hj => simp at hj; subst hj; exact c4
          | 5, hj => simp at hj; subst hj; exact c5
          | 6, hj => simp at hj; subst hj; exact c6
          | 7, hj => simp at hj; subst hj; exact c7
          | j + 8, hj => simp at hj
      obtain ⟨F, hF⟩ : ∃ F : Nat → Cl, ∀ i, i < len → (F i).fit ∧ ∃ us, Cl.agg W (fun b => b < W.heap.size) (F i) us ∧ us ≠ [] ∧ ∀ j u, us[j]? = some u → W.cell? (a.add (i * 8 + j)) = some u :=
        ⟨fun i => if hi : i < len then Classical.choose (ht i hi) else .mk 0 [] 0 0 0 0 [] 0, fun i hi => by simp only [dif_pos hi]; exact Classical.choose_spec (ht i hi)⟩
      refine ⟨(List.range len).map F, ⟨some a, cap, by simp, by simpa using hl, hm, fun h0 => ?_⟩, ?_⟩
      · obtain ⟨b, off, spot⟩ := a
        obtain ⟨us, -, hne, hc⟩ := (hF 0 (by simpa using h0)).2
        have hc0 := hc 0 (us[0]'(List.length_pos_iff.2 hne)) (List.getElem?_eq_getElem _)
        have hsp : spot = none := by simpa [Addr.add] using World.cell?_spot hc0
        subst hsp
        rw [add_no] at hc0
        refine ⟨b, off, rfl, cell_lt2 hc0, reps_of _ _ _ fun i hi => ?_⟩
        have hil : i < len := by simpa using hi
        obtain ⟨us, h1, -, h2⟩ := (hF i hil).2
        refine ⟨us, by simpa using h1, fun j u hj => ?_⟩
        have := h2 j u hj
        rw [add_no] at this
        rwa [show off + i * 8 + j = off + (i * 8 + j) by omega]
      · refine fits_of_mem fun c hc => ?_
        obtain ⟨i, hi, rfl⟩ := List.mem_map.1 hc
        exact (hF i (List.mem_range.1 hi)).1
end Go.Proofs.YtplnnpkohdmiaaaGreatDoor

/- DERIVED. Plain: the reference's weight of a tree, and what it says of a well-formed one. -/
namespace Go.Proofs.YtplnnpkohdmiaaaGreatDoor
open Go.RowKit

mutual
/-- The weight of the items of a clause, as the reference counts it up to a limit, with the int's wraps. -/
def Cl.wt (lim : Int) : Cl → Int
  | .mk _ _ _ _ _ _ its _ => wts lim its 0
def wts (lim : Int) : List Cl → Int → Int
  | [], n => n
  | c :: l, n => if n ≤ lim then wts lim l (IntKind.i64.wrap (IntKind.i64.wrap (IntKind.i64.wrap (n + 1) + c.names.length) + c.wt lim)) else n
end
theorem Cl.wt_eq (lim : Int) (c : Cl) : c.wt lim = wts lim c.items 0 := by cases c; simp only [Cl.wt, Cl.items]
theorem wts_drop (lim : Int) (l : List Cl) (k : Nat) (hk : k < l.length) (n : Int) :
    wts lim (l.drop k) n = if n ≤ lim then wts lim (l.drop (k + 1)) (IntKind.i64.wrap (IntKind.i64.wrap (IntKind.i64.wrap (n + 1) + l[k].names.length) + wts lim l[k].items 0)) else n := by
  rw [List.drop_eq_getElem_cons hk, wts, Cl.wt_eq]
theorem w64 {x : Int} (h : -9223372036854775808 ≤ x) (h' : x ≤ 9223372036854775807) : IntKind.i64.wrap x = x := IntWalk.i64_in _ ⟨h, h'⟩

/-- The names of items. -/
def nms (l : List Cl) : Nat := (l.map fun c => 1 + c.names.length).sum
theorem fit_nms {c : Cl} (h : c.fit) : c.names.length ≤ 8796093022207 ∧ fits c.items := by
  cases c
  simp only [Cl.fit, Cl.names, Cl.items, reachBytes] at h ⊢
  exact ⟨by omega, h.2.2.2⟩
theorem wts_items : ∀ (l : List Cl) (n : Int), fits l → (∀ c ∈ l, c.items = []) → 0 ≤ n → n ≤ 9223000000000000000 → 0 ≤ wts 2000 l n ∧ wts 2000 l n ≤ max n 8796093024300 ∧ (wts 2000 l n ≤ 2000 → wts 2000 l n = n + nms l)
  | [], n, _, _, h0, h1 => by simp only [wts, nms]; exact ⟨h0, by omega, by simp⟩
  | c :: l, n, hf, hi, h0, h1 => by
    simp only [fits] at hf
    obtain ⟨h2, -⟩ := fit_nms hf.1
    have e : c.wt 2000 = 0 := by rw [Cl.wt_eq, hi c (by simp), wts]
    rw [wts, e]
    by_cases hn : n ≤ 2000
    · rw [if_pos hn, w64 (x := n + 1) (by omega) (by omega), w64 (x := n + 1 + _) (by omega) (by omega), Int.add_zero, w64 (by omega) (by omega)]
      obtain ⟨g1, g2, g3⟩ := wts_items l (n + 1 + c.names.length) hf.2 (fun x hx => hi x (by simp [hx])) (by omega) (by omega)
      refine ⟨g1, by omega, fun h => ?_⟩
      rw [g3 h]
      simp only [nms, List.map_cons, List.sum_cons]
      omega
    · rw [if_neg hn]
      exact ⟨h0, by omega, fun h => absurd h hn⟩
/-- The clauses and names of a tree of services. -/
def nmt (l : List Cl) : Nat := (l.map fun c => 1 + c.names.length + nms c.items).sum
theorem wts_text : ∀ (l : List Cl) (n : Int), fits l → (∀ c ∈ l, ∀ i ∈ c.items, i.items = []) → 0 ≤ n → n ≤ 9223000000000000000 → wts 2000 l n ≤ 2000 → wts 2000 l n = n + nmt l
  | [], n, _, _, h0, h1, _ => by simp only [wts, nmt]; simp
  | c :: l, n, hf, hi, h0, h1, h => by
    simp only [fits] at hf
    obtain ⟨h2, h3⟩ := fit_nms hf.1
    obtain ⟨k1, k2, k3⟩ := wts_items c.items 0 h3 (hi c (by simp)) (by omega) (by omega)
    rw [wts, Cl.wt_eq] at h ⊢
    by_cases hn : n ≤ 2000
    · rw [if_pos hn, w64 (x := n + 1) (by omega) (by omega), w64 (x := n + 1 + _) (by omega) (by omega), w64 (by omega) (by omega)] at h ⊢
      have ih := wts_text l (n + 1 + c.names.length + wts 2000 c.items 0) hf.2 (fun x hx => hi x (by simp [hx])) (by omega) (by omega) h
      have h4 : wts 2000 c.items 0 ≤ 2000 := by
        have hm : ∀ (l : List Cl) (m : Int), 2000 < m → wts 2000 l m = m := fun l m hm => by cases l <;> simp only [wts]; rw [if_neg (by omega)]
        rcases Int.lt_or_le 2000 (n + 1 + c.names.length + wts 2000 c.items 0) with hlt | hle
        · rw [hm _ _ hlt] at h; omega
        · omega
      rw [ih, k3 h4]
      simp only [nmt, List.map_cons, List.sum_cons]
      omega
    · rw [if_neg hn] at h; omega
theorem sep_len' : ∀ ns : List ByteArray, (sepToks ns).length = 2 * ns.length
  | [] => rfl
  | n :: ns => by
    have := sep_len' ns
    simp only [sepToks, List.flatMap_cons, List.length_append, List.length_cons, List.length_nil] at this ⊢
    omega
theorem item_toks_le {c : Cl} (h : ItemIs c) : (itemToks c).length ≤ 8 * (1 + c.names.length) ∧ c.items = [] := by
  cases h with
  | num k a o hk ha =>
    rcases hk with rfl | rfl | rfl | rfl <;> simp [itemToks, Cl.kind, Cl.items] <;> omega
  | spread d a o hd ha => simp [itemToks, Cl.kind, Cl.items]; omega
  | apart n ns o hn hns =>
    have := sep_len' ns
    simp [itemToks, Cl.kind, Cl.names, Cl.items]
    omega
  | near n a o hn ha => simp [itemToks, Cl.kind, Cl.names, Cl.items]
theorem items_toks_le : ∀ (l : List Cl), (∀ c ∈ l, ItemIs c) → (l.flatMap itemToks).length ≤ 8 * nms l
  | [], _ => by simp [nms]
  | c :: l, h => by
    have h1 := (item_toks_le (h c (by simp))).1
    have h2 := items_toks_le l fun x hx => h x (by simp [hx])
    simp only [List.flatMap_cons, List.length_append, nms, List.map_cons, List.sum_cons] at h2 ⊢
    omega
theorem clause_toks_le {c : Cl} (h : ClauseIs c) : (clauseToks c).length ≤ 8 * (1 + c.names.length + nms c.items) ∧ ∀ i ∈ c.items, i.items = [] := by
  cases h with
  | service n its o hn hit =>
    have := items_toks_le its hit
    refine ⟨?_, fun i hi => (item_toks_le (hit i hi)).2⟩
    simp only [clauseToks, Cl.kind, Cl.names, Cl.items, if_true, List.length_cons, List.length_append, List.length_nil]
    omega
  | window d i a b o => simp [clauseToks, Cl.kind, Cl.items]; omega
  | approve d i o => simp [clauseToks, Cl.kind, Cl.items]; omega
  | blast a o => simp [clauseToks, Cl.kind, Cl.items]; omega
  | cap i a o => simp [clauseToks, Cl.kind, Cl.items]; omega
theorem text_toks_le : ∀ (l : List Cl), (∀ c ∈ l, ClauseIs c) → (l.flatMap clauseToks).length ≤ 8 * nmt l
  | [], _ => by simp [nmt]
  | c :: l, h => by
    have h1 := (clause_toks_le (h c (by simp))).1
    have h2 := text_toks_le l fun x hx => h x (by simp [hx])
    simp only [List.flatMap_cons, List.length_append, nmt, List.map_cons, List.sum_cons] at h2 ⊢
    omega
/-- A well-formed tree that the law looks at has few tokens. -/
theorem small_toks {l : List Cl} (hf : fits l) (h : formedB l = true) (hw : wts 2000 l 0 ≤ 2000) : (l.flatMap clauseToks).length ≤ 16000 := by
  have h1 := wts_text l 0 hf (fun c hc => (clause_toks_le (formed_is h c hc)).2) (by omega) (by omega) hw
  have h2 := text_toks_le l (formed_is h)
  omega
theorem fit_own {c : Cl} (h : c.fit) : c.own := by
  cases c
  simp only [Cl.fit] at h
  exact ⟨h.2.1.1, h.2.1.2.1, h.2.1.2.2.1, h.2.2.1.1⟩
theorem fits_own2 {l : List Cl} (h : fits l) : ∀ c ∈ l, c.own2 := fun c hc => by
  have h1 := fits_mem h c hc
  exact ⟨fit_own h1, fun i hi => fit_own (fits_mem (fit_nms h1).2 i hi)⟩
end Go.Proofs.YtplnnpkohdmiaaaGreatDoor

/- DERIVED. The reference's Weight. -/
namespace Go.Proofs.YtplnnpkohdmiaaaGreatDoor
open Go.RowKit
set_option maxRecDepth 100000

/-- Between two rounds of Weight's loop. -/
def WtRel (lim : Int) (l : List Cl) (w : World) (n i : Value) (wr : World) : Prop :=
  ∃ (k d : Nat) (m : Int), k ≤ l.length ∧ i = .int .i64 k ∧ n = .int .i64 m ∧ I64 m ∧ wts lim (l.drop k) m = wts lim l 0 ∧ wr = w.drewN d
/-- What Weight leaves: the weight, and some draws. -/
def WtPost (lim : Int) (l : List Cl) (w : World) (e : Ending) (w' : World) : Prop := e = .returned (.int .i64 (wts lim l 0)) ∧ ∃ n, w' = w.drewN n
def QWtOk (lim : Int) (l : List Cl) : Prop := ∀ c ∈ l, ∀ (v : Value) (ok : Nat → Prop) (w : World), ClSl w ok v c.items → Calls Tryz.prog 14 #[v, .int .i64 lim] w (WtPost lim c.items w)
theorem calm_deep {P : Program} {f : FuncId} {args : Array Value} {w : World} {a n : Nat} {v : Value} (h : ∀ k, Calls P f args (w.drewN k) fun e w' => e = .returned v ∧ ∃ m, w' = (w.drewN k).drewN m) :
    Calls P f args (w.drewN (a + n)) fun e w'' => e = .returned v ∧ ∃ m, w'' = w.drewN (a + m) := (h _).mono fun _ _ ⟨he, m, hm⟩ => ⟨he, n + m, by rw [hm, World.drewN_drewN, Nat.add_assoc]⟩
theorem calm_deep1 {P : Program} {f : FuncId} {args : Array Value} {w : World} {a n : Nat} {v : Value} (h : ∀ k, Calls P f args (w.drewN k) fun e w' => e = .returned v ∧ ∃ m, w' = (w.drewN k).drewN m) :
    Calls P f args ((w.drewN a).drewN n) fun e w'' => e = .returned v ∧ ∃ m, w'' = (w.drewN a).drewN m := by
  rw [World.drewN_drewN]
  exact (h _).mono fun _ _ ⟨he, m, hm⟩ => ⟨he, n + m, by rw [hm, World.drewN_drewN, World.drewN_drewN, Nat.add_assoc]⟩
theorem wrap_i64 (x : Int) : I64 (IntKind.i64.wrap x) := by
  rw [IntKind.wrap_i64]
  unfold I64; omega
theorem w64eq (x : Int) : wrap64 x = IntKind.i64.wrap x := by rw [IntKind.wrap_i64]; unfold wrap64; omega
theorem wts_i64 (lim : Int) : ∀ (l : List Cl) (n : Int), I64 n → I64 (wts lim l n)
  | [], n, h => by simp only [wts]; exact h
  | c :: l, n, h => by
    simp only [wts]
    split
    · exact wts_i64 lim l _ (wrap_i64 _)
    · exact h
theorem wts_over (lim : Int) (l : List Cl) (n : Int) (h : ¬ n ≤ lim) : wts lim l n = n := by cases l <;> simp only [wts]; rw [if_neg h]

set_option maxHeartbeats 2000000 in
theorem q_wt_step (lim : Int) (l : List Cl) (hS : QWtOk lim l) (v : Value) (ok : Nat → Prop) (w : World) (ha : ClSl w ok v l) :
    Calls Tryz.prog 14 #[v, .int .i64 lim] w (WtPost lim l w) := by
  obtain ⟨A, c, rfl, h2, h3, -⟩ := id ha
  unfold maxLen at h3
  have Ha := Lib.hid ha
  have HS := Lib.hid hS
  clear ha hS
  go_enter Tryz.func14, Tryz.ntmps14
  go_wp2_with (fail)
  go_loopw [5, 6] (fun n i wr => WtRel lim l w n i wr) (fun n i wr => l.length - (intOf i).toNat)
  case atStart => exact ⟨0, 0, 0, Nat.zero_le _, rfl, rfl, ⟨by omega, by omega⟩, rfl, rfl⟩
  case round =>
    obtain ⟨k, d, m, hk, rfl, rfl, hm, hw, rfl⟩ := hrel
    have HM := Lib.hid hm
    have HW := Lib.hid hw
    unfold I64 at hm
    obtain ⟨hm1, hm2⟩ := hm
    clear hw
    by_cases hlt : k < l.length
    · by_cases hn : m ≤ lim
      · obtain ⟨b, o, c', vn, vi, e, -, -, -, hns, his, -, q1, -, -, -, -, q6, -⟩ := Ha.out.at_ hlt
        injection e with e1 _ e2
        subst e1 e2
        have hd := wts_drop lim l k hlt m
        rw [if_pos hn] at hd
        have hI := HS.out l[k] (List.getElem_mem hlt) vi ok
        have hI2 : ∀ j, Calls Tryz.prog 14 #[vi, .int .i64 lim] (w.drewN j) fun e w' => e = .returned (.int .i64 (wts lim l[k].items 0)) ∧ ∃ m, w' = (w.drewN j).drewN m := (fun j => hI (w.drewN j) (his.stand (ok' := ok) (w' := w.drewN j) (fun b hb => ⟨hb, rfl⟩)))
        obtain ⟨A1, c1, rfl, g1, g2, -⟩ := hns
        obtain ⟨A2, m2, c2, rfl⟩ := his.shape
        unfold maxLen at g2
        have HD := Lib.hid hd
        have hki : ((k : Nat) : Int).toNat = k := by omega
        have hkl : (k : Int) < (l.length : Int) := by omega
        have hk0 : (0 : Int) ≤ (k : Int) := by omega
        clear hd hI his
        generalize l[k].names = ns at *
        generalize hgx : wts lim l[k].items 0 = x at *
        have HX := Lib.hid hgx
        have HI := Lib.hid hI2
        clear hgx hI2
        go_wp2_with (fail)
        go_quiet ((go_at_call 14; first | exact calm_deep HI.out | exact calm_deep1 HI.out))
        go_wp2_with (fail)
        simp only [w64eq]
        refine ⟨⟨k + 1, _, _, by omega, by go_num, rfl, wrap_i64 _, by rw [← HD.out]; exact HW.out, rfl⟩, by simp [intOf]; omega⟩
      · have ho := wts_over lim (l.drop k) m hn
        have HO := Lib.hid (ho.symm.trans HW.out)
        clear ho
        go_wp2_with (fail)
        go_ret
        exact ⟨by rw [← HO.out]; rfl, d, rfl⟩
    · have hd : l.drop k = [] := List.drop_of_length_le (by omega)
      have ho : m = wts lim l 0 := by rw [← HW.out, hd, wts]
      have HO := Lib.hid ho
      clear ho hd
      go_wp2_with (fail)
      go_ret
      exact ⟨by rw [← HO.out]; rfl, d, rfl⟩
theorem q_wt_ind (lim : Int) : ∀ (n : Nat) (l : List Cl), SizeOf.sizeOf l < n → ∀ (v : Value) (ok : Nat → Prop) (w : World), ClSl w ok v l → Calls Tryz.prog 14 #[v, .int .i64 lim] w (WtPost lim l w)
  | 0, _, h => absurd h (by omega)
  | n + 1, l, h => fun v ok w ha => q_wt_step lim l (fun c hc v' ok' w' h1 => q_wt_ind lim n c.items (by
      have h3 := List.sizeOf_lt_of_mem hc
      have h4 := c.items_lt
      omega) v' ok' w' h1) v ok w ha
/-- The reference's Weight. -/
theorem q_Weight (lim : Int) (l : List Cl) (v : Value) (ok : Nat → Prop) (w : World) (ha : ClSl w ok v l) : Calls Tryz.prog 14 #[v, .int .i64 lim] w (WtPost lim l w) := q_wt_ind lim (SizeOf.sizeOf l + 1) l (by omega) v ok w ha
/-- Whether the law looks at a tree. -/
theorem c_small (l : List Cl) (bv : Bool) (hb : decide (wts 2000 l 0 ≤ 2000) = bv) (v : Value) (ok : Nat → Prop) (w : World) (ha : ClSl w ok v l) : Calls Tryz.prog 5 #[v] w fun e w' => e = .returned (.bool bv) ∧ ∃ n, w' = w.drewN n := by
  obtain ⟨A, c, rfl, -⟩ := id ha
  have HC := Lib.hid (q_Weight 2000 l _ ok w ha)
  have HB := Lib.hid hb
  clear ha hb
  go_enter Tryz.func5, Tryz.ntmps5
  go_wp2_with (fail)
  refine HC.out.mono ?_
  rintro e w1 ⟨rfl, n, rfl⟩
  go_wp2_with (fail)
  go_ret
  exact ⟨by rw [← HB.out]; rfl, n, rfl⟩
end Go.Proofs.YtplnnpkohdmiaaaGreatDoor

/- DERIVED. The law SyntaxRound. -/
namespace Go.Proofs.YtplnnpkohdmiaaaGreatDoor
open Go.RowKit
set_option maxRecDepth 100000

theorem below_draw {n k : Nat} {a b : World} (h : b = a.drewN k) : Below n a b := by subst h; exact ⟨rfl, rfl, rfl, Nat.le_refl _, fun _ _ => rfl⟩
def ZSm (l : List Cl) (bv : Bool) (W : World) (v : Value) : Prop := Calls Tryz.prog 5 #[v] W fun e w' => e = .returned (.bool bv) ∧ Below W.heap.size W w'
def ZPr (w : World) (l : List Cl) (r : ByteArray × Int) : Prop := ∀ (W : World) (v : Value) (ok : Nat → Prop), Below w.heap.size w W → ClSl W ok v l → Calls Tryz.prog 7 #[v] W fun e w' => e = .returned (.tuple #[.string r.1, .int .i64 r.2]) ∧ Below W.heap.size W w'
def ZPa (s : ByteArray) (r : List Cl × Int × Int) (W : World) : Prop := Calls Tryz.prog 13 #[.string s] W fun e w' => ∃ v, e = .returned (.tuple #[v, .int .i64 r.2.1, .int .i64 r.2.2]) ∧ ClSl w' (Btw W.heap.size w'.heap.size) v r.1 ∧ Below W.heap.size W w'
def ZSame (w : World) (l m : List Cl) : Prop := ∀ (W : World) (v u : Value) (ok ok' : Nat → Prop), Below w.heap.size w W → ClSl W ok v l → ClSl W ok' u m → Calls Tryz.prog 12 #[v, u] W fun e w' => e = .returned (.bool true) ∧ Below W.heap.size W w'
def ZAw (w : World) : Prop := ∀ W : World, Below w.heap.size w W → Calls Tryz.prog 6 #[] W fun e w' => e = .returned (.bool true) ∧ Below W.heap.size W w'

set_option maxHeartbeats 2000000 in
theorem round_big (l : List Cl) (A : Option Addr) (n c : Nat) (w : World) (HS : Hid (ZSm l false w (.slice A n c))) (HW : Hid (ZAw w)) :
    Calls Tryz.prog 4 #[.slice A n c] w fun e w' => e = .returned (.bool true) ∧ Below w.heap.size w w' := by
  go_enter Tryz.func4, Tryz.ntmps4
  go_wp2_with (fail)
  refine HS.out.mono ?_
  rintro e w1 ⟨rfl, bb1⟩
  have B1 := Lib.hid bb1
  clear bb1
  go_wp2_with (go_at_call 6; refine (HW.out _ B1.out).mono ?_; rintro e w5 ⟨rfl, bb5⟩)
  go_ret
  exact ⟨rfl, B1.out.trans (bb5.mono B1.out.size)⟩
set_option maxHeartbeats 2000000 in
theorem round_err (l : List Cl) (er : Int) (h1 : er = 1 ∨ er = 3) (A : Option Addr) (n c : Nat) (ok : Nat → Prop) (w : World) (hok : ∀ b, ok b → b < w.heap.size) (ha : ClSl w ok (.slice A n c) l) (HS : Hid (ZSm l true w (.slice A n c))) (HP : Hid (ZPr w l (⟨#[]⟩, er))) (HW : Hid (ZAw w)) :
    Calls Tryz.prog 4 #[.slice A n c] w fun e w' => e = .returned (.bool true) ∧ Below w.heap.size w w' := by
  have Ha := Lib.hid ha
  have HOK := Lib.hid hok
  clear ha hok
  rcases h1 with rfl | rfl
  all_goals
    go_enter Tryz.func4, Tryz.ntmps4
    go_wp2_with (fail)
    refine HS.out.mono ?_
    rintro e w1 ⟨rfl, bb1⟩
    have B1 := Lib.hid bb1
    clear bb1
    go_wp2_with (first | (go_at_call 7; refine (HP.out _ _ ok B1.out (Ha.out.stand (fun b hb => ⟨hb, B1.out.block b (HOK.out b hb)⟩))).mono ?_; rintro e w2 ⟨rfl, bb2⟩; have B2 := Lib.hid bb2; clear bb2) | (go_at_call 6; refine (HW.out _ (by exact B1.out.trans (B2.out.mono B1.out.size))).mono ?_; rintro e w5 ⟨rfl, bb5⟩))
    go_ret
    have z1 := B1.out.size
    have z2 := B2.out.size
    exact ⟨rfl, B1.out.trans ((B2.out.mono z1).trans (bb5.mono (by omega)))⟩
set_option maxHeartbeats 2000000 in
theorem round_ok (l m : List Cl) (t : ByteArray) (A : Option Addr) (n c : Nat) (ok : Nat → Prop) (w : World) (hok : ∀ b, ok b → b < w.heap.size) (ha : ClSl w ok (.slice A n c) l) (HS : Hid (ZSm l true w (.slice A n c))) (HP : Hid (ZPr w l (t, 0))) (HA : Hid (∀ W, ZPa t (m, 0, 0) W)) (HQ : Hid (ZSame w l m)) (HW : Hid (ZAw w)) :
    Calls Tryz.prog 4 #[.slice A n c] w fun e w' => e = .returned (.bool true) ∧ Below w.heap.size w w' := by
  have Ha := Lib.hid ha
  have HOK := Lib.hid hok
  clear ha hok
  go_enter Tryz.func4, Tryz.ntmps4
  go_wp2_with (fail)
  refine HS.out.mono ?_
  rintro e w1 ⟨rfl, bb1⟩
  have B1 := Lib.hid bb1
  clear bb1
  have z1 := B1.out.size
  go_wp2_with (fail)
  go_at_call 7
  refine (HP.out _ _ ok B1.out (Ha.out.stand (fun b hb => ⟨hb, B1.out.block b (HOK.out b hb)⟩))).mono ?_
  rintro e w2 ⟨rfl, bb2⟩
  have B2 := Lib.hid (B1.out.trans (bb2.mono z1))
  clear bb2
  have z2 := B2.out.size
  go_wp2_with (fail)
  go_at_call 13
  refine (HA.out _).mono ?_
  rintro e w3 ⟨v3, rfl, hc3, bb3⟩
  obtain ⟨A3, m3, p3, rfl⟩ := hc3.shape
  have H3 := Lib.hid hc3
  have B3 := Lib.hid (B2.out.trans (bb3.mono z2))
  clear bb3 hc3
  have z3 := B3.out.size
  go_wp2_with (first | (go_at_call 12; refine (HQ.out _ _ _ ok _ B3.out (Ha.out.stand (fun b hb => ⟨hb, B3.out.block b (HOK.out b hb)⟩)) H3.out).mono ?_; rintro e w4 ⟨rfl, bb4⟩; have B4 := Lib.hid (B3.out.trans (bb4.mono z3)); clear bb4) | (go_at_call 6; refine (HW.out _ B4.out).mono ?_; rintro e w5 ⟨rfl, bb5⟩))
  go_ret
  have z4 := B4.out.size
  exact ⟨rfl, B4.out.trans (bb5.mono z4)⟩

theorem w_SyntaxRound (v : Value) (l : List Cl) (w : World) (ha : ClSl w (fun b => b < w.heap.size) v l) (hf : fits l) (ht : Tab w) :
    Calls Tryz.prog 4 #[v] w fun e w' => e = .returned (.bool true) ∧ Below w.heap.size w w' := by
  obtain ⟨A, c, rfl, -⟩ := id ha
  have HW : Hid (ZAw w) := Lib.hid (fun W hb => c_awake W (ht.on hb))
  have hs : ∀ bv, decide (wts 2000 l 0 ≤ 2000) = bv → ZSm l bv w (.slice A l.length c) := fun bv hb => (c_small l bv hb _ _ w ha).mono fun _ _ ⟨h1, n, h2⟩ => ⟨h1, below_draw h2⟩
  have hown := fits_own2 hf
  by_cases h1 : wts 2000 l 0 ≤ 2000
  · have hsm := hs true (by simpa using h1)
    by_cases h2 : formedB l = true
    · have hn := small_toks hf h2 h1
      have HP : ZPr w l (printB l) := fun W u ok hb hc => c_sPrint l hown (fun _ => by omega) u ok W (ht.on hb) hc
      rcases print_cases h2 with h3 | ⟨h3, h4⟩
      · rw [h3] at HP
        exact round_err l 3 (Or.inr rfl) A _ c _ w (fun b hb => hb) ha (Lib.hid hsm) (Lib.hid HP) HW
      · rw [h3] at HP
        obtain ⟨m, k1, k2, k3, k4, k5, k6⟩ := back h2 h4
        have HA : ∀ W, ZPa (joinB (l.flatMap clauseToks)) (m, 0, 0) W := fun W => by
          have := c_Parse (joinB (l.flatMap clauseToks)) (by unfold maxLen; omega) W
          rw [k1] at this
          exact this
        exact round_ok l m _ A _ c _ w (fun b hb => hb) ha (Lib.hid hsm) (Lib.hid HP) (Lib.hid HA) (Lib.hid (fun W v u ok ok' _ q1 q2 => q_Same l m k5 v u ok ok' W q1 q2)) HW
    · have HP : ZPr w l (printB l) := fun W u ok hb hc => c_sPrint l hown (fun h => absurd h h2) u ok W (ht.on hb) hc
      have h3 : printB l = (⟨#[]⟩, 1) := by unfold printB; rw [if_neg h2]
      rw [h3] at HP
      exact round_err l 1 (Or.inl rfl) A _ c _ w (fun b hb => hb) ha (Lib.hid hsm) (Lib.hid HP) HW
  · exact round_big l A _ c w (Lib.hid (hs false (by simpa using h1))) HW
end Go.Proofs.YtplnnpkohdmiaaaGreatDoor

/- DERIVED. The table that strconv.Itoa reads, out of the rows' condition. -/
namespace Go.Proofs.YtplnnpkohdmiaaaGreatDoor
open Go.RowKit
set_option maxRecDepth 100000

theorem gPow : Tryz.prog.globalNamed "internal/strconv.uint64pow10" = some 1 := by kernel_rfl
theorem gPowT : (Tryz.prog.globals[1]?).map (·.type) = some 130 := by kernel_rfl
theorem laidMet_tail {P : Program} {x : String × DataW Unit} {r : List (String × DataW Unit)} {W : World} (h : laidMet P (x :: r) W) : laidMet P r W := by
  obtain ⟨n, d⟩ := x
  obtain ⟨ps, ⟨g, t, cs, fuel, p, q, h1, h2, h3, h4, h5, rfl⟩, hn, hc⟩ := h
  exact ⟨q, h5, (List.nodup_append.1 hn).2.1, fun b off hm => hc b off (by simp [hm])⟩
theorem tab_laid {W : World} (h : laidMet Tryz.prog Rows.syntaxRoundRow.laid W) : Tab W :=
  Tab.of (Lib.tabIs_of_head gPow gPowT Tryz.underlying130 Tryz.underlying123 (by kernel_rfl) (by kernel_rfl) (laidMet_tail (laidMet_tail h)))
theorem laidMetH_plain {l : List (String × DataW Unit)} {W : World} (h : laidMetH Tryz.prog l W) (hp : (l.all fun x => x.2.handleName?.isNone) = true) : laidMet Tryz.prog l W := by
  rw [MakeChecks.laidMetH_plain _ _ _ hp] at h; exact h
end Go.Proofs.YtplnnpkohdmiaaaGreatDoor
