/-
  DERIVED. Several texts in one.
-/
import Derived.Test.YtplnnpkohdmiaaaGreatDoorYFm
import Derived.Test.YtplnnpkohdmiaaaGreatDoorYCAm
import Derived.Defers
import Derived.Recover
import Derived.WalkLawsBesides
import Derived.BigQuiet
set_option linter.unusedVariables false
set_option linter.unusedSimpArgs false

/- DERIVED. A slice of tokens in memory. -/
namespace Go.Proofs.YtplnnpkohdmiaaaGreatDoor
open Go.RowKit

theorem toksOf_ok (s : ByteArray) (h : ¬ 4096 < s.size) (hz : ∀ y ∈ seqOf s, y.2 = 0) : toksOf s = ((seqOf s).map (·.1), 0, 0) := by
  unfold toksOf
  rw [if_neg h, List.find?_eq_none.2 (fun x hx => by simp [hz x hx])]
theorem toksOf_err (s : ByteArray) (h : ¬ 4096 < s.size) (pre rest : List (Tok × Int)) (x : Tok × Int) (he : seqOf s = pre ++ x :: rest) (hz : ∀ y ∈ pre, y.2 = 0) (hx : x.2 ≠ 0) : toksOf s = ([], x.1.off, x.2) := by
  unfold toksOf
  rw [if_neg h, he, List.find?_append, List.find?_eq_none.2 (fun y hy => by simp [hz y hy])]
  simp [hx]

theorem ownsRow_below {W W' : World} {base : Nat} {e : TypeId} {size : Nat} {v : Value} {k : Nat} {xs : List Value} (h : W.ownsRow base e size v k xs) (hb : Below W.heap.size W W') : W'.ownsRow base e size v k xs :=
  h.kept (only_of_below hb none) (Classical.em _)

theorem cell_four_new' (w : World) {n : Nat} (hn : n = w.heap.size) (a b c d : Value) (t : TypeId) : ∀ j u, [a, b, c, d][j]? = some u → (w.alloc (.cells #[a, b, c, d] t)).cell? ((⟨n, 0, none⟩ : Addr).add j) = some u := by
  subst hn; exact cell_four_new w a b c d t

/-- The slice v reads as the tokens l, below block B. -/
def TokSl (w : World) (B : Nat) (v : Value) (l : List Tok) : Prop :=
  ∃ A c, v = .slice A l.length c ∧ l.length ≤ c ∧ c ≤ maxLen ∧ (0 < l.length → ∃ b o, A = some ⟨b, o, none⟩ ∧ b < B ∧ ∀ j u, (tokCells l)[j]? = some u → w.cell? ⟨b, o + j, none⟩ = some u)

theorem TokSl.nil (w : World) (B : Nat) : TokSl w B (.slice none 0 0) [] := ⟨none, 0, rfl, Nat.le_refl _, Nat.zero_le _, fun h => absurd h (by decide)⟩
theorem TokSl.below {w w' : World} {B n : Nat} {v : Value} {l : List Tok} (h : TokSl w B v l) (hb : Below n w w') (hn : B ≤ n) : TokSl w' B v l := by
  obtain ⟨A, c, h1, h2, h3, h4⟩ := h
  refine ⟨A, c, h1, h2, h3, fun hl => ?_⟩
  obtain ⟨b, o, e, hbB, hc⟩ := h4 hl
  exact ⟨b, o, e, hbB, fun j u hj => (hb.cell (p := ⟨b, o + j, none⟩) (by show b < n; omega)).trans (hc j u hj)⟩
theorem TokSl.more {w : World} {B B' : Nat} {v : Value} {l : List Tok} (h : TokSl w B v l) (hB : B ≤ B') : TokSl w B' v l := by
  obtain ⟨A, c, h1, h2, h3, h4⟩ := h
  refine ⟨A, c, h1, h2, h3, fun hl => ?_⟩
  obtain ⟨b, o, e, hbB, hc⟩ := h4 hl
  exact ⟨b, o, e, by omega, hc⟩
theorem add0 (b j : Nat) : (⟨b, 0, none⟩ : Addr).add j = ⟨b, j, none⟩ := by unfold Addr.add; split <;> simp_all
theorem TokSl.of_own {w : World} {base : Nat} {v : Value} {l : List Tok} (h : w.ownsRow base 62 4 v l.length (tokCells l)) : TokSl w w.heap.size v l := by
  have hc := fun g (hg : v.ownBlock = some g) => h.cells hg
  have hlt := h.lt
  rcases h.2 with ⟨rfl, h0⟩ | ⟨g, cap, cur, rfl, hb, hg, hn, hm, _⟩
  · rw [List.eq_nil_of_length_eq_zero h0]; exact TokSl.nil _ _
  · refine ⟨_, cap, rfl, hn, hm, fun _ => ⟨g, 0, rfl, (hlt g rfl).2, fun j u hj => ?_⟩⟩
    have := hc g rfl j u hj
    rw [add0] at this
    rwa [Nat.zero_add]

theorem tokCells_at (l : List Tok) (i f : Nat) (t : Tok) (hi : l[i]? = some t) (hf : f < 4) : (tokCells l)[i * 4 + f]? = (Tok.cells t)[f]? := by
  induction l generalizing i with
  | nil => simp at hi
  | cons a l ih =>
    have hc : tokCells (a :: l) = a.cells ++ tokCells l := rfl
    rw [hc]
    cases i with
    | zero =>
      simp at hi; subst hi
      rw [List.getElem?_append_left (by simp [Tok.cells]; omega), Nat.zero_mul, Nat.zero_add]
    | succ i =>
      rw [List.getElem?_append_right (by simp [Tok.cells]; omega)]
      have e : (i + 1) * 4 + f - a.cells.length = i * 4 + f := by simp [Tok.cells]; omega
      rw [e]
      exact ih i (by simpa using hi)

theorem TokSl.at_ {w : World} {B : Nat} {v : Value} {l : List Tok} (h : TokSl w B v l) {i : Nat} (hi : i < l.length) :
    ∃ b o c, v = .slice (some ⟨b, o, none⟩) l.length c ∧ b < B ∧ l.length ≤ c ∧ c ≤ maxLen ∧
      w.cell? ⟨b, o + i * 4, none⟩ = some (.int .u8 l[i].kind) ∧ w.cell? ⟨b, o + i * 4 + 1, none⟩ = some (.string l[i].text) ∧
      w.cell? ⟨b, o + i * 4 + 2, none⟩ = some (.int .i64 l[i].num) ∧ w.cell? ⟨b, o + i * 4 + 3, none⟩ = some (.int .i64 l[i].off) := by
  obtain ⟨A, c, h1, h2, h3, h4⟩ := h
  obtain ⟨b, o, rfl, hb, hc⟩ := h4 (by omega)
  have hg : l[i]? = some l[i] := List.getElem?_eq_getElem hi
  have k := fun f hf u (hu : (Tok.cells l[i])[f]? = some u) => hc (i * 4 + f) u ((tokCells_at l i f _ hg hf).trans hu)
  refine ⟨b, o, c, h1, hb, h2, h3, ?_, ?_, ?_, ?_⟩
  · have := k 0 (by omega) _ rfl; rwa [Nat.add_zero] at this
  · have := k 1 (by omega) _ rfl; rwa [← Nat.add_assoc] at this
  · have := k 2 (by omega) _ rfl; rwa [← Nat.add_assoc] at this
  · have := k 3 (by omega) _ rfl; rwa [← Nat.add_assoc] at this

end Go.Proofs.YtplnnpkohdmiaaaGreatDoor

/- DERIVED. Trees of clauses in memory, and the parser's own state. -/
namespace Go.Proofs.YtplnnpkohdmiaaaGreatDoor
open Go.RowKit

/-- The slice v reads as the strings l; its block is one of ok's. -/
def StrSl (w : World) (ok : Nat → Prop) (v : Value) (l : List ByteArray) : Prop :=
  ∃ A c, v = .slice A l.length c ∧ l.length ≤ c ∧ c ≤ maxLen ∧ (0 < l.length → ∃ b o, A = some ⟨b, o, none⟩ ∧ ok b ∧ ∀ j s, l[j]? = some s → w.cell? ⟨b, o + j, none⟩ = some (.string s))

mutual
/-- The eight cells us read as the clause. -/
def Cl.agg (w : World) (ok : Nat → Prop) : Cl → List Value → Prop
  | .mk k ns d i a b its off, us => ∃ vn A c, us = [.int .u8 k, vn, .int .u8 d, .int .i64 i, .int .i64 a, .int .i64 b, .slice A its.length c, .int .i64 off] ∧ StrSl w ok vn ns ∧
      its.length ≤ c ∧ c ≤ maxLen ∧ (0 < its.length → ∃ bl o, A = some ⟨bl, o, none⟩ ∧ ok bl ∧ reps w ok its bl o)
/-- From offset o on block b holds the clauses. -/
def reps (w : World) (ok : Nat → Prop) : List Cl → Nat → Nat → Prop
  | [], _, _ => True
  | c :: l, b, o => (∃ us, Cl.agg w ok c us ∧ ∀ j u, us[j]? = some u → w.cell? ⟨b, o + j, none⟩ = some u) ∧ reps w ok l b (o + 8)
end
/-- The slice v reads as the clauses l; all blocks are of ok's. -/
def ClSl (w : World) (ok : Nat → Prop) (v : Value) (l : List Cl) : Prop :=
  ∃ A c, v = .slice A l.length c ∧ l.length ≤ c ∧ c ≤ maxLen ∧ (0 < l.length → ∃ b o, A = some ⟨b, o, none⟩ ∧ ok b ∧ reps w ok l b o)

theorem Cl.agg_iff (w : World) (ok : Nat → Prop) (c : Cl) (us : List Value) : c.agg w ok us ↔
    ∃ vn vi, us = [.int .u8 c.kind, vn, .int .u8 c.dom, .int .i64 c.idx, .int .i64 c.a, .int .i64 c.b, vi, .int .i64 c.off] ∧ StrSl w ok vn c.names ∧ ClSl w ok vi c.items := by
  cases c
  simp only [Cl.agg, Cl.kind, Cl.names, Cl.dom, Cl.idx, Cl.a, Cl.b, Cl.items, Cl.off, ClSl]
  constructor
  · rintro ⟨vn, A, c, h1, h2, h3⟩
    exact ⟨vn, _, h1, h2, A, c, rfl, h3⟩
  · rintro ⟨vn, _, h1, h2, A, c, rfl, h3⟩
    exact ⟨vn, A, c, h1, h2, h3⟩

/-- Blocks of ok stand as they stood, and are of ok'. -/
def Stand (ok ok' : Nat → Prop) (w w' : World) : Prop := ∀ b, ok b → ok' b ∧ w'.heap[b]? = w.heap[b]?
theorem Stand.cell {ok ok' : Nat → Prop} {w w' : World} (h : Stand ok ok' w w') {b : Nat} (hb : ok b) (j : Nat) : w'.cell? ⟨b, j, none⟩ = w.cell? ⟨b, j, none⟩ :=
  World.cell?_of_block (a := ⟨b, j, none⟩) (h b hb).2
theorem StrSl.stand {w w' : World} {ok ok' : Nat → Prop} {v : Value} {l : List ByteArray} (h : StrSl w ok v l) (H : Stand ok ok' w w') : StrSl w' ok' v l := by
  obtain ⟨A, c, h1, h2, h3, h4⟩ := h
  refine ⟨A, c, h1, h2, h3, fun hl => ?_⟩
  obtain ⟨b, o, e, hb, hc⟩ := h4 hl
  exact ⟨b, o, e, (H b hb).1, fun j s hj => (H.cell hb _).trans (hc j s hj)⟩
mutual
theorem Cl.agg_stand {w w' : World} {ok ok' : Nat → Prop} (H : Stand ok ok' w w') : ∀ (c : Cl) (us : List Value), Cl.agg w ok c us → Cl.agg w' ok' c us
  | .mk k ns d i a b its off, us, h => by
    simp only [Cl.agg] at h ⊢
    obtain ⟨vn, A, c, h1, h2, h3, h4, h5⟩ := h
    refine ⟨vn, A, c, h1, h2.stand H, h3, h4, fun hl => ?_⟩
    obtain ⟨bl, o, e, hb, hr⟩ := h5 hl
    exact ⟨bl, o, e, (H bl hb).1, reps_stand H its bl o hb hr⟩
theorem reps_stand {w w' : World} {ok ok' : Nat → Prop} (H : Stand ok ok' w w') : ∀ (l : List Cl) (b o : Nat), ok b → reps w ok l b o → reps w' ok' l b o
  | [], _, _, _, _ => by simp only [reps]
  | c :: l, b, o, hb, h => by
    simp only [reps] at h ⊢
    obtain ⟨⟨us, h1, h2⟩, h3⟩ := h
    exact ⟨⟨us, Cl.agg_stand H c us h1, fun j u hj => (H.cell hb _).trans (h2 j u hj)⟩, reps_stand H l b (o + 8) hb h3⟩
end
theorem ClSl.stand {w w' : World} {ok ok' : Nat → Prop} {v : Value} {l : List Cl} (h : ClSl w ok v l) (H : Stand ok ok' w w') : ClSl w' ok' v l := by
  obtain ⟨A, c, h1, h2, h3, h4⟩ := h
  refine ⟨A, c, h1, h2, h3, fun hl => ?_⟩
  obtain ⟨b, o, e, hb, hr⟩ := h4 hl
  exact ⟨b, o, e, (H b hb).1, reps_stand H l b o hb hr⟩

theorem StrSl.nil (w : World) (ok : Nat → Prop) : StrSl w ok (.slice none 0 0) [] := ⟨none, 0, rfl, Nat.le_refl _, Nat.zero_le _, fun h => absurd h (by decide)⟩
theorem ClSl.nil (w : World) (ok : Nat → Prop) : ClSl w ok (.slice none 0 0) [] := ⟨none, 0, rfl, Nat.le_refl _, Nat.zero_le _, fun h => absurd h (by decide)⟩

theorem reps_at {w : World} {ok : Nat → Prop} : ∀ (l : List Cl) (b o i : Nat) (hi : i < l.length), reps w ok l b o → ∃ us, Cl.agg w ok l[i] us ∧ ∀ j u, us[j]? = some u → w.cell? ⟨b, o + i * 8 + j, none⟩ = some u
  | [], _, _, _, hi, _ => absurd hi (by simp)
  | c :: l, b, o, 0, hi, h => by
    simp only [reps] at h
    obtain ⟨⟨us, h1, h2⟩, _⟩ := h
    exact ⟨us, h1, by simpa using h2⟩
  | c :: l, b, o, i + 1, hi, h => by
    simp only [reps] at h
    obtain ⟨us, h1, h2⟩ := reps_at l b (o + 8) i (by simpa using hi) h.2
    refine ⟨us, by simpa using h1, fun j u hj => ?_⟩
    have := h2 j u hj
    rwa [show o + (i + 1) * 8 + j = o + 8 + i * 8 + j from by omega]

theorem ClSl.at_ {w : World} {ok : Nat → Prop} {v : Value} {l : List Cl} (h : ClSl w ok v l) {i : Nat} (hi : i < l.length) :
    ∃ b o c vn vi, v = .slice (some ⟨b, o, none⟩) l.length c ∧ ok b ∧ l.length ≤ c ∧ c ≤ maxLen ∧ StrSl w ok vn l[i].names ∧ ClSl w ok vi l[i].items ∧
      w.cell? ⟨b, o + i * 8, none⟩ = some (.int .u8 l[i].kind) ∧ w.cell? ⟨b, o + i * 8 + 1, none⟩ = some vn ∧
      w.cell? ⟨b, o + i * 8 + 2, none⟩ = some (.int .u8 l[i].dom) ∧ w.cell? ⟨b, o + i * 8 + 3, none⟩ = some (.int .i64 l[i].idx) ∧
      w.cell? ⟨b, o + i * 8 + 4, none⟩ = some (.int .i64 l[i].a) ∧ w.cell? ⟨b, o + i * 8 + 5, none⟩ = some (.int .i64 l[i].b) ∧
      w.cell? ⟨b, o + i * 8 + 6, none⟩ = some vi ∧ w.cell? ⟨b, o + i * 8 + 7, none⟩ = some (.int .i64 l[i].off) := by
  obtain ⟨A, c, h1, h2, h3, h4⟩ := h
  obtain ⟨b, o, rfl, hb, hr⟩ := h4 (by omega)
  obtain ⟨us, ha, hc⟩ := reps_at l b o i hi hr
  obtain ⟨vn, vi, rfl, hn, hv⟩ := (Cl.agg_iff _ _ _ _).1 ha
  exact ⟨b, o, c, vn, vi, h1, hb, h2, h3, hn, hv, hc 0 _ rfl, hc 1 _ rfl, hc 2 _ rfl, hc 3 _ rfl, hc 4 _ rfl, hc 5 _ rfl, hc 6 _ rfl, hc 7 _ rfl⟩

/-- The parser in block pb: the tokens that are left, and the text's length. -/
def PSt (w : World) (pb : Nat) (l : List Tok) (en : Int) : Prop :=
  ∃ v, w.heap[pb]? = some (.cells #[v, .int .i64 en] 59 (0, 0)) ∧ TokSl w pb v l

theorem TokSl.stands {w w' : World} {B : Nat} {v : Value} {l : List Tok} (h : TokSl w B v l) (H : ∀ b, b < B → w'.heap[b]? = w.heap[b]?) : TokSl w' B v l := by
  obtain ⟨A, c, h1, h2, h3, h4⟩ := h
  refine ⟨A, c, h1, h2, h3, fun hl => ?_⟩
  obtain ⟨b, o, e, hbB, hc⟩ := h4 hl
  exact ⟨b, o, e, hbB, fun j u hj => (World.cell?_of_block (a := ⟨b, o + j, none⟩) (H b hbB)).trans (hc j u hj)⟩
theorem PSt.lt {w : World} {pb : Nat} {l : List Tok} {en : Int} (h : PSt w pb l en) : pb < w.heap.size := by
  obtain ⟨v, hv, _⟩ := h
  exact (Array.getElem?_eq_some_iff.1 hv).1
theorem PSt.kept {w w' : World} {pb : Nat} {l : List Tok} {en : Int} {row : Option Nat} (h : PSt w pb l en) (hg : w.grownBy w' row) (hr : ∀ b, row = some b → pb < b) : PSt w' pb l en := by
  have hlt := h.lt
  obtain ⟨v, hv, ht⟩ := h
  refine ⟨v, (hg.block pb hlt (fun e => ?_)).trans hv, ht.stands fun b hb => hg.block b (by omega) (fun e => ?_)⟩
  · have := hr pb e.symm; omega
  · have := hr b e.symm; omega
theorem TokSl.tail {w : World} {B : Nat} {A : Option Addr} {n c : Nat} {t : Tok} {l : List Tok} (h : TokSl w B (.slice A n c) (t :: l)) :
    ∃ b o, A = some ⟨b, o, none⟩ ∧ n = l.length + 1 ∧ l.length + 1 ≤ c ∧ c ≤ maxLen ∧ b < B ∧ TokSl w B (.slice (some ⟨b, o + 4, none⟩) l.length (c - 1)) l ∧
      w.cell? ⟨b, o, none⟩ = some (.int .u8 t.kind) ∧ w.cell? ⟨b, o + 1, none⟩ = some (.string t.text) ∧ w.cell? ⟨b, o + 2, none⟩ = some (.int .i64 t.num) ∧ w.cell? ⟨b, o + 3, none⟩ = some (.int .i64 t.off) := by
  obtain ⟨b, o, c', e, hb, hc, hm, k0, k1, k2, k3⟩ := h.at_ (i := 0) (by simp)
  obtain ⟨A', c'', e', _, _, h4⟩ := h
  injection e with e1 e2 e3
  injection e' with e1' e2' e3'
  subst e1 e3 e1' e3'
  obtain ⟨b', o', e4, _, hcc⟩ := h4 (by simp)
  injection e4 with e4
  injection e4 with e5 e6
  subst e5 e6
  simp only [List.length_cons] at e2 hc
  simp only [Nat.zero_mul, Nat.add_zero, List.getElem_cons_zero] at k0 k1 k2 k3
  refine ⟨b, o, rfl, e2, hc, hm, hb, ⟨_, _, rfl, by omega, by omega, fun _ => ⟨b, o + 4, rfl, hb, fun j u hj => ?_⟩⟩, k0, k1, k2, k3⟩
  have hx : (tokCells (t :: l))[j + 4]? = some u := by
    have hc' : tokCells (t :: l) = t.cells ++ tokCells l := rfl
    rw [hc', List.getElem?_append_right (by simp [Tok.cells])]
    simpa [Tok.cells] using hj
  have := hcc (j + 4) u hx
  rwa [show o + 4 + j = o + (j + 4) from by omega]
end Go.Proofs.YtplnnpkohdmiaaaGreatDoor

/- DERIVED. The landed parser's leaves: front, isWord, scopeOf, domainOf, the closures that next asks. -/
namespace Go.Proofs.YtplnnpkohdmiaaaGreatDoor
open Go.RowKit
set_option maxRecDepth 100000

theorem cell_lt' {w : World} {b o : Nat} {v : Value} (h : w.cell? ⟨b, o, none⟩ = some v) : b < w.heap.size := by
  by_cases hb : b < w.heap.size
  · exact hb
  · simp [World.cell?, Array.getElem?_eq_none (Nat.le_of_not_lt hb)] at h
/-- All blocks below n but pb stand. -/
structure KB (n pb : Nat) (w w' : World) : Prop where
  os : w'.os = w.os
  tape : w'.tape = w.tape
  output : w'.output = w.output
  size : w.heap.size ≤ w'.heap.size
  block : ∀ k, k < n → k ≠ pb → w'.heap[k]? = w.heap[k]?
theorem KB.refl (n pb : Nat) (w : World) : KB n pb w w := ⟨rfl, rfl, rfl, Nat.le_refl _, fun _ _ _ => rfl⟩
theorem KB.trans {n pb : Nat} {a b c : World} (h : KB n pb a b) (k : KB n pb b c) : KB n pb a c :=
  ⟨k.os.trans h.os, k.tape.trans h.tape, k.output.trans h.output, Nat.le_trans h.size k.size, fun i hi hp => (k.block i hi hp).trans (h.block i hi hp)⟩
theorem KB.mono {n m pb : Nat} {a b : World} (h : KB n pb a b) (hm : m ≤ n) : KB m pb a b := ⟨h.os, h.tape, h.output, h.size, fun i hi hp => h.block i (by omega) hp⟩
theorem KB.of_below {n pb : Nat} {a b : World} (h : Below n a b) : KB n pb a b := ⟨h.os, h.tape, h.output, h.size, fun i hi _ => h.block i hi⟩
theorem KB.below {n pb : Nat} {a b : World} (h : KB n pb a b) (hn : n ≤ pb) : Below n a b := ⟨h.os, h.tape, h.output, h.size, fun i hi => h.block i hi (by omega)⟩
theorem KB.setP {n pb o : Nat} {a b : World} (h : KB n pb a b) (v : Value) : KB n pb a (b.setCell ⟨pb, o, none⟩ v) :=
  ⟨h.os, h.tape, h.output, by simpa using h.size, fun i hi hp => by
    rw [← h.block i hi hp]; simp only [World.setCell, Array.getElem?_modify]; rw [if_neg (by omega)]⟩
theorem KB.alloc {n pb : Nat} {a b : World} (h : KB n pb a b) (o : Obj) (hn : n ≤ b.heap.size) : KB n pb a (b.alloc o) :=
  h.trans (KB.of_below ((Below.refl n b).alloc hn o))

def frontTok (en : Int) : List Tok → Tok
  | [] => ⟨0, ⟨#[]⟩, 0, en⟩
  | t :: _ => t

theorem c_front (pb : Nat) (l : List Tok) (en : Int) (w : World) (h : PSt w pb l en) :
    Calls Tryz.prog 30 #[.pointer (some ⟨pb, 0, none⟩)] w fun e w' => e = .returned (frontTok en l).val ∧ Below w.heap.size w w' := by
  obtain ⟨v, hv, ht⟩ := h
  have h0 : w.cell? ⟨pb, 0, none⟩ = some v := by simp [World.cell?, hv]
  have h1 : w.cell? ⟨pb, 1, none⟩ = some (.int .i64 en) := by simp [World.cell?, hv]
  have hlt : pb < w.heap.size := (Array.getElem?_eq_some_iff.1 hv).1
  cases l with
  | nil =>
    obtain ⟨A, c, rfl, h2, h3, h4⟩ := ht
    clear h4 hv
    go_enter Tryz.func30, Tryz.ntmps30
    go_wp2
    exact bodyPost_ret (v := .agg #[.int .u8 0, .string ⟨#[]⟩, .int .i64 0, .int .i64 en]) (by simp [results, Tryz.results30, go_sem]) rfl ⟨rfl, (Below.refl _ _).alloc (Nat.le_refl _) _⟩
  | cons t l =>
    obtain ⟨A, c, rfl, _⟩ := id ht
    obtain ⟨b, o, rfl, h1', h2, h3, hb, -, k0, k1, k2, k3⟩ := ht.tail
    obtain ⟨kd, tx, nm, off⟩ := t
    dsimp only at k0 k1 k2 k3
    clear ht hv
    rw [h1'] at h0
    clear h1'
    have hn : (((l.length + 1 : Nat) : Int) == 0) = false := by rw [beq_eq_false_iff_ne]; omega
    have hbw : b < w.heap.size := by omega
    have hn' : ((l.length : Int) + 1 == 0) = false := by rw [beq_eq_false_iff_ne]; omega
    unfold maxLen at h3
    go_enter Tryz.func30, Tryz.ntmps30
    go_wp2
    exact bodyPost_ret (v := .agg #[.int .u8 kd, .string tx, .int .i64 nm, .int .i64 off]) (by simp [results, Tryz.results30, go_sem]) rfl ⟨rfl, (Below.refl _ _).alloc (Nat.le_refl _) _⟩

theorem c_isWord (s : ByteArray) (w : World) :
    Calls Tryz.prog 58 #[.string s] w fun e w' => e = .returned (.bool (isWordB s)) ∧ w' = w := by
  go_enter Tryz.func58, Tryz.ntmps58
  go_wp2
  all_goals go_ret
  all_goals refine ⟨ret_bool ?_, rfl⟩
  all_goals simp_all [isWordB, words]

theorem c_scopeOf (d : Int) (w : World) :
    Calls Tryz.prog 35 #[.int .u8 d] w fun e w' => e = .returned (.string (scB d)) ∧ w' = w := by
  go_enter Tryz.func35, Tryz.ntmps35
  go_wp2
  all_goals go_ret
  all_goals refine ⟨?_, rfl⟩
  all_goals simp_all [scB]

theorem c_lit1 (s : ByteArray) (t : Tok) (b : Nat) (w : World) (h : w.cell? ⟨b, 0, none⟩ = some (.string s)) :
    Calls Tryz.prog 99 #[t.val, .pointer (some ⟨b, 0, none⟩)] w fun e w' => e = .returned (.bool (fitLit s t)) ∧ Below w.heap.size w w' := by
  obtain ⟨kd, tx, nm, off⟩ := t
  dsimp only [Tok.val]
  have hb := cell_lt' h
  go_enter Tryz.func99, Tryz.ntmps99
  go_wp2
  go_ret
  exact ⟨rfl, (Below.refl _ _).alloc (Nat.le_refl _) _⟩

theorem c_num1 (t : Tok) (w : World) :
    Calls Tryz.prog 108 #[t.val] w fun e w' => e = .returned (.bool (fitNum t)) ∧ Below w.heap.size w w' := by
  obtain ⟨kd, tx, nm, off⟩ := t
  dsimp only [Tok.val]
  go_enter Tryz.func108, Tryz.ntmps108
  go_wp2
  go_ret
  exact ⟨rfl, (Below.refl _ _).alloc (Nat.le_refl _) _⟩

theorem c_name1 (t : Tok) (w : World) :
    Calls Tryz.prog 98 #[t.val] w fun e w' => e = .returned (.bool (fitName t)) ∧ Below w.heap.size w w' := by
  obtain ⟨kd, tx, nm, off⟩ := t
  dsimp only [Tok.val]
  unfold fitName
  dsimp only
  by_cases hk : kd = 1
  · have hkb : (kd == 1) = true := by rw [beq_iff_eq]; exact hk
    clear hk
    rw [hkb]
    cases hw : isWordB tx
    all_goals go_enter Tryz.func98, Tryz.ntmps98
    all_goals go_wp2_with (go_at_call 58; refine (c_isWord _ _).mono ?_; rintro e w' ⟨rfl, rfl⟩; rw [hw])
    all_goals go_ret
    all_goals exact ⟨rfl, (Below.refl _ _).alloc (Nat.le_refl _) _⟩
  · have hkb : (kd == 1) = false := by rw [beq_eq_false_iff_ne]; exact hk
    clear hk
    rw [hkb]
    go_enter Tryz.func98, Tryz.ntmps98
    go_wp2_with (go_at_call 58; refine (c_isWord _ _).mono ?_; rintro e w' ⟨rfl, rfl⟩)
    go_ret
    exact ⟨rfl, (Below.refl _ _).alloc (Nat.le_refl _) _⟩

theorem scB_eq (d : Int) (s : ByteArray) (l : List UInt8) (h : (scB d).toList = l) : ((scB d).toList == s.toList) = (s.toList == l) := by
  rw [h, Bool.eq_iff_iff, beq_iff_eq, beq_iff_eq]; exact eq_comm

theorem c_domainOf (s : ByteArray) (w : World) :
    Calls Tryz.prog 111 #[.string s] w fun e w' => e = .returned (.int .u8 (domB s)) ∧ w' = w := by
  have e1 := scB_eq 1 s [104, 111, 115, 116] (by simp [scB, go_sem])
  have e2 := scB_eq 2 s [114, 97, 99, 107] (by simp [scB, go_sem])
  have e3 := scB_eq 3 s [114, 111, 119] (by simp [scB, go_sem])
  have e4 := scB_eq 4 s [102, 101, 101, 100] (by simp [scB, go_sem])
  have e5 := scB_eq 5 s [108, 111, 111, 112] (by simp [scB, go_sem])
  have E := Lib.hid (And.intro e1 (And.intro e2 (And.intro e3 (And.intro e4 e5))))
  clear e1 e2 e3 e4 e5
  go_enter Tryz.func111, Tryz.ntmps111
  go_wp2_with (fail)
  refine wp_loop_rounds 6 ?_
  rw [rounds_succ]
  go_wp2_with (go_at_call 35; refine (c_scopeOf _ _).mono ?_; rintro e w' ⟨rfl, rfl⟩)
  · obtain ⟨e1, e2, e3, e4, e5⟩ := E.out
    go_ret
    exact ⟨by simp_all [domB], rfl⟩
  rw [rounds_succ]
  go_wp2_with (go_at_call 35; refine (c_scopeOf _ _).mono ?_; rintro e w' ⟨rfl, rfl⟩)
  · obtain ⟨e1, e2, e3, e4, e5⟩ := E.out
    go_ret
    exact ⟨by simp_all [domB], rfl⟩
  rw [rounds_succ]
  go_wp2_with (go_at_call 35; refine (c_scopeOf _ _).mono ?_; rintro e w' ⟨rfl, rfl⟩)
  · obtain ⟨e1, e2, e3, e4, e5⟩ := E.out
    go_ret
    exact ⟨by simp_all [domB], rfl⟩
  rw [rounds_succ]
  go_wp2_with (go_at_call 35; refine (c_scopeOf _ _).mono ?_; rintro e w' ⟨rfl, rfl⟩)
  · obtain ⟨e1, e2, e3, e4, e5⟩ := E.out
    go_ret
    exact ⟨by simp_all [domB], rfl⟩
  rw [rounds_succ]
  go_wp2_with (go_at_call 35; refine (c_scopeOf _ _).mono ?_; rintro e w' ⟨rfl, rfl⟩)
  · obtain ⟨e1, e2, e3, e4, e5⟩ := E.out
    go_ret
    exact ⟨by simp_all [domB], rfl⟩
  rw [rounds_succ]
  go_wp2_with (go_at_call 35; refine (c_scopeOf _ _).mono ?_; rintro e w' ⟨rfl, rfl⟩)
  obtain ⟨e1, e2, e3, e4, e5⟩ := E.out
  go_ret
  exact ⟨by simp_all [domB], rfl⟩
end Go.Proofs.YtplnnpkohdmiaaaGreatDoor
