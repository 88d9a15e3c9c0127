/-
  DERIVED. The contracts of lexis.tokens and lexis.Tokens.
-/
import Derived.Test.YtlfjhechploioaaF
import Derived.Maps.AppendAt
namespace Go.Proofs.Ytlfjhechploioaa
open Go.RowKit
section
variable {P : Program}

/-- An append's slice lies in its old block, or in a new one. -/
theorem appendOwnPlace {w : World} (base : Nat) (t ty e : TypeId) (i : TypeInfo) (z : Value) (size bytes : Nat) (ht : P.underlying t = some (.slice e)) (hi : P.info? e = some i) (hz : i.zero = some z)
    (hsize : i.size = size) (hby : i.bytes = bytes) (hzs : z.cells.size = size) (hsz : 0 < size)
    (v : Value) (n : Nat) (xs : List Value) (hown : w.ownsRow base e size v n xs)
    (a : Addr) (m c : Nat) (news : List Value) (hl : news.length = m * size) (hnews : ∀ j u, news[j]? = some u → w.cell? (a.add j) = some u) (h1 : ∀ u ∈ news, u.oneCell' = true)
    (h63 : n + m ≤ maxLen) (hbytes : (n + m) * bytes ≤ 140737488355328) (hbase : base ≤ w.heap.size) :
    ∃ v' w', (Builtin.append_ #[t, t] ty #[v, .slice (some a) m c]).run P w = .ok v' w' ∧ w'.ownsRow base e size v' (n + m) (xs ++ news) ∧ w.grownBy w' v.ownBlock ∧
      (∀ g, v'.ownBlock = some g → v.ownBlock = some g ∨ w.heap.size ≤ g) := by
  obtain ⟨v', w', hrun, r1, r2, _⟩ := run_append_own (P := P) w base t ty e i z size bytes ht hi hz hsize hby hzs hsz v n xs hown a m c news hl hnews h1 h63 hbytes hbase
  refine ⟨v', w', hrun, r1, r2, ?_⟩
  have hown' := hown
  rcases hown.2 with ⟨rfl, rfl⟩ | ⟨g, cap, cur, rfl, hbg, hg, hnc, hcm, hcs, htake⟩
  · have hnil : w.ownsRow w.heap.size e size (.slice none 0 0) 0 xs := ⟨hown.1, .inl ⟨rfl, rfl⟩⟩
    obtain ⟨v'', w'', hrun', s1, _, _⟩ := run_append_own (P := P) w w.heap.size t ty e i z size bytes ht hi hz hsize hby hzs hsz _ 0 xs hnil a m c news hl hnews h1 h63 hbytes (Nat.le_refl _)
    have heq := hrun.symm.trans hrun'
    injection heq with e1 e2
    subst e1
    exact fun g hg => .inr (s1.lt g hg).1
  · by_cases hroom : n + m ≤ cap
    · have hfit : n * i.size + news.length ≤ cur.size := by rw [hl, hcs, hsize, ← Nat.add_mul]; exact Nat.mul_le_mul_right _ hroom
      have hr := run_append_room (P := P) w t ty e i ht hi g n cap cur hg a m c news (by rw [hl, hsize]) hnews h1 hroom hfit
      have heq := hrun.symm.trans hr
      injection heq with e1 e2
      subst e1
      exact fun g' hg' => .inl hg'
    · have holds : ∀ j u, xs[j]? = some u → w.cell? ((⟨g, 0, none⟩ : Addr).add j) = some u := hown'.cells (g := g) rfl
      simp only [maxLen] at h63
      have hr := run_append_grow (P := P) w t ty e i z ht hi hz ⟨g, 0, none⟩ n cap xs (by rw [hown'.1, hsize]) holds a m c news (by rw [hl, hsize]) hnews (by omega) (by omega) (growslice_fits (by omega) (by rw [hby]; exact hbytes))
      have heq := hrun.symm.trans hr
      injection heq with e1 e2
      subst e1
      exact fun g2 hg2 => .inr (by simp [Value.ownBlock] at hg2; omega)

theorem wpListIn_append_place {F : Fence} {n : Nat} (w : World) {ops : Array Oper} {rest : List Oper} {o : Oper} {a : Act} {Q : Exit → Act → World → Prop}
    (hg : o.guard = none) (s x : Operand) (t : TypeId) (hop : o.op = Op.call { callee := Callee.builtin Builtin.append, args := #[s, x], argTypes := #[t, t] })
    (base : Nat) (e : TypeId) (i : TypeInfo) (z : Value) (size bytes : Nat) (h1 : P.underlying t = some (.slice e)) (h2 : P.info? e = some i) (h3 : i.zero = some z) (h4 : i.size = size) (h5 : i.bytes = bytes) (h6 : z.cells.size = size) (h7 : 0 < size)
    (v : Value) (k : Nat) (xs : List Value) (hs : a.eval s = v) (hown : w.ownsRow base e size v k xs) (ad : Addr) (m c : Nat) (news : List Value) (hx : a.eval x = .slice (some ad) m c) (hn : news.length = m * size)
    (hc : ∀ j u, news[j]? = some u → w.cell? (ad.add j) = some u) (h1c : ∀ u ∈ news, u.oneCell' = true) (b1 : k + m ≤ maxLen) (b2 : (k + m) * bytes ≤ 140737488355328) (b3 : base ≤ w.heap.size)
    (hK : ∀ v' w', w'.ownsRow base e size v' (k + m) (xs ++ news) → w.grownBy w' v.ownBlock → (∀ g, v'.ownBlock = some g → v.ownBlock = some g ∨ w.heap.size ≤ g) → wpListIn F n P ops Q rest (a.put o.dst v') w') :
    wpListIn F n P ops Q (o :: rest) a w := by
  obtain ⟨v', w', hrun, r1, r2, r3⟩ := appendOwnPlace (P := P) base t o.type e i z size bytes h1 h2 h3 h4 h5 h6 h7 v k xs hown ad m c news hn hc h1c b1 b2 b3
  refine wpListIn_plain hg fun K hK' => ?_
  unfold Oper.wpIn
  constructor
  · simp [Oper.about, hop, resolve, Target.leads, Sem.run_pure]
  · rw [Oper.semAt_plain F _ _ (by rw [hop]; intro c hc'; cases hc')]
    simp [execOp, hop, resolve, invoke, builtin, hs, hx, hrun, Result.andThen]
    exact hK' _ _ (hK v' w' r1 r2 r3)
end
open Go.Shelf
attribute [local go_sem] Oper.semAt_some

/-- Behind an append onto the slice in box B, and the store back. -/
theorem KeepT.appended {W w1 : World} {n₀ B : Nat} {size : Nat} {v v' : Value} {k m : Nat} {xs ys : List Value} {tmp : Obj}
    (hv : Boxed W B 22 v) (hrow : W.ownsRow n₀ 34 size v k xs) (hown' : w1.ownsRow n₀ 34 size v' m ys) (hgrow : (W.alloc tmp).grownBy w1 v.ownBlock)
    (hpl : ∀ g, v'.ownBlock = some g → v.ownBlock = some g ∨ (W.alloc tmp).heap.size ≤ g) : KeepT B W (w1.setCell ⟨B, 0, none⟩ v') := by
  have hs : (W.alloc tmp).heap.size = W.heap.size + 1 := by simp
  have hv1 : Boxed w1 B 22 v := (hv.alloc tmp).kept hgrow (hv.not_row (by decide) hrow)
  have hv2 := hv1.set v'
  have hz2 : (w1.setCell ⟨B, 0, none⟩ v').heap.size = w1.heap.size := by simp
  have ho : ob B W = v.ownBlock := by unfold ob; rw [show W.heap[B]? = _ from hv]; rfl
  have ho2 : ob B (w1.setCell ⟨B, 0, none⟩ v') = v'.ownBlock := by unfold ob; rw [show (w1.setCell ⟨B, 0, none⟩ v').heap[B]? = _ from hv2]; rfl
  have hsz := hgrow.size
  refine ⟨by omega, fun g hg => ?_, fun _ g hg => ?_, fun i cs t fr hi hc hn => ?_⟩
  · rw [ho2] at hg
    rw [ho]
    rcases hpl g hg with h | h
    · exact .inl h
    · exact .inr (by omega)
  · rw [ho2] at hg
    have := (hown'.lt g hg).2
    omega
  · have hlt := (Array.getElem?_eq_some_iff.1 hc).1
    rw [ho] at hn
    have h1 : w1.heap[i]? = some (.cells cs t fr) := (hgrow.block i (by omega) (fun e => hn e.symm)).trans ((Below.heap_alloc W tmp i hlt).trans hc)
    exact (Below.heap_setCell w1 ⟨B, 0, none⟩ v' i (by show i ≠ B; omega)).trans h1

def tokCells (l : List Tok) : List Value := l.flatMap Tok.cells
theorem tokCells_len (l : List Tok) : (tokCells l).length = l.length * 4 := by
  induction l with
  | nil => rfl
  | cons t l ih => simp only [tokCells, List.flatMap_cons, List.length_append, List.length_cons] at ih ⊢; rw [ih]; simp [Tok.cells]; omega
theorem tokCells_snoc (l : List Tok) (t : Tok) : tokCells (l ++ [t]) = tokCells l ++ t.cells := by simp [tokCells]

def toksOf (s : ByteArray) : List Tok × Int × Int :=
  if 4096 < s.size then ([], 4096, 3)
  else match (seqOf s).find? (fun x => x.2 != 0) with
    | some x => ([], x.1.off, x.2)
    | none => ((seqOf s).map (·.1), 0, 0)

theorem seqF_len (s : ByteArray) : ∀ f k, (seqF s f k).length ≤ f
  | 0, k => by simp [seqF]
  | f + 1, k => by
    unfold seqF
    split
    · split
      · have := seqF_len s f (k + (readOf (s.extract k s.size)).1.text.size + sk false ((bt s).drop (k + (readOf (s.extract k s.size)).1.text.size)))
        simp only [List.length_cons]; omega
      · simp
    · simp

theorem c_tokens (n : Nat) (s : ByteArray) (w : World) :
    CallsIn Fence.wide n Try.prog 18 #[.string s] w fun e w' => e = .returned (.func (.func 24) #[] #[.pointer (some ⟨w.heap.size, 0, none⟩)]) ∧ w' = w.alloc (.cells #[.string s] 9) := by
  refine callsIn_of_wp Try.func18 rfl trivial ?_ rfl
  simp only [Try.ntmps18, List.size_toArray, List.length_cons, List.length_nil, Nat.reduceAdd, Nat.reduceSub, Array.replicate_succ, Array.replicate_zero, List.push_toArray, List.append_toArray, List.nil_append, List.cons_append]
  gi_wp2
  go_ret
  exact ⟨rfl, rfl⟩

theorem c_stops (n : Nat) (hn : 1 ≤ n) (B Bs : Nat) (hBs : B < Bs) (s : ByteArray) (hs : s.size ≤ maxLen) (w : World) (hW : Bs < w.heap.size) (hb : Boxed w Bs 9 (.string s)) (h0 : ob B w = none) :
    SeqStopsK Fence.wide n Try.prog 24 #[.pointer (some ⟨Bs, 0, none⟩)] (fun x : Tok × Int => #[x.1.val, .int .i64 x.2]) (KeepT B) (fun ys => ys = seqOf s) (fun pre => pre <+: seqOf s) (seqOf s).length w := fun l J Jx W hB hJ _ hY hj =>
  c_iter n hn l B Bs hBs s hs J Jx W (Nat.lt_of_lt_of_le hW hB.size) hJ hY (Boxed.below_ hb hB hW) ((ob_of (hB.block B (by omega))).trans h0) hj

theorem info34 : (Try.prog.info? 34).map (fun i => (i.zero, i.size, i.bytes)) = some (some Tok.zero.val, 4, 40) := by kernel_rfl

/-- What a call of Tokens leaves. -/
def TokPost (r : List Tok × Int × Int) (w : World) (e : Ending) (w' : World) : Prop :=
  ∃ v, e = .returned (.tuple #[v, .int .i64 r.2.1, .int .i64 r.2.2]) ∧ w'.ownsRow w.heap.size 34 4 v r.1.length (tokCells r.1) ∧ Below w.heap.size w w'

/-- The invariant between two rounds: what has come is in the slice in box +3, no result has been laid. -/
def GoOn (w : World) (pre : List (Tok × Int)) (W : World) : Prop :=
  (((∃ v, Boxed W (w.heap.size + 1 + 1 + 1) 22 v ∧ W.ownsRow w.heap.size 34 4 v pre.length (tokCells (pre.map (·.1))) ∧ True) ∧ Boxed W w.heap.size 22 (.slice none 0 0)) ∧
    Boxed W (w.heap.size + 1) 3 (.int .i64 0) ∧ Boxed W (w.heap.size + 1 + 1) 23 (.int .i64 0)) ∧ (∀ y ∈ pre, y.2 = 0) ∧ Below w.heap.size w W
/-- A round has left: the error's offset and number are laid. -/
def LeftBy (w : World) (c : Code) (pre : List (Tok × Int)) (W : World) : Prop :=
  ∃ (pre' : List (Tok × Int)) (x : Tok × Int), (c = .ret ∧ pre = pre' ++ [x] ∧ (∀ y ∈ pre', y.2 = 0) ∧ x.2 ≠ 0) ∧
    (Boxed W w.heap.size 22 (.slice none 0 0) ∧ Boxed W (w.heap.size + 1) 3 (.int .i64 x.1.off) ∧ Boxed W (w.heap.size + 1 + 1) 23 (.int .i64 x.2)) ∧ Below w.heap.size w W
/-- The round's activation, the token in a box. -/
def InRound (s : ByteArray) (w : World) (x : Tok × Int) (a' : Act) (W : World) : Prop :=
  ∃ Bx, w.heap.size + 1 + 1 + 1 < Bx ∧ W.heap[Bx]? = some (.cells #[.int .u8 x.1.kind, .string x.1.text, .int .i64 x.1.num, .int .i64 x.1.off] 34 (0, 0)) ∧
    a' = { tmps := #[.string s, undef, .pointer (some ⟨w.heap.size, 0, none⟩), .pointer (some ⟨w.heap.size + 1, 0, none⟩), .pointer (some ⟨w.heap.size + 1 + 1, 0, none⟩), .pointer (some ⟨w.heap.size + 1 + 1 + 1, 0, none⟩),
      .pointer (some ⟨Bx, 0, none⟩), .int .i64 x.2, .string s, .int .i64 s.size, .bool (decide (4096 < (s.size : Int))), .string s, .func (.func 24) #[] #[.pointer (some ⟨w.heap.size + 1 + 1 + 1 + 1, 0, none⟩)],
      .agg #[.int .u8 x.1.kind, .string x.1.text, .int .i64 x.1.num, .int .i64 x.1.off], .int .i64 x.2, undef, undef, undef, undef, undef, undef, undef, undef, undef, undef], defers := [] }

theorem goOn_own (w : World) {B : Nat} (hB : w.heap.size ≤ B) : OwnFrom B (GoOn w) :=
  OwnFrom.and (OwnFrom.and (OwnFrom.and (Own.from (holdsRow_own w.heap.size (w.heap.size + 1 + 1 + 1) 22 34 4 (fun pre : List (Tok × Int) => pre.length) (fun pre => tokCells (pre.map (·.1))) (fun _ _ => True)) _) (Own.from (boxed_own _ _ _) _))
    (OwnFrom.and (Own.from (boxed_own _ _ _) _) (Own.from (boxed_own _ _ _) _))) (OwnFrom.and (ownFrom_pure _ _) (ownFrom_below (Nat.le_refl _) hB))
theorem leftBy_own (w : World) {B : Nat} (hB : w.heap.size ≤ B) (c : Code) : OwnFrom B (LeftBy w c) := by
  rintro pre X Y row ⟨pre', x, h1, ⟨h2, h3, h4⟩, h5⟩ hg hr
  have hr' : ∀ r, row = some r → ∃ o : Obj, X.heap[r]? = some o ∧ o.isCells = false := fun r e => (hr r e).2
  exact ⟨pre', x, h1, ⟨boxed_own _ 22 (fun (_ : Unit) => Value.slice none 0 0) () X Y row h2 hg hr', boxed_own _ 3 (fun (_ : Unit) => Value.int .i64 x.1.off) () X Y row h3 hg hr', boxed_own _ 23 (fun (_ : Unit) => Value.int .i64 x.2) () X Y row h4 hg hr'⟩,
    ownFrom_below (β := Unit) (Nat.le_refl _) hB () X Y row h5 hg hr⟩
theorem inRound_own (s : ByteArray) (w : World) (x : Tok × Int) (a' : Act) (B : Nat) : OwnFrom B (fun (_ : Unit) W => InRound s w x a' W) := by
  rintro _ X Y row ⟨Bx, h1, h2, h3⟩ hg hr
  refine ⟨Bx, h1, (hg.block Bx (Array.getElem?_eq_some_iff.1 h2).1 (fun e => ?_)).trans h2, h3⟩
  obtain ⟨_, o, ho, hc⟩ := hr Bx e.symm
  rw [h2] at ho; cases ho; cases hc

theorem cell_four_new (w : World) (a b c d : Value) (t : TypeId) : ∀ j u, [a, b, c, d][j]? = some u → (w.alloc (.cells #[a, b, c, d] t)).cell? ((⟨w.heap.size, 0, none⟩ : Addr).add j) = some u := by
  intro j u hj
  have h := World.cell?_alloc_mark w #[a, b, c, d] t (0, 0) j
  have e : (⟨w.heap.size, 0, none⟩ : Addr).add j = ⟨w.heap.size, j, none⟩ := by unfold Addr.add; split <;> simp_all
  rw [e]
  exact h.trans (by simpa using hj)

theorem ownsRow_slice {W : World} {base : Nat} {e : TypeId} {size : Nat} {v : Value} {k : Nat} {xs : List Value} (h : W.ownsRow base e size v k xs) : ∃ A n c, v = .slice A n c := by
  rcases h.2 with ⟨rfl, _⟩ | ⟨g, cap, cur, rfl, _⟩
  · exact ⟨_, _, _, rfl⟩
  · exact ⟨_, _, _, rfl⟩

theorem left_end {w W : World} {B : Nat} {pre : List (Tok × Int)} (hB : Below w.heap.size w W) (hz : ∀ y ∈ pre, y.2 = 0) (t : Tok) {er : Int} (her : er ≠ 0)
    (a0 : Boxed W w.heap.size 22 (.slice none 0 0)) (a1 : Boxed W (w.heap.size + 1) 3 (.int .i64 0)) (a2 : Boxed W (w.heap.size + 1 + 1) 23 (.int .i64 0)) :
    KeepsFrom B W (((W.setCell ⟨w.heap.size, 0, none⟩ (.slice none 0 0)).setCell ⟨w.heap.size + 1, 0, none⟩ (.int .i64 t.off)).setCell ⟨w.heap.size + 1 + 1, 0, none⟩ (.int .i64 er)).drew ∧
    LeftBy w .ret (pre ++ [(t, er)]) (((W.setCell ⟨w.heap.size, 0, none⟩ (.slice none 0 0)).setCell ⟨w.heap.size + 1, 0, none⟩ (.int .i64 t.off)).setCell ⟨w.heap.size + 1 + 1, 0, none⟩ (.int .i64 er)).drew := by
  refine ⟨(((((KeepsOthers.setCell W _ _).trans (KeepsOthers.setCell _ _ _)).trans (KeepsOthers.setCell _ _ _)).trans (KeepsOthers.drew _)).from _), pre, (t, er), ⟨rfl, rfl, hz, her⟩, ⟨?_, ?_, ?_⟩, ?_⟩
  · exact ((a0.set _).other (by omega) _).other (by omega) _
  · exact ((a1.other (by omega) _).set _).other (by omega) _
  · exact ((a2.other (by omega) _).other (by omega) _).set _
  · exact (((hB.setCell (p := ⟨w.heap.size, 0, none⟩) (Nat.le_refl _) _).setCell (p := ⟨w.heap.size + 1, 0, none⟩) (by simp) _).setCell (p := ⟨w.heap.size + 1 + 1, 0, none⟩) (by simp; omega) _).drew

set_option maxHeartbeats 1000000 in
theorem c_Tokens (s : ByteArray) (hs : s.size ≤ maxLen) (w : World) :
    Calls Try.prog 10 #[.string s] w (TokPost (toksOf s) w) := by
  have Hs := Lib.hid hs
  unfold maxLen at hs
  by_cases hlen : 4096 < s.size
  · have hv : toksOf s = ([], 4096, 3) := by unfold toksOf; rw [if_pos hlen]
    rw [hv]
    clear hv
    go_enter Try.func10, Try.ntmps10
    go_wp2
    exact bodyPost_ret (v := .tuple #[.slice none 0 0, .int .i64 4096, .int .i64 3]) (by simp [results, Try.results10, go_sem]) rfl
      ⟨_, rfl, World.ownsRow_nil _ _ _ _, (((Below.refl _ _).alloc (Nat.le_refl _) _).alloc (by simp) _).alloc (by simp; omega) _⟩
  refine (callsIn_wide (n := 6)).1 ?_
  obtain ⟨i0, hi, hz0, hz1, hz2⟩ := info_parts info34
  refine callsIn_of_wp_marks Try.func10 rfl trivial ?_ rfl
  simp only [Try.ntmps10, List.size_toArray, List.length_cons, List.length_nil, Nat.reduceAdd, Nat.reduceSub, Array.replicate_succ, Array.replicate_zero, List.push_toArray, List.append_toArray, List.nil_append, List.cons_append]
  gi_wp2_with (refine ⟨trivial, ?_⟩; gi_at_call 18; refine (c_tokens _ _ _).mono ?_; rintro e w' ⟨rfl, rfl⟩)
  obtain ⟨W0, hW0⟩ : ∃ W0, ((((w.alloc (.cells #[.slice none 0 0] 22)).alloc (.cells #[.int .i64 0] 3)).alloc (.cells #[.int .i64 0] 23)).alloc (.cells #[.slice none 0 0] 22)).alloc (.cells #[.string s] 9) = W0 := ⟨_, rfl⟩
  have b0 : Boxed W0 w.heap.size 22 (.slice none 0 0) := by rw [← hW0]; exact ((((Boxed.new w 22 (.slice none 0 0)).alloc _).alloc _).alloc _).alloc _
  have b1 : Boxed W0 (w.heap.size + 1) 3 (.int .i64 0) := by
    rw [← hW0]; have h := (((Boxed.new (w.alloc (.cells #[.slice none 0 0] 22)) 3 (.int .i64 0)).alloc (.cells #[.int .i64 0] 23)).alloc (.cells #[.slice none 0 0] 22)).alloc (.cells #[.string s] 9); simpa using h
  have b2 : Boxed W0 (w.heap.size + 1 + 1) 23 (.int .i64 0) := by
    rw [← hW0]; have h := ((Boxed.new ((w.alloc (.cells #[.slice none 0 0] 22)).alloc (.cells #[.int .i64 0] 3)) 23 (.int .i64 0)).alloc (.cells #[.slice none 0 0] 22)).alloc (.cells #[.string s] 9); simpa using h
  have b3 : Boxed W0 (w.heap.size + 1 + 1 + 1) 22 (.slice none 0 0) := by
    rw [← hW0]; have h := (Boxed.new (((w.alloc (.cells #[.slice none 0 0] 22)).alloc (.cells #[.int .i64 0] 3)).alloc (.cells #[.int .i64 0] 23)) 22 (.slice none 0 0)).alloc (.cells #[.string s] 9); simpa using h
  have b4 : Boxed W0 (w.heap.size + 1 + 1 + 1 + 1) 9 (.string s) := by
    rw [← hW0]; have h := Boxed.new ((((w.alloc (.cells #[.slice none 0 0] 22)).alloc (.cells #[.int .i64 0] 3)).alloc (.cells #[.int .i64 0] 23)).alloc (.cells #[.slice none 0 0] 22)) 9 (.string s); simpa using h
  have hB0 : Below w.heap.size w W0 := by
    rw [← hW0]; exact ((((((Below.refl _ _).alloc (Nat.le_refl _) _).alloc (by simp) _).alloc (by simp; omega) _).alloc (by simp; omega) _).alloc (by simp; omega) _)
  have hsz : W0.heap.size = w.heap.size + 5 := by rw [← hW0]; simp
  rw [hW0]
  clear hW0
  refine wpIn_rangeFunc_ownH rfl (by omega) (gf := 24) (lb := #[.pointer (some ⟨w.heap.size + 1 + 1 + 1 + 1, 0, none⟩)]) rfl trivial (enters_of Try.func24 (by kernel_rfl) rfl)
    (c_stops (6 - 1) (by omega) (w.heap.size + 1 + 1 + 1) (w.heap.size + 1 + 1 + 1 + 1) (by omega) s Hs.out W0 (by omega) b4 (by unfold ob; rw [show W0.heap[w.heap.size + 1 + 1 + 1]? = _ from b3]; rfl))
    (fun h k => KeepT.trans h k) (KeepT.putObj (by omega)) (Below.refl _ _) (fun _ => rfl)
    (GoOn w) (LeftBy w) (goOn_own w (by omega)) (leftBy_own w (by omega)) ⟨⟨⟨⟨_, b3, World.ownsRow_nil _ _ _ _, trivial⟩, b0⟩, b1, b2⟩, (by intro y hy; cases hy), hB0⟩
    (InRound s w) (fun x a' => inRound_own s w x a' _) ?assign ?body ?done ?stop
  case assign =>
    rintro l pre ⟨⟨kd, tx, nm, off⟩, er⟩ W K ⟨⟨⟨⟨v, hv, hr, ht⟩, a0⟩, a1, a2⟩, hz, hB⟩ hK
    dsimp only [Tok.val]
    gi_wp2
    exact hK _ _ ((KeepsOthers.alloc _ _).from _) (KeepT.alloc W _ hv.lt) ⟨⟨⟨⟨v, hv.alloc _, hr.kept (World.grownBy_alloc W _ none) (Classical.em _), ht⟩, a0.alloc _⟩, a1.alloc _, a2.alloc _⟩, hz, hB.alloc hB.size _⟩
      ⟨W.heap.size, hv.lt, heap_alloc_new W _, rfl⟩
  case body =>
    rintro l pre ⟨⟨kd, tx, nm, off⟩, er⟩ a' W hl ⟨r, hr⟩ ⟨⟨⟨⟨v, hv, hrow, ht⟩, a0⟩, a1, a2⟩, hz, hB⟩ ⟨Bx, hBx, hbx, rfl⟩ hlt
    have hc := hv.cell
    have hx0 : W.cell? ⟨Bx, 0, none⟩ = some (.int .u8 kd) := by simp [World.cell?, hbx]
    have hx1 : W.cell? ⟨Bx, 1, none⟩ = some (.string tx) := by simp [World.cell?, hbx]
    have hx2 : W.cell? ⟨Bx, 2, none⟩ = some (.int .i64 nm) := by simp [World.cell?, hbx]
    have hx3 : W.cell? ⟨Bx, 3, none⟩ = some (.int .i64 off) := by simp [World.cell?, hbx]
    by_cases her : er = 0
    · subst her
      have hpl : pre.length ≤ 4096 := by have := seqF_len s (s.size + 1) (sk false (bt s)); unfold seqOf at hlt; omega
      have hfr := hv.frozen
      have Hhr := Lib.hid hr
      have Hhz := Lib.hid hz
      clear hr hz hlt
      gi_wp2_with (gi_at_builtin; refine wpListIn_append_place _ rfl _ _ 22 rfl w.heap.size 34 i0 Tok.zero.val 4 40 Try.underlying22 hi hz0 hz1 hz2 rfl (by decide) _ _ _ rfl (hrow.alloc _) ⟨W.heap.size, 0, none⟩ 1 1 (Tok.cells ⟨kd, tx, nm, off⟩) rfl rfl (cell_four_new _ _ _ _ _ _) (by simp [Value.oneCell', Tok.cells]) (by simp only [maxLen]; omega) (by omega) (by have := hB.size; simp; omega) ?_; intro v' w1 hown' hgrow hplace; obtain ⟨g', cap', rfl⟩ := ownsRow_succ hown'; obtain ⟨hv1, hv2, hr2, hk2, hb2⟩ := hv.appended (by decide) hrow hB.size (by omega) hown' hgrow; have hkt := KeepT.appended hv hrow hown' hgrow hplace; have hc1 := hv1.cell; have hf1 := hv1.frozen)
      refine ⟨hk2.from _, hkt, ⟨⟨⟨⟨_, hv2, ?_, trivial⟩, ?_⟩, ?_, ?_⟩, ?_, hB.trans hb2⟩⟩
      · rw [List.length_append, List.map_append, List.map_cons, List.map_nil, tokCells_snoc]
        exact hr2
      · exact ((a0.alloc _).kept hgrow (a0.not_row (by decide) hrow)).other (by omega) _
      · exact ((a1.alloc _).kept hgrow (a1.not_row (by decide) hrow)).other (by omega) _
      · exact ((a2.alloc _).kept hgrow (a2.not_row (by decide) hrow)).other (by omega) _
      · intro y hy
        rcases List.mem_append.1 hy with h | h
        · exact Hhz.out y h
        · rw [List.mem_singleton.1 h]
    · have hxb : (er != 0) = true := by rw [bne_iff_ne]; exact her
      have Her := Lib.hid her
      have c0 := a0.cell
      have c1 := a1.cell
      have c2 := a2.cell
      have f0 := a0.frozen
      have f1 := a1.frozen
      have f2 := a2.frozen
      have hfin := left_end (B := W0.heap.size) hB hz ⟨kd, tx, nm, off⟩ Her.out a0 a1 a2
      have Hfin := Lib.hid hfin
      have hfm : Try.prog.follows Departure.mixedOrders = true := by kernel_rfl
      clear her hr hfin
      gi_wp2
      gi_region_o
      all_goals gi_wp2
      all_goals exact Hfin.out
  case done =>
    rintro D ys W hD rfl ⟨⟨⟨⟨v, hv, hrow, _⟩, a0⟩, a1, a2⟩, hz, hB⟩ hK
    have hv0 : toksOf s = ((seqOf s).map (·.1), 0, 0) := by
      unfold toksOf
      rw [if_neg hlen, List.find?_eq_none.2 (fun x hx => by simp [hz x hx])]
    have Hv0 := Lib.hid hv0
    have c0 := a0.cell
    have c1 := a1.cell
    have c2 := a2.cell
    have f0 := a0.frozen
    have f1 := a1.frozen
    have f2 := a2.frozen
    have hc := hv.cell
    have Hz := Lib.hid hz
    have HK := Lib.hid hK
    clear hv0 hz hK
    obtain ⟨sA, sn, sc, rfl⟩ := ownsRow_slice hrow
    gi_wp2
    have hm0 := ((a0.set (.slice sA sn sc)).other (B' := w.heap.size + 1) (by omega) (.int .i64 0)).other (B' := w.heap.size + 1 + 1) (by omega) (.int .i64 0)
    have hm1 := ((a1.other (B' := w.heap.size) (by omega) (.slice sA sn sc)).set (.int .i64 0)).other (B' := w.heap.size + 1 + 1) (by omega) (.int .i64 0)
    have hm2 := ((a2.other (B' := w.heap.size) (by omega) (.slice sA sn sc)).other (B' := w.heap.size + 1) (by omega) (.int .i64 0)).set (.int .i64 0)
    have hrw := ((hrow.kept (grownBy_setCell' W w.heap.size (.slice sA sn sc)) (.inr (a0.not_row (by decide) hrow).symm)).kept (grownBy_setCell' _ (w.heap.size + 1) (.int .i64 0)) (.inr ((a1.other (B' := w.heap.size) (by omega) (.slice sA sn sc)).not_row (by decide) (hrow.kept (grownBy_setCell' W w.heap.size (.slice sA sn sc)) (.inr (a0.not_row (by decide) hrow).symm))).symm)).kept (grownBy_setCell' _ (w.heap.size + 1 + 1) (.int .i64 0))
      (.inr (((a2.other (B' := w.heap.size) (by omega) (.slice sA sn sc)).other (B' := w.heap.size + 1) (by omega) (.int .i64 0)).not_row (by decide) ((hrow.kept (grownBy_setCell' W w.heap.size (.slice sA sn sc)) (.inr (a0.not_row (by decide) hrow).symm)).kept (grownBy_setCell' _ (w.heap.size + 1) (.int .i64 0)) (.inr ((a1.other (B' := w.heap.size) (by omega) (.slice sA sn sc)).not_row (by decide) (hrow.kept (grownBy_setCell' W w.heap.size (.slice sA sn sc)) (.inr (a0.not_row (by decide) hrow).symm))).symm))).symm)
    have hbl := ((hB.setCell (p := ⟨w.heap.size, 0, none⟩) (Nat.le_refl _) (.slice sA sn sc)).setCell (p := ⟨w.heap.size + 1, 0, none⟩) (by simp) (.int .i64 0)).setCell (p := ⟨w.heap.size + 1 + 1, 0, none⟩) (by simp; omega) (.int .i64 0)
    have hK := (((KeepsOthers.setCell W ⟨w.heap.size, 0, none⟩ (.slice sA sn sc)).trans (KeepsOthers.setCell _ ⟨w.heap.size + 1, 0, none⟩ (.int .i64 0))).trans (KeepsOthers.setCell _ ⟨w.heap.size + 1 + 1, 0, none⟩ (.int .i64 0))).same D _ HK.out rfl
    generalize ((W.setCell ⟨w.heap.size, 0, none⟩ (.slice sA sn sc)).setCell ⟨w.heap.size + 1, 0, none⟩ (.int .i64 0)).setCell ⟨w.heap.size + 1 + 1, 0, none⟩ (.int .i64 0) = W5 at hm0 hm1 hm2 hrw hbl hK ⊢
    refine ⟨by simp, .inl ⟨_, _, rfl, run_takeDeferred hK, ?_⟩⟩
    have k0 := (hm0.kept (grownBy_putObj' W5 D (.deferred none)) (by simp; omega)).cell
    have k1 := (hm1.kept (grownBy_putObj' W5 D (.deferred none)) (by simp; omega)).cell
    have k2 := (hm2.kept (grownBy_putObj' W5 D (.deferred none)) (by simp; omega)).cell
    rw [Hv0.out]
    refine ⟨.tuple #[.slice sA sn sc, .int .i64 0, .int .i64 0], by simp [results, Try.results10, go_sem, k0, k1, k2], _, rfl, ?_, hbl.trans (belowK_b (w := w) (Nat.le_refl _) W5 D _ _ (by omega) hK rfl rfl)⟩
    have := ownsRow_putObj hrw (.deferred none) hK rfl
    rwa [List.length_map]
  case stop =>
    rintro D c pre W hD hpre ⟨pre', x, ⟨rfl, rfl, hz, hx⟩, ⟨a0, a1, a2⟩, hB⟩ hK
    have hv0 : toksOf s = ([], x.1.off, x.2) := by
      unfold toksOf
      obtain ⟨rest, hrest⟩ := hpre
      rw [if_neg hlen, ← hrest, List.append_assoc, List.find?_append, List.find?_eq_none.2 (fun y hy => by simp [hz y hy])]
      simp [hx]
    rw [hv0]
    have c0 := a0.cell
    have c1 := a1.cell
    have c2 := a2.cell
    clear hv0 hz hx
    have HK := Lib.hid hK
    clear hK
    gi_wp2
    have hK := HK.out
    refine ⟨by simp, .inl ⟨_, _, rfl, run_takeDeferred hK, ?_⟩⟩
    have k0 := (a0.kept (grownBy_putObj' W D (.deferred none)) (by simp; omega)).cell
    have k1 := (a1.kept (grownBy_putObj' W D (.deferred none)) (by simp; omega)).cell
    have k2 := (a2.kept (grownBy_putObj' W D (.deferred none)) (by simp; omega)).cell
    exact ⟨.tuple #[.slice none 0 0, .int .i64 x.1.off, .int .i64 x.2], by simp [results, Try.results10, go_sem, k0, k1, k2], _, rfl, World.ownsRow_nil _ _ _ _, hB.trans (belowK_b (w := w) (Nat.le_refl _) W D _ _ (by omega) hK rfl rfl)⟩
end Go.Proofs.Ytlfjhechploioaa
