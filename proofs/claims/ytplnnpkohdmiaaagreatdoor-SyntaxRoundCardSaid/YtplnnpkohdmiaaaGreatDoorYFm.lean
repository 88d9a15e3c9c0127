/-
  DERIVED. Several texts in one.
-/
import Derived.RangeFuncNested
import Derived.RangeFuncBound
import Derived.RangeFuncCalls
import Derived.RangeFuncLeaves
import Derived.RangeFuncBox
import Derived.Shelf.Abstract
import Derived.Shelf.RegionOpen
import Derived.OwnWalkIn
import Derived.TacticsInMore
import Derived.LoopNIn
import Derived.LoopIn
import Derived.Test.YtplnnpkohdmiaaaGreatDoorYAm
import Derived.Maps.AppendAt
set_option linter.unusedVariables false
set_option linter.unusedSimpArgs false

/- DERIVED. The contract of the iterator that lexis.tokens makes. -/
namespace Go.Proofs.YtplnnpkohdmiaaaGreatDoor
open Go.RowKit Go.Shelf
attribute [local go_sem] Oper.semAt_some

/-- What the iterator yields from offset k on: each token with 0; an error with a token that has only its offset. -/
def seqF (s : ByteArray) : Nat → Nat → List (Tok × Int)
  | 0, _ => []
  | f + 1, k =>
    if k < s.size then
      if (readOf (s.extract k s.size)).2 = 0 then
        ({ (readOf (s.extract k s.size)).1 with off := (k : Int) }, 0) :: seqF s f (k + (readOf (s.extract k s.size)).1.text.size + sk false ((bt s).drop (k + (readOf (s.extract k s.size)).1.text.size)))
      else [({ (readOf (s.extract k s.size)).1 with off := (k : Int) }, (readOf (s.extract k s.size)).2)]
    else []
def seqOf (s : ByteArray) : List (Tok × Int) := seqF s (s.size + 1) (sk false (bt s))

/-- The own block of the slice in box B. -/
def ob (B : Nat) (W : World) : Option Nat :=
  match W.heap[B]? with
  | some (.cells cs _ _) => (cs[0]?).bind Value.ownBlock
  | _ => none

/-- What a round keeps: all cells above box B but those of the slice that lies in it. -/
structure KeepT (B : Nat) (W W' : World) : Prop where
  size : W.heap.size ≤ W'.heap.size
  row : ∀ g, ob B W' = some g → ob B W = some g ∨ W.heap.size ≤ g
  lt : (∀ g, ob B W = some g → g < W.heap.size) → ∀ g, ob B W' = some g → g < W'.heap.size
  same : ∀ i cs t fr, B < i → W.heap[i]? = some (.cells cs t fr) → ob B W ≠ some i → W'.heap[i]? = some (.cells cs t fr)

theorem KeepT.trans {B : Nat} {X Y Z : World} (h : KeepT B X Y) (k : KeepT B Y Z) : KeepT B X Z :=
  ⟨Nat.le_trans h.size k.size,
   fun g hg => by
    rcases k.row g hg with h1 | h1
    · exact h.row g h1
    · exact .inr (Nat.le_trans h.size h1),
   fun hl => k.lt (h.lt hl),
   fun i cs t fr hi hc hn => k.same i cs t fr hi (h.same i cs t fr hi hc hn) (fun e => by
    rcases h.row i e with h1 | h1
    · exact hn h1
    · have := (Array.getElem?_eq_some_iff.1 hc).1; omega)⟩

theorem ob_of {B : Nat} {W W' : World} (h : W'.heap[B]? = W.heap[B]?) : ob B W' = ob B W := by unfold ob; rw [h]

theorem KeepT.putObj {B : Nat} {w : World} (hB : B < w.heap.size) (W : World) (l : Nat) (o o' : Obj) (hl : w.heap.size ≤ l) (h : W.heap[l]? = some o) (ho : o.isCells = false) (_ : o.isWalk = false) : KeepT B W (W.putObj l o') := by
  have hb : ob B (W.putObj l o') = ob B W := ob_of (World.putObj_heap_other (by omega))
  have hs : (W.putObj l o').heap.size = W.heap.size := by simp
  refine ⟨by omega, fun g hg => .inl (hb ▸ hg), fun hg g h1 => by rw [hs]; exact hg g (hb ▸ h1), fun i cs t fr hi hc _ => ?_⟩
  have hne : i ≠ l := by rintro rfl; rw [h] at hc; cases hc; cases ho
  exact (World.putObj_heap_other (by omega)).trans hc

theorem KeepT.alloc {B : Nat} (W : World) (o : Obj) (hB : B < W.heap.size) : KeepT B W (W.alloc o) := by
  have hb : ob B (W.alloc o) = ob B W := ob_of (Below.heap_alloc W o B hB)
  refine ⟨by simp, fun g hg => .inl (hb ▸ hg), fun hg g h1 => by have := hg g (hb ▸ h1); simp; omega, fun i cs t fr hi hc _ => ?_⟩
  exact (Below.heap_alloc W o i (Array.getElem?_eq_some_iff.1 hc).1).trans hc

theorem seqF_end (s : ByteArray) (f k : Nat) (h : s.size ≤ k) : seqF s f k = [] := by
  cases f with
  | zero => rfl
  | succ f => simp [seqF, Nat.not_lt.2 h]

theorem name_ok (s : ByteArray) (h : (nameOf s).2 = 0) : (nameOf s).1.text = s := by
  unfold nameOf at h ⊢
  by_cases h1 : 12 < s.size
  · rw [if_pos h1] at h; cases h
  · rw [if_neg h1]
theorem number_ok (s : ByteArray) (h : (numberOf s).2 = 0) : (numberOf s).1.text = s := by
  unfold numberOf at h ⊢
  by_cases h1 : 1 < s.size ∧ (bt s).head? = some 48
  · rw [if_pos h1] at h; cases h
  · rw [if_neg h1] at h ⊢
    by_cases h2 : 9 < s.size
    · rw [if_pos h2] at h; cases h
    · rw [if_neg h2]
theorem fr_pos (p : UInt8 → Bool) (s : ByteArray) (c : UInt8) (hh : (bt s).head? = some c) (hp : p c = true) : 0 < fr p (bt s) := by
  cases hb : bt s with
  | nil => rw [hb] at hh; cases hh
  | cons d r =>
    rw [hb] at hh
    injection hh with hh
    subst hh
    simp [fr, hp]

/-- The text of a token that is read is a part of what stands there, and not empty. -/
theorem read_ok (s : ByteArray) (h : (readOf s).2 = 0) : ∃ n, 0 < n ∧ n ≤ s.size ∧ (readOf s).1.text = s.extract 0 n := by
  unfold readOf at h ⊢
  cases hh : (bt s).head? with
  | none => rw [hh] at h; cases h
  | some c =>
    rw [hh] at h
    have h0 : 0 < s.size := by
      rw [← bt_len]
      cases hb : bt s with
      | nil => rw [hb] at hh; cases hh
      | cons d r => simp
    simp only at h ⊢
    by_cases hl : isLe c = true
    · rw [if_pos hl] at h ⊢
      have := fr_le inNa (bt s)
      rw [bt_len] at this
      exact ⟨_, fr_pos inNa s c hh (by simp [inNa, hl]), this, name_ok _ h⟩
    · rw [if_neg hl] at h ⊢
      by_cases hd : isDi c = true
      · rw [if_pos hd] at h ⊢
        have := fr_le isDi (bt s)
        rw [bt_len] at this
        exact ⟨_, fr_pos isDi s c hh hd, this, number_ok _ h⟩
      · rw [if_neg hd] at h ⊢
        by_cases hg : isSi c = true
        · rw [if_pos hg] at h ⊢
          exact ⟨1, by omega, by omega, rfl⟩
        · rw [if_neg hg] at h; cases h

theorem only_of_below {a w : World} (h : Below a.heap.size a w) (row : Option Nat) : a.grownBy w row := ⟨h.os, h.tape, h.output, h.size, fun i hi _ => h.block i hi⟩

theorem Boxed.below_ {W W' : World} {B n : Nat} {t : TypeId} {v : Value} (h : Boxed W B t v) (hb : Below n W W') (hn : B < n) : Boxed W' B t v := (hb.block B hn).trans h

theorem iter_after {B Bs : Nat} {wr w1 W3 : World} {tb : Array Value} {v : Value} (hBs : B < Bs) (hgd : ∀ g, ob B wr = some g → g < wr.heap.size) (hne : ob B wr ≠ some Bs) (hbx : Boxed wr Bs 9 v)
    (hbl : Below wr.heap.size wr w1) (hk : KeepT B (w1.alloc (.cells tb 62)) W3) :
    W3.heap[w1.heap.size]? = some (.cells tb 62 (0, 0)) ∧ Boxed W3 Bs 9 v ∧ (∀ g, ob B W3 = some g → g < W3.heap.size) ∧ ob B W3 ≠ some Bs ∧ wr.heap.size ≤ W3.heap.size := by
  have hlt := hbx.lt
  have hz := hbl.size
  have hbl2 : Below wr.heap.size wr (w1.alloc (.cells tb 62)) := hbl.alloc hbl.size _
  have ho : ob B (w1.alloc (.cells tb 62)) = ob B wr := ob_of (hbl2.block B (by omega))
  have hs : (w1.alloc (.cells tb 62)).heap.size = w1.heap.size + 1 := by simp
  refine ⟨hk.same _ _ _ _ (by omega) (heap_alloc_new w1 _) (fun e => ?_), hk.same _ _ _ _ hBs (Boxed.below_ hbx hbl2 hlt) (by rw [ho]; exact hne), hk.lt (fun g hg => ?_), fun e => ?_, by have := hk.size; omega⟩
  · have := hgd _ (ho ▸ e); omega
  · have := hgd _ (ho ▸ hg); omega
  · rcases hk.row _ e with h1 | h1
    · exact hne (ho ▸ h1)
    · omega

/-- What stands between two rounds. -/
def ItRel (B Bs : Nat) (s : ByteArray) (J : List (Tok × Int) → World → Prop) (W : World) (p : Value) (wr : World) : Prop :=
  ∃ (k f : Nat) (pre : List (Tok × Int)), p = .int .i64 k ∧ k ≤ s.size ∧ s.size < f + k ∧ seqOf s = pre ++ seqF s f k ∧ J pre wr ∧ Boxed wr Bs 9 (.string s) ∧
    (∀ g, ob B wr = some g → g < wr.heap.size) ∧ ob B wr ≠ some Bs ∧ W.heap.size ≤ wr.heap.size

set_option maxHeartbeats 1000000 in
theorem c_iter (n : Nat) (hn : 1 ≤ n) (l B Bs : Nat) (hBs : B < Bs) (s : ByteArray) (hs : s.size ≤ maxLen) (J Jx : List (Tok × Int) → World → Prop) (W : World)
    (hW : Bs < W.heap.size) (hJ : AbidesFrom W.heap.size J)
    (hY : ∀ pre x W1, J pre W1 → pre.length < (seqOf s).length → YieldAt Fence.wide (n - 1) Tryz.prog l #[x.1.val, .int .i64 x.2] W1 fun e W' =>
      (e = .returned (.bool true) ∧ J (pre ++ [x]) W' ∧ KeepT B W1 W') ∨ (e = .returned (.bool false) ∧ Jx (pre ++ [x]) W'))
    (hb : Boxed W Bs 9 (.string s)) (h0 : ob B W = none) (hj : J [] W) :
    CallsIn Fence.wide n Tryz.prog 62 #[.func (.yield l) #[] #[], .pointer (some ⟨Bs, 0, none⟩)] W fun e W' => (∃ v, e = .returned v) ∧
      ((∃ ys, ys = seqOf s ∧ J ys W') ∨ (∃ pre, pre <+: seqOf s ∧ Jx pre W')) := by
  have Hs := Lib.hid hs
  unfold maxLen at hs
  have hbc := hb.cell
  have HY := Lib.hid hY
  have HJ := Lib.hid hJ
  have Hb := Lib.hid hb
  have H0 := Lib.hid h0
  clear hY hJ hb h0
  refine callsIn_of_wp Tryz.func62 rfl trivial ?_ rfl
  simp only [Tryz.ntmps62, List.size_toArray, List.length_cons, List.length_nil, Nat.reduceAdd, Nat.reduceSub, Array.replicate_succ, Array.replicate_zero, List.push_toArray, List.append_toArray, List.nil_append, List.cons_append]
  have hsk : ∀ w, Calls Tryz.prog 63 #[.string s, .int .i64 0] w fun e w' => e = .returned (.int .i64 (sk false (bt s) : Int)) ∧ w' = w := fun w => by
    have h := c_skip s Hs.out 0 (Nat.zero_le _) w
    simpa using h
  have hk0 : sk false (bt s) ≤ s.size := by have := sk_le false (bt s); rwa [bt_len] at this
  generalize hk : sk false (bt s) = k0 at hsk hk0
  have Hk := Lib.hid hk
  have Hsk := Lib.hid hsk
  clear hsk hk
  gi_wp2_with (refine ⟨trivial, ?_⟩; gi_at_call 63; refine (callsIn_wide.2 (Hsk.out _)).mono ?_; rintro e w' ⟨rfl, rfl⟩)
  gi_loopw [3] (fun p wr => ItRel B Bs s J w' p wr) (fun p wr => s.size - (intOf p).toNat)
  case atStart =>
    exact ⟨k0, s.size + 1, [], rfl, hk0, by omega, by rw [List.nil_append, ← Hk.out]; rfl, hj, Hb.out, (by rw [H0.out]; intro g hg; cases hg), (by rw [H0.out]; simp), Nat.le_refl _⟩
  case round =>
    obtain ⟨k, f, pre, rfl, hk1, hf, hq, hJs, hbx, hgd, hne, hsz⟩ := hrel
    have hbc1 := hbx.cell
    by_cases hlt : k < s.size
    · obtain ⟨f, rfl⟩ : ∃ f', f = f' + 1 := ⟨f - 1, by omega⟩
      have hrd := c_read (s.extract k s.size) (by simp only [ByteArray.size_extract, maxLen]; omega)
      have hok := read_ok (s.extract k s.size)
      simp only [seqF, if_pos hlt] at hq
      have hsx : (s.extract k s.size).size = s.size - k := by simp only [ByteArray.size_extract]; omega
      rw [hsx] at hok
      generalize readOf (s.extract k s.size) = r at hrd hok hq
      clear hsx
      obtain ⟨⟨kd, tx, nm, of0⟩, er⟩ := r
      dsimp only at hok hq hrd
      have Hrd := Lib.hid hrd
      have Hne := Lib.hid hne
      clear hrd hne
      by_cases her : er = 0
      · subst her
        obtain ⟨m, hm0, hm1, hm2⟩ := hok rfl
        have htx : tx.size = m := by rw [hm2]; simp only [ByteArray.size_extract]; omega
        clear hok
        rw [if_pos rfl, htx] at hq
        have Hm2 := Lib.hid hm2
        have Hq := Lib.hid hq
        have Htx := Lib.hid htx
        clear hm2 hq htx
        have hsk2 : ∀ w, Calls Tryz.prog 63 #[.string s, .int .i64 ((k : Int) + (m : Int))] w fun e w' => e = .returned (.int .i64 (((k + m : Nat) : Int) + (sk false ((bt s).drop (k + m)) : Int))) ∧ w' = w := fun w => by
          have h := c_skip s Hs.out (k + m) (by omega) w
          simpa using h
        have hle := sk_le false ((bt s).drop (k + m))
        rw [List.length_drop, bt_len] at hle
        have Hsk2 := Lib.hid hsk2
        clear hsk2
        have ht1 : (tx.size : Int) = m := by rw [Htx.out]
        gi_wp2_with (first | (refine ⟨trivial, ?_⟩; gi_at_call 53; refine (callsIn_wide.2 (Hrd.out _)).mono ?_; rintro e w1 ⟨rfl, hbl⟩; simp only [Tok.val]; have hbs1 := (Boxed.below_ hbx hbl (by omega)).alloc (.cells #[.int .u8 kd, .string tx, .int .i64 nm, .int .i64 k] 62); obtain ⟨fn, tmps, assign, body, hy, hR⟩ := HY.out pre (⟨kd, tx, nm, k⟩, 0) (w1.alloc (.cells #[.int .u8 kd, .string tx, .int .i64 nm, .int .i64 k] 62)) (HJ.out _ _ _ none hJs (only_of_below ((hbl.alloc hbl.size _)) none) (by intro r hr; cases hr)) (by rw [Hq.out]; simp); dsimp only [Tok.val] at hy) | (refine ⟨trivial, ?_⟩; gi_at_call 63; refine (callsIn_wide.2 (Hsk2.out _)).mono ?_; rintro e w2 ⟨rfl, rfl⟩))
        refine hR.mono ?_
        rintro e W3 (⟨rfl, hJ3, hk3⟩ | ⟨rfl, hJx3⟩)
        · obtain ⟨ht3, hb3, hg3, hn3, hz3⟩ := iter_after hBs hgd Hne.out hbx hbl hk3
          have hbc3 := hb3.cell
          have htc3 : W3.cell? ⟨w1.heap.size, 1, none⟩ = some (.string tx) := by simp [World.cell?, ht3]
          clear hk3 hy
          have HG3 := Lib.hid hg3
          have HT3 := Lib.hid ht3
          have HN3 := Lib.hid hn3
          clear hg3 hn3 ht3
          gi_wp2_with (first | (refine ⟨trivial, ?_⟩; gi_at_call 63; refine (callsIn_wide.2 (Hsk2.out _)).mono ?_; rintro e w2 ⟨rfl, rfl⟩))
          exact ⟨⟨k + m + sk false ((bt s).drop (k + m)), f, pre ++ [(⟨kd, tx, nm, k⟩, 0)], by go_num, by omega, by omega, by rw [Hq.out]; simp, hJ3, hb3, HG3.out, HN3.out, by omega⟩, by simp [intOf]; omega⟩
        · have Hx := Lib.hid hJx3
          clear hJx3 hy
          gi_wp2
          refine bodyPost_ret (results_none rfl _ _ _) rfl ?_
          exact ⟨⟨_, rfl⟩, .inr ⟨_, by rw [Hq.out]; exact ⟨seqF s f (k + m + sk false ((bt s).drop (k + m))), by simp⟩, Hx.out⟩⟩
      · have hxb : (er != 0) = true := by rw [bne_iff_ne]; exact her
        rw [if_neg her] at hq
        have Hq := Lib.hid hq
        clear hq hok her
        gi_wp2_with (first | (refine ⟨trivial, ?_⟩; gi_at_call 53; refine (callsIn_wide.2 (Hrd.out _)).mono ?_; rintro e w1 ⟨rfl, hbl⟩; simp only [Tok.val]; have hbs1 := (Boxed.below_ hbx hbl (by omega)).alloc (.cells #[.int .u8 kd, .string tx, .int .i64 nm, .int .i64 k] 62); obtain ⟨fn, tmps, assign, body, hy, hR⟩ := HY.out pre (⟨kd, tx, nm, k⟩, er) (w1.alloc (.cells #[.int .u8 kd, .string tx, .int .i64 nm, .int .i64 k] 62)) (HJ.out _ _ _ none hJs (only_of_below ((hbl.alloc hbl.size _)) none) (by intro r hr; cases hr)) (by rw [Hq.out]; simp); dsimp only [Tok.val] at hy))
        refine hR.mono ?_
        rintro e W3 (⟨rfl, hJ3, hk3⟩ | ⟨rfl, hJx3⟩)
        · have HJ3 := Lib.hid hJ3
          clear hJ3 hk3 hy
          gi_wp2
          refine bodyPost_ret (results_none rfl _ _ _) rfl ?_
          exact ⟨⟨_, rfl⟩, .inl ⟨_, by rw [Hq.out], HJ3.out⟩⟩
        · have Hx := Lib.hid hJx3
          clear hJx3 hy
          gi_wp2
          refine bodyPost_ret (results_none rfl _ _ _) rfl ?_
          exact ⟨⟨_, rfl⟩, .inr ⟨_, by rw [Hq.out]; exact List.prefix_rfl, Hx.out⟩⟩
    · have Hq := Lib.hid hq
      have Hne := Lib.hid hne
      clear hq hne
      gi_wp2
      go_end0
      exact ⟨⟨_, rfl⟩, .inl ⟨pre, by rw [Hq.out, seqF_end s f k (by omega), List.append_nil], hJs⟩⟩
end Go.Proofs.YtplnnpkohdmiaaaGreatDoor

/- DERIVED. The contracts of lexis.tokens and lexis.Tokens. -/
namespace Go.Proofs.YtplnnpkohdmiaaaGreatDoor
open Go.RowKit
section
variable {P : Program}

/-- An append's slice lies in its old block, or in a new one. -/
theorem appendOwnPlace {w : World} (base : Nat) (t ty e : TypeId) (i : TypeInfo) (z : Value) (size bytes : Nat) (ht : P.underlying t = some (.slice e)) (hi : P.info? e = some i) (hz : i.zero = some z)
    (hsize : i.size = size) (hby : i.bytes = bytes) (hzs : z.cells.size = size) (hsz : 0 < size)
    (v : Value) (n : Nat) (xs : List Value) (hown : w.ownsRow base e size v n xs)
    (a : Addr) (m c : Nat) (news : List Value) (hl : news.length = m * size) (hnews : ∀ j u, news[j]? = some u → w.cell? (a.add j) = some u) (h1 : ∀ u ∈ news, u.oneCell' = true)
    (h63 : n + m ≤ maxLen) (hbytes : (n + m) * bytes ≤ 140737488355328) (hbase : base ≤ w.heap.size) :
    ∃ v' w', (Builtin.append_ #[t, t] ty #[v, .slice (some a) m c]).run P w = .ok v' w' ∧ w'.ownsRow base e size v' (n + m) (xs ++ news) ∧ w.grownBy w' v.ownBlock ∧
      (∀ g, v'.ownBlock = some g → v.ownBlock = some g ∨ w.heap.size ≤ g) := by
  obtain ⟨v', w', hrun, r1, r2, _⟩ := run_append_own (P := P) w base t ty e i z size bytes ht hi hz hsize hby hzs hsz v n xs hown a m c news hl hnews h1 h63 hbytes hbase
  refine ⟨v', w', hrun, r1, r2, ?_⟩
  have hown' := hown
  rcases hown.2 with ⟨rfl, rfl⟩ | ⟨g, cap, cur, rfl, hbg, hg, hnc, hcm, hcs, htake⟩
  · have hnil : w.ownsRow w.heap.size e size (.slice none 0 0) 0 xs := ⟨hown.1, .inl ⟨rfl, rfl⟩⟩
    obtain ⟨v'', w'', hrun', s1, _, _⟩ := run_append_own (P := P) w w.heap.size t ty e i z size bytes ht hi hz hsize hby hzs hsz _ 0 xs hnil a m c news hl hnews h1 h63 hbytes (Nat.le_refl _)
    have heq := hrun.symm.trans hrun'
    injection heq with e1 e2
    subst e1
    exact fun g hg => .inr (s1.lt g hg).1
  · by_cases hroom : n + m ≤ cap
    · have hfit : n * i.size + news.length ≤ cur.size := by rw [hl, hcs, hsize, ← Nat.add_mul]; exact Nat.mul_le_mul_right _ hroom
      have hr := run_append_room (P := P) w t ty e i ht hi g n cap cur hg a m c news (by rw [hl, hsize]) hnews h1 hroom hfit
      have heq := hrun.symm.trans hr
      injection heq with e1 e2
      subst e1
      exact fun g' hg' => .inl hg'
    · have holds : ∀ j u, xs[j]? = some u → w.cell? ((⟨g, 0, none⟩ : Addr).add j) = some u := hown'.cells (g := g) rfl
      simp only [maxLen] at h63
      have hr := run_append_grow (P := P) w t ty e i z ht hi hz ⟨g, 0, none⟩ n cap xs (by rw [hown'.1, hsize]) holds a m c news (by rw [hl, hsize]) hnews (by omega) (by omega) (growslice_fits (by omega) (by rw [hby]; exact hbytes))
      have heq := hrun.symm.trans hr
      injection heq with e1 e2
      subst e1
      exact fun g2 hg2 => .inr (by simp [Value.ownBlock] at hg2; omega)

theorem wpListIn_append_place {F : Fence} {n : Nat} (w : World) {ops : Array Oper} {rest : List Oper} {o : Oper} {a : Act} {Q : Exit → Act → World → Prop}
    (hg : o.guard = none) (s x : Operand) (t : TypeId) (hop : o.op = Op.call { callee := Callee.builtin Builtin.append, args := #[s, x], argTypes := #[t, t] })
    (base : Nat) (e : TypeId) (i : TypeInfo) (z : Value) (size bytes : Nat) (h1 : P.underlying t = some (.slice e)) (h2 : P.info? e = some i) (h3 : i.zero = some z) (h4 : i.size = size) (h5 : i.bytes = bytes) (h6 : z.cells.size = size) (h7 : 0 < size)
    (v : Value) (k : Nat) (xs : List Value) (hs : a.eval s = v) (hown : w.ownsRow base e size v k xs) (ad : Addr) (m c : Nat) (news : List Value) (hx : a.eval x = .slice (some ad) m c) (hn : news.length = m * size)
    (hc : ∀ j u, news[j]? = some u → w.cell? (ad.add j) = some u) (h1c : ∀ u ∈ news, u.oneCell' = true) (b1 : k + m ≤ maxLen) (b2 : (k + m) * bytes ≤ 140737488355328) (b3 : base ≤ w.heap.size)
    (hK : ∀ v' w', w'.ownsRow base e size v' (k + m) (xs ++ news) → w.grownBy w' v.ownBlock → (∀ g, v'.ownBlock = some g → v.ownBlock = some g ∨ w.heap.size ≤ g) → wpListIn F n P ops Q rest (a.put o.dst v') w') :
    wpListIn F n P ops Q (o :: rest) a w := by
  obtain ⟨v', w', hrun, r1, r2, r3⟩ := appendOwnPlace (P := P) base t o.type e i z size bytes h1 h2 h3 h4 h5 h6 h7 v k xs hown ad m c news hn hc h1c b1 b2 b3
  refine wpListIn_plain hg fun K hK' => ?_
  unfold Oper.wpIn
  constructor
  · simp [Oper.about, hop, resolve, Target.leads, Sem.run_pure]
  · rw [Oper.semAt_plain F _ _ (by rw [hop]; intro c hc'; cases hc')]
    simp [execOp, hop, resolve, invoke, builtin, hs, hx, hrun, Result.andThen]
    exact hK' _ _ (hK v' w' r1 r2 r3)
end
open Go.Shelf
attribute [local go_sem] Oper.semAt_some

/-- Behind an append onto the slice in box B, and the store back. -/
theorem KeepT.appended {W w1 : World} {n₀ B : Nat} {size : Nat} {v v' : Value} {k m : Nat} {xs ys : List Value} {tmp : Obj}
    (hv : Boxed W B 38 v) (hrow : W.ownsRow n₀ 62 size v k xs) (hown' : w1.ownsRow n₀ 62 size v' m ys) (hgrow : (W.alloc tmp).grownBy w1 v.ownBlock)
    (hpl : ∀ g, v'.ownBlock = some g → v.ownBlock = some g ∨ (W.alloc tmp).heap.size ≤ g) : KeepT B W (w1.setCell ⟨B, 0, none⟩ v') := by
  have hs : (W.alloc tmp).heap.size = W.heap.size + 1 := by simp
  have hv1 : Boxed w1 B 38 v := (hv.alloc tmp).kept hgrow (hv.not_row (by decide) hrow)
  have hv2 := hv1.set v'
  have hz2 : (w1.setCell ⟨B, 0, none⟩ v').heap.size = w1.heap.size := by simp
  have ho : ob B W = v.ownBlock := by unfold ob; rw [show W.heap[B]? = _ from hv]; rfl
  have ho2 : ob B (w1.setCell ⟨B, 0, none⟩ v') = v'.ownBlock := by unfold ob; rw [show (w1.setCell ⟨B, 0, none⟩ v').heap[B]? = _ from hv2]; rfl
  have hsz := hgrow.size
  refine ⟨by omega, fun g hg => ?_, fun _ g hg => ?_, fun i cs t fr hi hc hn => ?_⟩
  · rw [ho2] at hg
    rw [ho]
    rcases hpl g hg with h | h
    · exact .inl h
    · exact .inr (by omega)
  · rw [ho2] at hg
    have := (hown'.lt g hg).2
    omega
  · have hlt := (Array.getElem?_eq_some_iff.1 hc).1
    rw [ho] at hn
    have h1 : w1.heap[i]? = some (.cells cs t fr) := (hgrow.block i (by omega) (fun e => hn e.symm)).trans ((Below.heap_alloc W tmp i hlt).trans hc)
    exact (Below.heap_setCell w1 ⟨B, 0, none⟩ v' i (by show i ≠ B; omega)).trans h1

def tokCells (l : List Tok) : List Value := l.flatMap Tok.cells
theorem tokCells_len (l : List Tok) : (tokCells l).length = l.length * 4 := by
  induction l with
  | nil => rfl
  | cons t l ih => simp only [tokCells, List.flatMap_cons, List.length_append, List.length_cons] at ih ⊢; rw [ih]; simp [Tok.cells]; omega
theorem tokCells_snoc (l : List Tok) (t : Tok) : tokCells (l ++ [t]) = tokCells l ++ t.cells := by simp [tokCells]

def toksOf (s : ByteArray) : List Tok × Int × Int :=
  if 4096 < s.size then ([], 4096, 3)
  else match (seqOf s).find? (fun x => x.2 != 0) with
    | some x => ([], x.1.off, x.2)
    | none => ((seqOf s).map (·.1), 0, 0)

theorem seqF_len (s : ByteArray) : ∀ f k, (seqF s f k).length ≤ f
  | 0, k => by simp [seqF]
  | f + 1, k => by
    unfold seqF
    split
    · split
      · have := seqF_len s f (k + (readOf (s.extract k s.size)).1.text.size + sk false ((bt s).drop (k + (readOf (s.extract k s.size)).1.text.size)))
        simp only [List.length_cons]; omega
      · simp
    · simp

theorem c_tokens (n : Nat) (s : ByteArray) (w : World) :
    CallsIn Fence.wide n Tryz.prog 48 #[.string s] w fun e w' => e = .returned (.func (.func 62) #[] #[.pointer (some ⟨w.heap.size, 0, none⟩)]) ∧ w' = w.alloc (.cells #[.string s] 9) := by
  refine callsIn_of_wp Tryz.func48 rfl trivial ?_ rfl
  simp only [Tryz.ntmps48, List.size_toArray, List.length_cons, List.length_nil, Nat.reduceAdd, Nat.reduceSub, Array.replicate_succ, Array.replicate_zero, List.push_toArray, List.append_toArray, List.nil_append, List.cons_append]
  gi_wp2
  go_ret
  exact ⟨rfl, rfl⟩

theorem c_stops (n : Nat) (hn : 1 ≤ n) (B Bs : Nat) (hBs : B < Bs) (s : ByteArray) (hs : s.size ≤ maxLen) (w : World) (hW : Bs < w.heap.size) (hb : Boxed w Bs 9 (.string s)) (h0 : ob B w = none) :
    SeqStopsK Fence.wide n Tryz.prog 62 #[.pointer (some ⟨Bs, 0, none⟩)] (fun x : Tok × Int => #[x.1.val, .int .i64 x.2]) (KeepT B) (fun ys => ys = seqOf s) (fun pre => pre <+: seqOf s) (seqOf s).length w := fun l J Jx W hB hJ _ hY hj =>
  c_iter n hn l B Bs hBs s hs J Jx W (Nat.lt_of_lt_of_le hW hB.size) hJ hY (Boxed.below_ hb hB hW) ((ob_of (hB.block B (by omega))).trans h0) hj

theorem infoT34 : (Tryz.prog.info? 62).map (fun i => (i.zero, i.size, i.bytes)) = some (some Tok.zero.val, 4, 40) := by kernel_rfl

/-- What a call of Tokens leaves. -/
def TokPost (r : List Tok × Int × Int) (w : World) (e : Ending) (w' : World) : Prop :=
  ∃ v, e = .returned (.tuple #[v, .int .i64 r.2.1, .int .i64 r.2.2]) ∧ w'.ownsRow w.heap.size 62 4 v r.1.length (tokCells r.1) ∧ Below w.heap.size w w'

/-- The invariant between two rounds: what has come is in the slice in box +3, no result has been laid. -/
def GoOn (w : World) (pre : List (Tok × Int)) (W : World) : Prop :=
  (((∃ v, Boxed W (w.heap.size + 1 + 1 + 1) 38 v ∧ W.ownsRow w.heap.size 62 4 v pre.length (tokCells (pre.map (·.1))) ∧ True) ∧ Boxed W w.heap.size 38 (.slice none 0 0)) ∧
    Boxed W (w.heap.size + 1) 3 (.int .i64 0) ∧ Boxed W (w.heap.size + 1 + 1) 25 (.int .i64 0)) ∧ (∀ y ∈ pre, y.2 = 0) ∧ Below w.heap.size w W
/-- A round has left: the error's offset and number are laid. -/
def LeftBy (w : World) (c : Code) (pre : List (Tok × Int)) (W : World) : Prop :=
  ∃ (pre' : List (Tok × Int)) (x : Tok × Int), (c = .ret ∧ pre = pre' ++ [x] ∧ (∀ y ∈ pre', y.2 = 0) ∧ x.2 ≠ 0) ∧
    (Boxed W w.heap.size 38 (.slice none 0 0) ∧ Boxed W (w.heap.size + 1) 3 (.int .i64 x.1.off) ∧ Boxed W (w.heap.size + 1 + 1) 25 (.int .i64 x.2)) ∧ Below w.heap.size w W
/-- The round's activation, the token in a box. -/
def InRound (s : ByteArray) (w : World) (x : Tok × Int) (a' : Act) (W : World) : Prop :=
  ∃ Bx, w.heap.size + 1 + 1 + 1 < Bx ∧ W.heap[Bx]? = some (.cells #[.int .u8 x.1.kind, .string x.1.text, .int .i64 x.1.num, .int .i64 x.1.off] 62 (0, 0)) ∧
    a' = { tmps := #[.string s, undef, .pointer (some ⟨w.heap.size, 0, none⟩), .pointer (some ⟨w.heap.size + 1, 0, none⟩), .pointer (some ⟨w.heap.size + 1 + 1, 0, none⟩), .pointer (some ⟨w.heap.size + 1 + 1 + 1, 0, none⟩),
      .pointer (some ⟨Bx, 0, none⟩), .int .i64 x.2, .string s, .int .i64 s.size, .bool (decide (4096 < (s.size : Int))), .string s, .func (.func 62) #[] #[.pointer (some ⟨w.heap.size + 1 + 1 + 1 + 1, 0, none⟩)],
      .agg #[.int .u8 x.1.kind, .string x.1.text, .int .i64 x.1.num, .int .i64 x.1.off], .int .i64 x.2, undef, undef, undef, undef, undef, undef, undef, undef, undef, undef], defers := [] }

theorem goOn_own (w : World) {B : Nat} (hB : w.heap.size ≤ B) : OwnFrom B (GoOn w) :=
  OwnFrom.and (OwnFrom.and (OwnFrom.and (Own.from (holdsRow_own w.heap.size (w.heap.size + 1 + 1 + 1) 38 62 4 (fun pre : List (Tok × Int) => pre.length) (fun pre => tokCells (pre.map (·.1))) (fun _ _ => True)) _) (Own.from (boxed_own _ _ _) _))
    (OwnFrom.and (Own.from (boxed_own _ _ _) _) (Own.from (boxed_own _ _ _) _))) (OwnFrom.and (ownFrom_pure _ _) (ownFrom_below (Nat.le_refl _) hB))
theorem leftBy_own (w : World) {B : Nat} (hB : w.heap.size ≤ B) (c : Code) : OwnFrom B (LeftBy w c) := by
  rintro pre X Y row ⟨pre', x, h1, ⟨h2, h3, h4⟩, h5⟩ hg hr
  have hr' : ∀ r, row = some r → ∃ o : Obj, X.heap[r]? = some o ∧ o.isCells = false := fun r e => (hr r e).2
  exact ⟨pre', x, h1, ⟨boxed_own _ 38 (fun (_ : Unit) => Value.slice none 0 0) () X Y row h2 hg hr', boxed_own _ 3 (fun (_ : Unit) => Value.int .i64 x.1.off) () X Y row h3 hg hr', boxed_own _ 25 (fun (_ : Unit) => Value.int .i64 x.2) () X Y row h4 hg hr'⟩,
    ownFrom_below (β := Unit) (Nat.le_refl _) hB () X Y row h5 hg hr⟩
theorem inRound_own (s : ByteArray) (w : World) (x : Tok × Int) (a' : Act) (B : Nat) : OwnFrom B (fun (_ : Unit) W => InRound s w x a' W) := by
  rintro _ X Y row ⟨Bx, h1, h2, h3⟩ hg hr
  refine ⟨Bx, h1, (hg.block Bx (Array.getElem?_eq_some_iff.1 h2).1 (fun e => ?_)).trans h2, h3⟩
  obtain ⟨_, o, ho, hc⟩ := hr Bx e.symm
  rw [h2] at ho; cases ho; cases hc

theorem cell_four_new (w : World) (a b c d : Value) (t : TypeId) : ∀ j u, [a, b, c, d][j]? = some u → (w.alloc (.cells #[a, b, c, d] t)).cell? ((⟨w.heap.size, 0, none⟩ : Addr).add j) = some u := by
  intro j u hj
  have h := World.cell?_alloc_mark w #[a, b, c, d] t (0, 0) j
  have e : (⟨w.heap.size, 0, none⟩ : Addr).add j = ⟨w.heap.size, j, none⟩ := by unfold Addr.add; split <;> simp_all
  rw [e]
  exact h.trans (by simpa using hj)

theorem ownsRow_slice {W : World} {base : Nat} {e : TypeId} {size : Nat} {v : Value} {k : Nat} {xs : List Value} (h : W.ownsRow base e size v k xs) : ∃ A n c, v = .slice A n c := by
  rcases h.2 with ⟨rfl, _⟩ | ⟨g, cap, cur, rfl, _⟩
  · exact ⟨_, _, _, rfl⟩
  · exact ⟨_, _, _, rfl⟩

theorem left_end {w W : World} {B : Nat} {pre : List (Tok × Int)} (hB : Below w.heap.size w W) (hz : ∀ y ∈ pre, y.2 = 0) (t : Tok) {er : Int} (her : er ≠ 0)
    (a0 : Boxed W w.heap.size 38 (.slice none 0 0)) (a1 : Boxed W (w.heap.size + 1) 3 (.int .i64 0)) (a2 : Boxed W (w.heap.size + 1 + 1) 25 (.int .i64 0)) :
    KeepsFrom B W (((W.setCell ⟨w.heap.size, 0, none⟩ (.slice none 0 0)).setCell ⟨w.heap.size + 1, 0, none⟩ (.int .i64 t.off)).setCell ⟨w.heap.size + 1 + 1, 0, none⟩ (.int .i64 er)).drew ∧
    LeftBy w .ret (pre ++ [(t, er)]) (((W.setCell ⟨w.heap.size, 0, none⟩ (.slice none 0 0)).setCell ⟨w.heap.size + 1, 0, none⟩ (.int .i64 t.off)).setCell ⟨w.heap.size + 1 + 1, 0, none⟩ (.int .i64 er)).drew := by
  refine ⟨(((((KeepsOthers.setCell W _ _).trans (KeepsOthers.setCell _ _ _)).trans (KeepsOthers.setCell _ _ _)).trans (KeepsOthers.drew _)).from _), pre, (t, er), ⟨rfl, rfl, hz, her⟩, ⟨?_, ?_, ?_⟩, ?_⟩
  · exact ((a0.set _).other (by omega) _).other (by omega) _
  · exact ((a1.other (by omega) _).set _).other (by omega) _
  · exact ((a2.other (by omega) _).other (by omega) _).set _
  · exact (((hB.setCell (p := ⟨w.heap.size, 0, none⟩) (Nat.le_refl _) _).setCell (p := ⟨w.heap.size + 1, 0, none⟩) (by simp) _).setCell (p := ⟨w.heap.size + 1 + 1, 0, none⟩) (by simp; omega) _).drew

set_option maxRecDepth 100000 in
set_option maxHeartbeats 1000000 in
theorem c_Tokens (s : ByteArray) (hs : s.size ≤ maxLen) (w : World) :
    Calls Tryz.prog 28 #[.string s] w (TokPost (toksOf s) w) := by
  have Hs := Lib.hid hs
  unfold maxLen at hs
  by_cases hlen : 4096 < s.size
  · have hv : toksOf s = ([], 4096, 3) := by unfold toksOf; rw [if_pos hlen]
    rw [hv]
    clear hv
    go_enter Tryz.func28, Tryz.ntmps28
    go_wp2
    exact bodyPost_ret (v := .tuple #[.slice none 0 0, .int .i64 4096, .int .i64 3]) (by simp [results, Tryz.results28, go_sem]) rfl
      ⟨_, rfl, World.ownsRow_nil _ _ _ _, (((Below.refl _ _).alloc (Nat.le_refl _) _).alloc (by simp) _).alloc (by simp; omega) _⟩
  refine (callsIn_wide (n := 6)).1 ?_
  obtain ⟨i0, hi, hz0, hz1, hz2⟩ := info_parts infoT34
  refine callsIn_of_wp_marks Tryz.func28 rfl trivial ?_ rfl
  simp only [Tryz.ntmps28, List.size_toArray, List.length_cons, List.length_nil, Nat.reduceAdd, Nat.reduceSub, Array.replicate_succ, Array.replicate_zero, List.push_toArray, List.append_toArray, List.nil_append, List.cons_append]
  gi_wp2_with (refine ⟨trivial, ?_⟩; gi_at_call 48; refine (c_tokens _ _ _).mono ?_; rintro e w' ⟨rfl, rfl⟩)
  obtain ⟨W0, hW0⟩ : ∃ W0, ((((w.alloc (.cells #[.slice none 0 0] 38)).alloc (.cells #[.int .i64 0] 3)).alloc (.cells #[.int .i64 0] 25)).alloc (.cells #[.slice none 0 0] 38)).alloc (.cells #[.string s] 9) = W0 := ⟨_, rfl⟩
  have b0 : Boxed W0 w.heap.size 38 (.slice none 0 0) := by rw [← hW0]; exact ((((Boxed.new w 38 (.slice none 0 0)).alloc _).alloc _).alloc _).alloc _
  have b1 : Boxed W0 (w.heap.size + 1) 3 (.int .i64 0) := by
    rw [← hW0]; have h := (((Boxed.new (w.alloc (.cells #[.slice none 0 0] 38)) 3 (.int .i64 0)).alloc (.cells #[.int .i64 0] 25)).alloc (.cells #[.slice none 0 0] 38)).alloc (.cells #[.string s] 9); simpa using h
  have b2 : Boxed W0 (w.heap.size + 1 + 1) 25 (.int .i64 0) := by
    rw [← hW0]; have h := ((Boxed.new ((w.alloc (.cells #[.slice none 0 0] 38)).alloc (.cells #[.int .i64 0] 3)) 25 (.int .i64 0)).alloc (.cells #[.slice none 0 0] 38)).alloc (.cells #[.string s] 9); simpa using h
  have b3 : Boxed W0 (w.heap.size + 1 + 1 + 1) 38 (.slice none 0 0) := by
    rw [← hW0]; have h := (Boxed.new (((w.alloc (.cells #[.slice none 0 0] 38)).alloc (.cells #[.int .i64 0] 3)).alloc (.cells #[.int .i64 0] 25)) 38 (.slice none 0 0)).alloc (.cells #[.string s] 9); simpa using h
  have b4 : Boxed W0 (w.heap.size + 1 + 1 + 1 + 1) 9 (.string s) := by
    rw [← hW0]; have h := Boxed.new ((((w.alloc (.cells #[.slice none 0 0] 38)).alloc (.cells #[.int .i64 0] 3)).alloc (.cells #[.int .i64 0] 25)).alloc (.cells #[.slice none 0 0] 38)) 9 (.string s); simpa using h
  have hB0 : Below w.heap.size w W0 := by
    rw [← hW0]; exact ((((((Below.refl _ _).alloc (Nat.le_refl _) _).alloc (by simp) _).alloc (by simp; omega) _).alloc (by simp; omega) _).alloc (by simp; omega) _)
  have hsz : W0.heap.size = w.heap.size + 5 := by rw [← hW0]; simp
  rw [hW0]
  clear hW0
  refine wpIn_rangeFunc_ownH rfl (by omega) (gf := 62) (lb := #[.pointer (some ⟨w.heap.size + 1 + 1 + 1 + 1, 0, none⟩)]) rfl trivial (enters_of Tryz.func62 (by kernel_rfl) rfl)
    (c_stops (6 - 1) (by omega) (w.heap.size + 1 + 1 + 1) (w.heap.size + 1 + 1 + 1 + 1) (by omega) s Hs.out W0 (by omega) b4 (by unfold ob; rw [show W0.heap[w.heap.size + 1 + 1 + 1]? = _ from b3]; rfl))
    (fun h k => KeepT.trans h k) (KeepT.putObj (by omega)) (Below.refl _ _) (fun _ => rfl)
    (GoOn w) (LeftBy w) (goOn_own w (by omega)) (leftBy_own w (by omega)) ⟨⟨⟨⟨_, b3, World.ownsRow_nil _ _ _ _, trivial⟩, b0⟩, b1, b2⟩, (by intro y hy; cases hy), hB0⟩
    (InRound s w) (fun x a' => inRound_own s w x a' _) ?assign ?body ?done ?stop
  case assign =>
    rintro l pre ⟨⟨kd, tx, nm, off⟩, er⟩ W K ⟨⟨⟨⟨v, hv, hr, ht⟩, a0⟩, a1, a2⟩, hz, hB⟩ hK
    dsimp only [Tok.val]
    gi_wp2
    exact hK _ _ ((KeepsOthers.alloc _ _).from _) (KeepT.alloc W _ hv.lt) ⟨⟨⟨⟨v, hv.alloc _, hr.kept (World.grownBy_alloc W _ none) (Classical.em _), ht⟩, a0.alloc _⟩, a1.alloc _, a2.alloc _⟩, hz, hB.alloc hB.size _⟩
      ⟨W.heap.size, hv.lt, heap_alloc_new W _, rfl⟩
  case body =>
    rintro l pre ⟨⟨kd, tx, nm, off⟩, er⟩ a' W hl ⟨r, hr⟩ ⟨⟨⟨⟨v, hv, hrow, ht⟩, a0⟩, a1, a2⟩, hz, hB⟩ ⟨Bx, hBx, hbx, rfl⟩ hlt
    have hc := hv.cell
    have hx0 : W.cell? ⟨Bx, 0, none⟩ = some (.int .u8 kd) := by simp [World.cell?, hbx]
    have hx1 : W.cell? ⟨Bx, 1, none⟩ = some (.string tx) := by simp [World.cell?, hbx]
    have hx2 : W.cell? ⟨Bx, 2, none⟩ = some (.int .i64 nm) := by simp [World.cell?, hbx]
    have hx3 : W.cell? ⟨Bx, 3, none⟩ = some (.int .i64 off) := by simp [World.cell?, hbx]
    by_cases her : er = 0
    · subst her
      have hpl : pre.length ≤ 4096 := by have := seqF_len s (s.size + 1) (sk false (bt s)); unfold seqOf at hlt; omega
      have hfr := hv.frozen
      have Hhr := Lib.hid hr
      have Hhz := Lib.hid hz
      clear hr hz hlt
      gi_wp2_with (gi_at_builtin; refine wpListIn_append_place _ rfl _ _ 38 rfl w.heap.size 62 i0 Tok.zero.val 4 40 Tryz.underlying38 hi hz0 hz1 hz2 rfl (by decide) _ _ _ rfl (hrow.alloc _) ⟨W.heap.size, 0, none⟩ 1 1 (Tok.cells ⟨kd, tx, nm, off⟩) rfl rfl (cell_four_new _ _ _ _ _ _) (by simp [Value.oneCell', Tok.cells]) (by simp only [maxLen]; omega) (by omega) (by have := hB.size; simp; omega) ?_; intro v' w1 hown' hgrow hplace; obtain ⟨g', cap', rfl⟩ := ownsRow_succ hown'; obtain ⟨hv1, hv2, hr2, hk2, hb2⟩ := hv.appended (by decide) hrow hB.size (by omega) hown' hgrow; have hkt := KeepT.appended hv hrow hown' hgrow hplace; have hc1 := hv1.cell; have hf1 := hv1.frozen)
      refine ⟨hk2.from _, hkt, ⟨⟨⟨⟨_, hv2, ?_, trivial⟩, ?_⟩, ?_, ?_⟩, ?_, hB.trans hb2⟩⟩
      · rw [List.length_append, List.map_append, List.map_cons, List.map_nil, tokCells_snoc]
        exact hr2
      · exact ((a0.alloc _).kept hgrow (a0.not_row (by decide) hrow)).other (by omega) _
      · exact ((a1.alloc _).kept hgrow (a1.not_row (by decide) hrow)).other (by omega) _
      · exact ((a2.alloc _).kept hgrow (a2.not_row (by decide) hrow)).other (by omega) _
      · intro y hy
        rcases List.mem_append.1 hy with h | h
        · exact Hhz.out y h
        · rw [List.mem_singleton.1 h]
    · have hxb : (er != 0) = true := by rw [bne_iff_ne]; exact her
      have Her := Lib.hid her
      have c0 := a0.cell
      have c1 := a1.cell
      have c2 := a2.cell
      have f0 := a0.frozen
      have f1 := a1.frozen
      have f2 := a2.frozen
      have hfin := left_end (B := W0.heap.size) hB hz ⟨kd, tx, nm, off⟩ Her.out a0 a1 a2
      have Hfin := Lib.hid hfin
      have hfm : Tryz.prog.follows Departure.mixedOrders = true := by kernel_rfl
      clear her hr hfin
      gi_wp2
      gi_region_o
      all_goals gi_wp2
      all_goals exact Hfin.out
  case done =>
    rintro D ys W hD rfl ⟨⟨⟨⟨v, hv, hrow, _⟩, a0⟩, a1, a2⟩, hz, hB⟩ hK
    have hv0 : toksOf s = ((seqOf s).map (·.1), 0, 0) := by
      unfold toksOf
      rw [if_neg hlen, List.find?_eq_none.2 (fun x hx => by simp [hz x hx])]
    have Hv0 := Lib.hid hv0
    have c0 := a0.cell
    have c1 := a1.cell
    have c2 := a2.cell
    have f0 := a0.frozen
    have f1 := a1.frozen
    have f2 := a2.frozen
    have hc := hv.cell
    have Hz := Lib.hid hz
    have HK := Lib.hid hK
    clear hv0 hz hK
    obtain ⟨sA, sn, sc, rfl⟩ := ownsRow_slice hrow
    gi_wp2
    have hm0 := ((a0.set (.slice sA sn sc)).other (B' := w.heap.size + 1) (by omega) (.int .i64 0)).other (B' := w.heap.size + 1 + 1) (by omega) (.int .i64 0)
    have hm1 := ((a1.other (B' := w.heap.size) (by omega) (.slice sA sn sc)).set (.int .i64 0)).other (B' := w.heap.size + 1 + 1) (by omega) (.int .i64 0)
    have hm2 := ((a2.other (B' := w.heap.size) (by omega) (.slice sA sn sc)).other (B' := w.heap.size + 1) (by omega) (.int .i64 0)).set (.int .i64 0)
    have hrw := ((hrow.kept (grownBy_setCell' W w.heap.size (.slice sA sn sc)) (.inr (a0.not_row (by decide) hrow).symm)).kept (grownBy_setCell' _ (w.heap.size + 1) (.int .i64 0)) (.inr ((a1.other (B' := w.heap.size) (by omega) (.slice sA sn sc)).not_row (by decide) (hrow.kept (grownBy_setCell' W w.heap.size (.slice sA sn sc)) (.inr (a0.not_row (by decide) hrow).symm))).symm)).kept (grownBy_setCell' _ (w.heap.size + 1 + 1) (.int .i64 0))
      (.inr (((a2.other (B' := w.heap.size) (by omega) (.slice sA sn sc)).other (B' := w.heap.size + 1) (by omega) (.int .i64 0)).not_row (by decide) ((hrow.kept (grownBy_setCell' W w.heap.size (.slice sA sn sc)) (.inr (a0.not_row (by decide) hrow).symm)).kept (grownBy_setCell' _ (w.heap.size + 1) (.int .i64 0)) (.inr ((a1.other (B' := w.heap.size) (by omega) (.slice sA sn sc)).not_row (by decide) (hrow.kept (grownBy_setCell' W w.heap.size (.slice sA sn sc)) (.inr (a0.not_row (by decide) hrow).symm))).symm))).symm)
    have hbl := ((hB.setCell (p := ⟨w.heap.size, 0, none⟩) (Nat.le_refl _) (.slice sA sn sc)).setCell (p := ⟨w.heap.size + 1, 0, none⟩) (by simp) (.int .i64 0)).setCell (p := ⟨w.heap.size + 1 + 1, 0, none⟩) (by simp; omega) (.int .i64 0)
    have hK := (((KeepsOthers.setCell W ⟨w.heap.size, 0, none⟩ (.slice sA sn sc)).trans (KeepsOthers.setCell _ ⟨w.heap.size + 1, 0, none⟩ (.int .i64 0))).trans (KeepsOthers.setCell _ ⟨w.heap.size + 1 + 1, 0, none⟩ (.int .i64 0))).same D _ HK.out rfl
    generalize ((W.setCell ⟨w.heap.size, 0, none⟩ (.slice sA sn sc)).setCell ⟨w.heap.size + 1, 0, none⟩ (.int .i64 0)).setCell ⟨w.heap.size + 1 + 1, 0, none⟩ (.int .i64 0) = W5 at hm0 hm1 hm2 hrw hbl hK ⊢
    refine ⟨by simp, .inl ⟨_, _, rfl, run_takeDeferred hK, ?_⟩⟩
    have k0 := (hm0.kept (grownBy_putObj' W5 D (.deferred none)) (by simp; omega)).cell
    have k1 := (hm1.kept (grownBy_putObj' W5 D (.deferred none)) (by simp; omega)).cell
    have k2 := (hm2.kept (grownBy_putObj' W5 D (.deferred none)) (by simp; omega)).cell
    rw [Hv0.out]
    refine ⟨.tuple #[.slice sA sn sc, .int .i64 0, .int .i64 0], by simp [results, Tryz.results28, go_sem, k0, k1, k2], _, rfl, ?_, hbl.trans (belowK_b (w := w) (Nat.le_refl _) W5 D _ _ (by omega) hK rfl rfl)⟩
    have := ownsRow_putObj hrw (.deferred none) hK rfl
    rwa [List.length_map]
  case stop =>
    rintro D c pre W hD hpre ⟨pre', x, ⟨rfl, rfl, hz, hx⟩, ⟨a0, a1, a2⟩, hB⟩ hK
    have hv0 : toksOf s = ([], x.1.off, x.2) := by
      unfold toksOf
      obtain ⟨rest, hrest⟩ := hpre
      rw [if_neg hlen, ← hrest, List.append_assoc, List.find?_append, List.find?_eq_none.2 (fun y hy => by simp [hz y hy])]
      simp [hx]
    rw [hv0]
    have c0 := a0.cell
    have c1 := a1.cell
    have c2 := a2.cell
    clear hv0 hz hx
    have HK := Lib.hid hK
    clear hK
    gi_wp2
    have hK := HK.out
    refine ⟨by simp, .inl ⟨_, _, rfl, run_takeDeferred hK, ?_⟩⟩
    have k0 := (a0.kept (grownBy_putObj' W D (.deferred none)) (by simp; omega)).cell
    have k1 := (a1.kept (grownBy_putObj' W D (.deferred none)) (by simp; omega)).cell
    have k2 := (a2.kept (grownBy_putObj' W D (.deferred none)) (by simp; omega)).cell
    exact ⟨.tuple #[.slice none 0 0, .int .i64 x.1.off, .int .i64 x.2], by simp [results, Tryz.results28, go_sem, k0, k1, k2], _, rfl, World.ownsRow_nil _ _ _ _, hB.trans (belowK_b (w := w) (Nat.le_refl _) W D _ _ (by omega) hK rfl rfl)⟩
end Go.Proofs.YtplnnpkohdmiaaaGreatDoor
