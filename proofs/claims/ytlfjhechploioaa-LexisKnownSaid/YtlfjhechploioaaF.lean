/-
  DERIVED. The contract of the iterator that lexis.tokens makes.
-/
import Derived.RangeFuncNested
import Derived.RangeFuncBound
import Derived.RangeFuncCalls
import Derived.RangeFuncLeaves
import Derived.RangeFuncBox
import Derived.Shelf.Abstract
import Derived.Shelf.RegionOpen
import Derived.OwnWalkIn
import Derived.TacticsInMore
import Derived.LoopNIn
import Derived.LoopIn
import Derived.Test.YtlfjhechploioaaE
namespace Go.Proofs.Ytlfjhechploioaa
open Go.RowKit Go.Shelf
attribute [local go_sem] Oper.semAt_some

/-- What the iterator yields from offset k on: each token with 0; an error with a token that has only its offset. -/
def seqF (s : ByteArray) : Nat → Nat → List (Tok × Int)
  | 0, _ => []
  | f + 1, k =>
    if k < s.size then
      if (readOf (s.extract k s.size)).2 = 0 then
        ({ (readOf (s.extract k s.size)).1 with off := (k : Int) }, 0) :: seqF s f (k + (readOf (s.extract k s.size)).1.text.size + sk false ((bt s).drop (k + (readOf (s.extract k s.size)).1.text.size)))
      else [({ (readOf (s.extract k s.size)).1 with off := (k : Int) }, (readOf (s.extract k s.size)).2)]
    else []
def seqOf (s : ByteArray) : List (Tok × Int) := seqF s (s.size + 1) (sk false (bt s))

/-- The own block of the slice in box B. -/
def ob (B : Nat) (W : World) : Option Nat :=
  match W.heap[B]? with
  | some (.cells cs _ _) => (cs[0]?).bind Value.ownBlock
  | _ => none

/-- What a round keeps: all cells above box B but those of the slice that lies in it. -/
structure KeepT (B : Nat) (W W' : World) : Prop where
  size : W.heap.size ≤ W'.heap.size
  row : ∀ g, ob B W' = some g → ob B W = some g ∨ W.heap.size ≤ g
  lt : (∀ g, ob B W = some g → g < W.heap.size) → ∀ g, ob B W' = some g → g < W'.heap.size
  same : ∀ i cs t fr, B < i → W.heap[i]? = some (.cells cs t fr) → ob B W ≠ some i → W'.heap[i]? = some (.cells cs t fr)

theorem KeepT.trans {B : Nat} {X Y Z : World} (h : KeepT B X Y) (k : KeepT B Y Z) : KeepT B X Z :=
  ⟨Nat.le_trans h.size k.size,
   fun g hg => by
    rcases k.row g hg with h1 | h1
    · exact h.row g h1
    · exact .inr (Nat.le_trans h.size h1),
   fun hl => k.lt (h.lt hl),
   fun i cs t fr hi hc hn => k.same i cs t fr hi (h.same i cs t fr hi hc hn) (fun e => by
    rcases h.row i e with h1 | h1
    · exact hn h1
    · have := (Array.getElem?_eq_some_iff.1 hc).1; omega)⟩

theorem ob_of {B : Nat} {W W' : World} (h : W'.heap[B]? = W.heap[B]?) : ob B W' = ob B W := by unfold ob; rw [h]

theorem KeepT.putObj {B : Nat} {w : World} (hB : B < w.heap.size) (W : World) (l : Nat) (o o' : Obj) (hl : w.heap.size ≤ l) (h : W.heap[l]? = some o) (ho : o.isCells = false) (_ : o.isWalk = false) : KeepT B W (W.putObj l o') := by
  have hb : ob B (W.putObj l o') = ob B W := ob_of (World.putObj_heap_other (by omega))
  have hs : (W.putObj l o').heap.size = W.heap.size := by simp
  refine ⟨by omega, fun g hg => .inl (hb ▸ hg), fun hg g h1 => by rw [hs]; exact hg g (hb ▸ h1), fun i cs t fr hi hc _ => ?_⟩
  have hne : i ≠ l := by rintro rfl; rw [h] at hc; cases hc; cases ho
  exact (World.putObj_heap_other (by omega)).trans hc

theorem KeepT.alloc {B : Nat} (W : World) (o : Obj) (hB : B < W.heap.size) : KeepT B W (W.alloc o) := by
  have hb : ob B (W.alloc o) = ob B W := ob_of (Below.heap_alloc W o B hB)
  refine ⟨by simp, fun g hg => .inl (hb ▸ hg), fun hg g h1 => by have := hg g (hb ▸ h1); simp; omega, fun i cs t fr hi hc _ => ?_⟩
  exact (Below.heap_alloc W o i (Array.getElem?_eq_some_iff.1 hc).1).trans hc

theorem seqF_end (s : ByteArray) (f k : Nat) (h : s.size ≤ k) : seqF s f k = [] := by
  cases f with
  | zero => rfl
  | succ f => simp [seqF, Nat.not_lt.2 h]

theorem name_ok (s : ByteArray) (h : (nameOf s).2 = 0) : (nameOf s).1.text = s := by
  unfold nameOf at h ⊢
  by_cases h1 : 12 < s.size
  · rw [if_pos h1] at h; cases h
  · rw [if_neg h1]
theorem number_ok (s : ByteArray) (h : (numberOf s).2 = 0) : (numberOf s).1.text = s := by
  unfold numberOf at h ⊢
  by_cases h1 : 1 < s.size ∧ (bt s).head? = some 48
  · rw [if_pos h1] at h; cases h
  · rw [if_neg h1] at h ⊢
    by_cases h2 : 9 < s.size
    · rw [if_pos h2] at h; cases h
    · rw [if_neg h2]
theorem fr_pos (p : UInt8 → Bool) (s : ByteArray) (c : UInt8) (hh : (bt s).head? = some c) (hp : p c = true) : 0 < fr p (bt s) := by
  cases hb : bt s with
  | nil => rw [hb] at hh; cases hh
  | cons d r =>
    rw [hb] at hh
    injection hh with hh
    subst hh
    simp [fr, hp]

/-- The text of a token that is read is a part of what stands there, and not empty. -/
theorem read_ok (s : ByteArray) (h : (readOf s).2 = 0) : ∃ n, 0 < n ∧ n ≤ s.size ∧ (readOf s).1.text = s.extract 0 n := by
  unfold readOf at h ⊢
  cases hh : (bt s).head? with
  | none => rw [hh] at h; cases h
  | some c =>
    rw [hh] at h
    have h0 : 0 < s.size := by
      rw [← bt_len]
      cases hb : bt s with
      | nil => rw [hb] at hh; cases hh
      | cons d r => simp
    simp only at h ⊢
    by_cases hl : isLe c = true
    · rw [if_pos hl] at h ⊢
      have := fr_le inNa (bt s)
      rw [bt_len] at this
      exact ⟨_, fr_pos inNa s c hh (by simp [inNa, hl]), this, name_ok _ h⟩
    · rw [if_neg hl] at h ⊢
      by_cases hd : isDi c = true
      · rw [if_pos hd] at h ⊢
        have := fr_le isDi (bt s)
        rw [bt_len] at this
        exact ⟨_, fr_pos isDi s c hh hd, this, number_ok _ h⟩
      · rw [if_neg hd] at h ⊢
        by_cases hg : isSi c = true
        · rw [if_pos hg] at h ⊢
          exact ⟨1, by omega, by omega, rfl⟩
        · rw [if_neg hg] at h; cases h

theorem only_of_below {a w : World} (h : Below a.heap.size a w) (row : Option Nat) : a.grownBy w row := ⟨h.os, h.tape, h.output, h.size, fun i hi _ => h.block i hi⟩

theorem Boxed.below_ {W W' : World} {B n : Nat} {t : TypeId} {v : Value} (h : Boxed W B t v) (hb : Below n W W') (hn : B < n) : Boxed W' B t v := (hb.block B hn).trans h

theorem iter_after {B Bs : Nat} {wr w1 W3 : World} {tb : Array Value} {v : Value} (hBs : B < Bs) (hgd : ∀ g, ob B wr = some g → g < wr.heap.size) (hne : ob B wr ≠ some Bs) (hbx : Boxed wr Bs 9 v)
    (hbl : Below wr.heap.size wr w1) (hk : KeepT B (w1.alloc (.cells tb 34)) W3) :
    W3.heap[w1.heap.size]? = some (.cells tb 34 (0, 0)) ∧ Boxed W3 Bs 9 v ∧ (∀ g, ob B W3 = some g → g < W3.heap.size) ∧ ob B W3 ≠ some Bs ∧ wr.heap.size ≤ W3.heap.size := by
  have hlt := hbx.lt
  have hz := hbl.size
  have hbl2 : Below wr.heap.size wr (w1.alloc (.cells tb 34)) := hbl.alloc hbl.size _
  have ho : ob B (w1.alloc (.cells tb 34)) = ob B wr := ob_of (hbl2.block B (by omega))
  have hs : (w1.alloc (.cells tb 34)).heap.size = w1.heap.size + 1 := by simp
  refine ⟨hk.same _ _ _ _ (by omega) (heap_alloc_new w1 _) (fun e => ?_), hk.same _ _ _ _ hBs (Boxed.below_ hbx hbl2 hlt) (by rw [ho]; exact hne), hk.lt (fun g hg => ?_), fun e => ?_, by have := hk.size; omega⟩
  · have := hgd _ (ho ▸ e); omega
  · have := hgd _ (ho ▸ hg); omega
  · rcases hk.row _ e with h1 | h1
    · exact hne (ho ▸ h1)
    · omega

/-- What stands between two rounds. -/
def ItRel (B Bs : Nat) (s : ByteArray) (J : List (Tok × Int) → World → Prop) (W : World) (p : Value) (wr : World) : Prop :=
  ∃ (k f : Nat) (pre : List (Tok × Int)), p = .int .i64 k ∧ k ≤ s.size ∧ s.size < f + k ∧ seqOf s = pre ++ seqF s f k ∧ J pre wr ∧ Boxed wr Bs 9 (.string s) ∧
    (∀ g, ob B wr = some g → g < wr.heap.size) ∧ ob B wr ≠ some Bs ∧ W.heap.size ≤ wr.heap.size

set_option maxHeartbeats 1000000 in
theorem c_iter (n : Nat) (hn : 1 ≤ n) (l B Bs : Nat) (hBs : B < Bs) (s : ByteArray) (hs : s.size ≤ maxLen) (J Jx : List (Tok × Int) → World → Prop) (W : World)
    (hW : Bs < W.heap.size) (hJ : AbidesFrom W.heap.size J)
    (hY : ∀ pre x W1, J pre W1 → pre.length < (seqOf s).length → YieldAt Fence.wide (n - 1) Try.prog l #[x.1.val, .int .i64 x.2] W1 fun e W' =>
      (e = .returned (.bool true) ∧ J (pre ++ [x]) W' ∧ KeepT B W1 W') ∨ (e = .returned (.bool false) ∧ Jx (pre ++ [x]) W'))
    (hb : Boxed W Bs 9 (.string s)) (h0 : ob B W = none) (hj : J [] W) :
    CallsIn Fence.wide n Try.prog 24 #[.func (.yield l) #[] #[], .pointer (some ⟨Bs, 0, none⟩)] W fun e W' => (∃ v, e = .returned v) ∧
      ((∃ ys, ys = seqOf s ∧ J ys W') ∨ (∃ pre, pre <+: seqOf s ∧ Jx pre W')) := by
  have Hs := Lib.hid hs
  unfold maxLen at hs
  have hbc := hb.cell
  have HY := Lib.hid hY
  have HJ := Lib.hid hJ
  have Hb := Lib.hid hb
  have H0 := Lib.hid h0
  clear hY hJ hb h0
  refine callsIn_of_wp Try.func24 rfl trivial ?_ rfl
  simp only [Try.ntmps24, List.size_toArray, List.length_cons, List.length_nil, Nat.reduceAdd, Nat.reduceSub, Array.replicate_succ, Array.replicate_zero, List.push_toArray, List.append_toArray, List.nil_append, List.cons_append]
  have hsk : ∀ w, Calls Try.prog 25 #[.string s, .int .i64 0] w fun e w' => e = .returned (.int .i64 (sk false (bt s) : Int)) ∧ w' = w := fun w => by
    have h := c_skip s Hs.out 0 (Nat.zero_le _) w
    simpa using h
  have hk0 : sk false (bt s) ≤ s.size := by have := sk_le false (bt s); rwa [bt_len] at this
  generalize hk : sk false (bt s) = k0 at hsk hk0
  have Hk := Lib.hid hk
  have Hsk := Lib.hid hsk
  clear hsk hk
  gi_wp2_with (refine ⟨trivial, ?_⟩; gi_at_call 25; refine (callsIn_wide.2 (Hsk.out _)).mono ?_; rintro e w' ⟨rfl, rfl⟩)
  gi_loopw [3] (fun p wr => ItRel B Bs s J w' p wr) (fun p wr => s.size - (intOf p).toNat)
  case atStart =>
    exact ⟨k0, s.size + 1, [], rfl, hk0, by omega, by rw [List.nil_append, ← Hk.out]; rfl, hj, Hb.out, (by rw [H0.out]; intro g hg; cases hg), (by rw [H0.out]; simp), Nat.le_refl _⟩
  case round =>
    obtain ⟨k, f, pre, rfl, hk1, hf, hq, hJs, hbx, hgd, hne, hsz⟩ := hrel
    have hbc1 := hbx.cell
    by_cases hlt : k < s.size
    · obtain ⟨f, rfl⟩ : ∃ f', f = f' + 1 := ⟨f - 1, by omega⟩
      have hrd := c_read (s.extract k s.size) (by simp only [ByteArray.size_extract, maxLen]; omega)
      have hok := read_ok (s.extract k s.size)
      simp only [seqF, if_pos hlt] at hq
      have hsx : (s.extract k s.size).size = s.size - k := by simp only [ByteArray.size_extract]; omega
      rw [hsx] at hok
      generalize readOf (s.extract k s.size) = r at hrd hok hq
      clear hsx
      obtain ⟨⟨kd, tx, nm, of0⟩, er⟩ := r
      dsimp only at hok hq hrd
      have Hrd := Lib.hid hrd
      have Hne := Lib.hid hne
      clear hrd hne
      by_cases her : er = 0
      · subst her
        obtain ⟨m, hm0, hm1, hm2⟩ := hok rfl
        have htx : tx.size = m := by rw [hm2]; simp only [ByteArray.size_extract]; omega
        clear hok
        rw [if_pos rfl, htx] at hq
        have Hm2 := Lib.hid hm2
        have Hq := Lib.hid hq
        have Htx := Lib.hid htx
        clear hm2 hq htx
        have hsk2 : ∀ w, Calls Try.prog 25 #[.string s, .int .i64 ((k : Int) + (m : Int))] w fun e w' => e = .returned (.int .i64 (((k + m : Nat) : Int) + (sk false ((bt s).drop (k + m)) : Int))) ∧ w' = w := fun w => by
          have h := c_skip s Hs.out (k + m) (by omega) w
          simpa using h
        have hle := sk_le false ((bt s).drop (k + m))
        rw [List.length_drop, bt_len] at hle
        have Hsk2 := Lib.hid hsk2
        clear hsk2
        have ht1 : (tx.size : Int) = m := by rw [Htx.out]
        gi_wp2_with (first | (refine ⟨trivial, ?_⟩; gi_at_call 26; refine (callsIn_wide.2 (Hrd.out _)).mono ?_; rintro e w1 ⟨rfl, hbl⟩; simp only [Tok.val]; have hbs1 := (Boxed.below_ hbx hbl (by omega)).alloc (.cells #[.int .u8 kd, .string tx, .int .i64 nm, .int .i64 k] 34); obtain ⟨fn, tmps, assign, body, hy, hR⟩ := HY.out pre (⟨kd, tx, nm, k⟩, 0) (w1.alloc (.cells #[.int .u8 kd, .string tx, .int .i64 nm, .int .i64 k] 34)) (HJ.out _ _ _ none hJs (only_of_below ((hbl.alloc hbl.size _)) none) (by intro r hr; cases hr)) (by rw [Hq.out]; simp); dsimp only [Tok.val] at hy) | (refine ⟨trivial, ?_⟩; gi_at_call 25; refine (callsIn_wide.2 (Hsk2.out _)).mono ?_; rintro e w2 ⟨rfl, rfl⟩))
        refine hR.mono ?_
        rintro e W3 (⟨rfl, hJ3, hk3⟩ | ⟨rfl, hJx3⟩)
        · obtain ⟨ht3, hb3, hg3, hn3, hz3⟩ := iter_after hBs hgd Hne.out hbx hbl hk3
          have hbc3 := hb3.cell
          have htc3 : W3.cell? ⟨w1.heap.size, 1, none⟩ = some (.string tx) := by simp [World.cell?, ht3]
          clear hk3 hy
          have HG3 := Lib.hid hg3
          have HT3 := Lib.hid ht3
          have HN3 := Lib.hid hn3
          clear hg3 hn3 ht3
          gi_wp2_with (first | (refine ⟨trivial, ?_⟩; gi_at_call 25; refine (callsIn_wide.2 (Hsk2.out _)).mono ?_; rintro e w2 ⟨rfl, rfl⟩))
          exact ⟨⟨k + m + sk false ((bt s).drop (k + m)), f, pre ++ [(⟨kd, tx, nm, k⟩, 0)], by go_num, by omega, by omega, by rw [Hq.out]; simp, hJ3, hb3, HG3.out, HN3.out, by omega⟩, by simp [intOf]; omega⟩
        · have Hx := Lib.hid hJx3
          clear hJx3 hy
          gi_wp2
          refine bodyPost_ret (results_none rfl _ _ _) rfl ?_
          exact ⟨⟨_, rfl⟩, .inr ⟨_, by rw [Hq.out]; exact ⟨seqF s f (k + m + sk false ((bt s).drop (k + m))), by simp⟩, Hx.out⟩⟩
      · have hxb : (er != 0) = true := by rw [bne_iff_ne]; exact her
        rw [if_neg her] at hq
        have Hq := Lib.hid hq
        clear hq hok her
        gi_wp2_with (first | (refine ⟨trivial, ?_⟩; gi_at_call 26; refine (callsIn_wide.2 (Hrd.out _)).mono ?_; rintro e w1 ⟨rfl, hbl⟩; simp only [Tok.val]; have hbs1 := (Boxed.below_ hbx hbl (by omega)).alloc (.cells #[.int .u8 kd, .string tx, .int .i64 nm, .int .i64 k] 34); obtain ⟨fn, tmps, assign, body, hy, hR⟩ := HY.out pre (⟨kd, tx, nm, k⟩, er) (w1.alloc (.cells #[.int .u8 kd, .string tx, .int .i64 nm, .int .i64 k] 34)) (HJ.out _ _ _ none hJs (only_of_below ((hbl.alloc hbl.size _)) none) (by intro r hr; cases hr)) (by rw [Hq.out]; simp); dsimp only [Tok.val] at hy))
        refine hR.mono ?_
        rintro e W3 (⟨rfl, hJ3, hk3⟩ | ⟨rfl, hJx3⟩)
        · have HJ3 := Lib.hid hJ3
          clear hJ3 hk3 hy
          gi_wp2
          refine bodyPost_ret (results_none rfl _ _ _) rfl ?_
          exact ⟨⟨_, rfl⟩, .inl ⟨_, by rw [Hq.out], HJ3.out⟩⟩
        · have Hx := Lib.hid hJx3
          clear hJx3 hy
          gi_wp2
          refine bodyPost_ret (results_none rfl _ _ _) rfl ?_
          exact ⟨⟨_, rfl⟩, .inr ⟨_, by rw [Hq.out]; exact List.prefix_rfl, Hx.out⟩⟩
    · have Hq := Lib.hid hq
      have Hne := Lib.hid hne
      clear hq hne
      gi_wp2
      go_end0
      exact ⟨⟨_, rfl⟩, .inl ⟨pre, by rw [Hq.out, seqF_end s f k (by omega), List.append_nil], hJs⟩⟩
end Go.Proofs.Ytlfjhechploioaa
