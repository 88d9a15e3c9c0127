/-
  DERIVED. The contract of the reference's Tokens.
-/
import Derived.Test.YtlfjhechploioaaG
import Derived.Test.YtlfjhechploioaaI
namespace Go.Proofs.Ytlfjhechploioaa
open Go.RowKit

/-- What stands between two rounds of the reference's loop. -/
def RtRel (s : ByteArray) (w : World) (lv iv : Value) (wr : World) : Prop :=
  ∃ (k f : Nat) (pre : List (Tok × Int)), iv = .int .i64 k ∧ k ≤ s.size ∧ s.size < f + k ∧ seqOf s = pre ++ seqF s f k ∧ (∀ y ∈ pre, y.2 = 0) ∧
    wr.ownsRow w.heap.size 34 4 lv pre.length (tokCells (pre.map (·.1))) ∧ Below w.heap.size w wr

theorem toksOf_ok (s : ByteArray) (h : ¬ 4096 < s.size) (hz : ∀ y ∈ seqOf s, y.2 = 0) : toksOf s = ((seqOf s).map (·.1), 0, 0) := by
  unfold toksOf
  rw [if_neg h, List.find?_eq_none.2 (fun x hx => by simp [hz x hx])]
theorem toksOf_err (s : ByteArray) (h : ¬ 4096 < s.size) (pre rest : List (Tok × Int)) (x : Tok × Int) (he : seqOf s = pre ++ x :: rest) (hz : ∀ y ∈ pre, y.2 = 0) (hx : x.2 ≠ 0) : toksOf s = ([], x.1.off, x.2) := by
  unfold toksOf
  rw [if_neg h, he, List.find?_append, List.find?_eq_none.2 (fun y hy => by simp [hz y hy])]
  simp [hx]

theorem ownsRow_below {W W' : World} {base : Nat} {e : TypeId} {size : Nat} {v : Value} {k : Nat} {xs : List Value} (h : W.ownsRow base e size v k xs) (hb : Below W.heap.size W W') : W'.ownsRow base e size v k xs :=
  h.kept (only_of_below hb none) (Classical.em _)

theorem cell_four_new' (w : World) {n : Nat} (hn : n = w.heap.size) (a b c d : Value) (t : TypeId) : ∀ j u, [a, b, c, d][j]? = some u → (w.alloc (.cells #[a, b, c, d] t)).cell? ((⟨n, 0, none⟩ : Addr).add j) = some u := by
  subst hn; exact cell_four_new w a b c d t

/-- Behind the append: the token's box, and what lay. -/
theorem rt_after {w wr w1 w3 : World} {lv : Value} {k : Nat} {xs : List Value} {a b c d : Value} {tmp : Obj} (hrow : wr.ownsRow w.heap.size 34 4 lv k xs) (hB : Below w.heap.size w wr) (hbl : Below wr.heap.size wr w1)
    (hgrow : ((w1.alloc (.cells #[a, b, c, d] 34)).alloc tmp).grownBy w3 lv.ownBlock) : w3.cell? ⟨w1.heap.size, 1, none⟩ = some b ∧ Below w.heap.size w w3 := by
  have hz := hbl.size
  have hz2 := hB.size
  have hlt : ∀ g, lv.ownBlock = some g → w.heap.size ≤ g ∧ g < wr.heap.size := hrow.lt
  constructor
  · have h1 : w3.heap[w1.heap.size]? = some (.cells #[a, b, c, d] 34 (0, 0)) := by
      refine (hgrow.block w1.heap.size (by simp; omega) (fun e => ?_)).trans ((Below.heap_alloc _ tmp w1.heap.size (by simp)).trans (heap_alloc_new w1 _))
      have := (hlt _ e.symm).2; omega
    simp [World.cell?, h1]
  · exact (((hB.trans (hbl.mono hz2)).alloc (by omega) _).alloc (by simp; omega) _).grown hgrow (by simp; omega) (fun g e => (hlt g e).1)

set_option maxHeartbeats 1000000 in
theorem r_Tokens (s : ByteArray) (hs : s.size ≤ maxLen) (w : World) :
    Calls Try.prog 11 #[.string s] w (TokPost (toksOf s) w) := by
  have Hs := Lib.hid hs
  unfold maxLen at hs
  by_cases hlen : 4096 < s.size
  · have hv : toksOf s = ([], 4096, 3) := by unfold toksOf; rw [if_pos hlen]
    rw [hv]
    clear hv
    go_enter Try.func11, Try.ntmps11
    go_wp2
    go_ret3
    exact ⟨_, rfl, World.ownsRow_nil _ _ _ _, Below.refl _ _⟩
  obtain ⟨i0, hi, hz0, hz1, hz2⟩ := info_parts info34
  have hsk : ∀ w, Calls Try.prog 19 #[.string s, .int .i64 0] w fun e w' => e = .returned (.int .i64 (sk false (bt s) : Int)) ∧ w' = w := fun w => by
    have h := r_skip s Hs.out 0 (Nat.zero_le _) w
    simpa using h
  have hk0 : sk false (bt s) ≤ s.size := by have := sk_le false (bt s); rwa [bt_len] at this
  generalize hk : sk false (bt s) = k0 at hsk hk0
  have Hk := Lib.hid hk
  have Hsk := Lib.hid hsk
  clear hsk hk
  go_enter Try.func11, Try.ntmps11
  go_wp2_with (first | (go_at_call 19; refine (Hsk.out _).mono ?_; rintro e w' ⟨rfl, rfl⟩))
  go_loopw [5, 6] (fun lv iv wr => RtRel s w' lv iv wr) (fun lv iv wr => s.size - (intOf iv).toNat)
  case atStart =>
    exact ⟨k0, s.size + 1, [], rfl, hk0, by omega, by rw [List.nil_append, ← Hk.out]; rfl, (by intro y hy; cases hy), World.ownsRow_nil _ _ _ _, Below.refl _ _⟩
  case round =>
    obtain ⟨k, f, pre, rfl, hk1, hf, hq, hz, hrow, hB⟩ := hrel
    by_cases hlt : k < s.size
    · obtain ⟨f, rfl⟩ : ∃ f', f = f' + 1 := ⟨f - 1, by omega⟩
      have hrd := r_one s Hs.out k hlt
      have hok := read_ok (s.extract k s.size)
      simp only [seqF, if_pos hlt] at hq
      unfold oneOf at hrd
      have hsx : (s.extract k s.size).size = s.size - k := by simp only [ByteArray.size_extract]; omega
      rw [hsx] at hok
      have hpl : pre.length ≤ 4096 := by have := seqF_len s (s.size + 1) (sk false (bt s)); unfold seqOf at hq; rw [hq, List.length_append] at this; split at this <;> simp at this <;> omega
      generalize readOf (s.extract k s.size) = r at hrd hok hq
      clear hsx
      obtain ⟨⟨kd, tx, nm, of0⟩, er⟩ := r
      dsimp only at hok hq hrd
      have Hz := Lib.hid hz
      clear hz
      by_cases her : er = 0
      · subst her
        obtain ⟨m, hm0, hm1, hm2⟩ := hok rfl
        have htx : tx.size = m := by rw [hm2]; simp only [ByteArray.size_extract]; omega
        clear hok
        rw [if_pos rfl, htx] at hq
        rw [if_pos rfl] at hrd
        have Hrd := Lib.hid hrd
        have Hm2 := Lib.hid hm2
        have Hq := Lib.hid hq
        have Htx := Lib.hid htx
        clear hm2 hq htx hrd
        have hsk2 : ∀ w, Calls Try.prog 19 #[.string s, .int .i64 ((k : Int) + (m : Int))] w fun e w' => e = .returned (.int .i64 (((k + m : Nat) : Int) + (sk false ((bt s).drop (k + m)) : Int))) ∧ w' = w := fun w => by
          have h := r_skip s Hs.out (k + m) (by omega) w
          simpa using h
        have hle := sk_le false ((bt s).drop (k + m))
        rw [List.length_drop, bt_len] at hle
        have Hsk2 := Lib.hid hsk2
        clear hsk2
        have ht1 : (tx.size : Int) = m := by rw [Htx.out]
        go_wp2_with (first | (go_at_call 20; refine (Hrd.out _).mono ?_; rintro e w1 ⟨rfl, hbl⟩; simp only [Tok.val]; have hr1 := (ownsRow_below hrow hbl).kept (World.grownBy_alloc w1 (.cells #[.int .u8 kd, .string tx, .int .i64 nm, .int .i64 k] 34) none) (Classical.em _)) | (at_builtin; refine wpList_append_own _ rfl _ _ 22 rfl w'.heap.size 34 i0 Tok.zero.val 4 40 Try.underlying22 hi hz0 hz1 hz2 rfl (by decide) _ _ _ rfl (hr1.alloc _) ⟨w1.heap.size + 1, 0, none⟩ 1 1 (Tok.cells ⟨kd, tx, nm, k⟩) rfl rfl (cell_four_new' _ (by simp) _ _ _ _ _) (by simp [Value.oneCell', Tok.cells]) (by simp only [maxLen]; omega) (by omega) (by have h1 := hB.size; have h2 := hbl.size; simp; omega) ?_; intro v' w3 hown' hgrow _; obtain ⟨g', cap', rfl⟩ := ownsRow_succ hown'; obtain ⟨htc, hb3⟩ := rt_after hrow hB hbl hgrow) | (go_at_call 19; refine (Hsk2.out _).mono ?_; rintro e w2 ⟨rfl, rfl⟩))
        refine ⟨⟨k + m + sk false ((bt s).drop (k + m)), f, pre ++ [(⟨kd, tx, nm, k⟩, 0)], by go_num, by omega, by omega, by rw [Hq.out]; simp, ?_, ?_, hb3⟩, by simp [intOf]; omega⟩
        · intro y hy
          rcases List.mem_append.1 hy with h | h
          · exact Hz.out y h
          · rw [List.mem_singleton.1 h]
        · rw [List.length_append, List.map_append, List.map_cons, List.map_nil, tokCells_snoc]
          exact hown'
      · have hxb : (er != 0) = true := by rw [bne_iff_ne]; exact her
        rw [if_neg her] at hq hrd
        have hv := toksOf_err s hlen pre [] _ hq Hz.out her
        have Hv := Lib.hid hv
        have Hrd := Lib.hid hrd
        clear hq hok her hv hrd
        go_wp2_with (first | (go_at_call 20; refine (Hrd.out _).mono ?_; rintro e w1 ⟨rfl, hbl⟩; simp only [Tok.val]))
        rw [Hv.out]
        go_ret3
        exact ⟨_, rfl, World.ownsRow_nil _ _ _ _, (hB.trans (hbl.mono hB.size)).alloc (by have h1 := hB.size; have h2 := hbl.size; omega) _⟩
    · have hq2 : seqOf s = pre := by rw [hq, seqF_end s f k (by omega), List.append_nil]
      have hv := toksOf_ok s hlen (by rw [hq2]; exact hz)
      have Hv := Lib.hid hv
      have Hq := Lib.hid hq2
      clear hq hv hq2 hz
      go_wp2
      rw [Hv.out, Hq.out]
      go_ret3
      refine ⟨_, rfl, ?_, hB⟩
      rwa [List.length_map]
end Go.Proofs.Ytlfjhechploioaa
