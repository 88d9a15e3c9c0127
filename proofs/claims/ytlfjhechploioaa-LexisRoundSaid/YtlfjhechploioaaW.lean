/-
  DERIVED. Printed tokens are read back; the walk of the law LexisRound.
-/
import Derived.Test.YtlfjhechploioaaV
namespace Go.Proofs.Ytlfjhechploioaa
open Go.RowKit

theorem read_head (s : ByteArray) (h : (readOf s).2 = 0) : ∃ c r, bt s = c :: r ∧ isBl c = false ∧ c.toNat ≠ 35 := by
  unfold readOf at h
  cases hb : bt s with
  | nil => rw [hb] at h; cases h
  | cons c r =>
    rw [hb] at h
    refine ⟨c, r, rfl, ?_⟩
    simp only [List.head?_cons] at h
    by_cases hl : isLe c = true
    · simp only [isLe, Bool.and_eq_true, decide_eq_true_eq] at hl
      exact ⟨by simp [isBl]; omega, by omega⟩
    · by_cases hd : isDi c = true
      · simp only [isDi, Bool.and_eq_true, decide_eq_true_eq] at hd
        exact ⟨by simp [isBl]; omega, by omega⟩
      · by_cases hg : isSi c = true
        · simp only [isSi, Bool.or_eq_true, decide_eq_true_eq] at hg
          exact ⟨by simp [isBl]; omega, by omega⟩
        · simp [hl, hd, hg] at h
theorem sk_head (c : UInt8) (r : List UInt8) (h1 : isBl c = false) (h2 : c.toNat ≠ 35) : sk false (c :: r) = 0 := by simp [sk, h1, h2]

theorem sameT_off (t : Tok) (k : Int) : sameT t { t with off := k } = true := by simp [sameT]

/-- A token that stands in front of a byte that no token has, or at the end. -/
theorem al_tok (t : Tok) (h : validT t = true) (e : List UInt8) (he : e = [] ∨ ∃ x b, e = x :: b ∧ inNa x = false) (k : Nat) :
    al (bt t.text ++ e) k = ({ t with off := (k : Int) }, 0) :: al e (k + t.text.size) := by
  have hr := valid_read t h
  obtain ⟨c, r, hc, hb, h35⟩ := read_head t.text (by rw [hr])
  have hne : bt t.text ≠ [] := by rw [hc]; simp
  have hrd : readOf (bs (bt t.text ++ e)) = ({ t with off := 0 }, 0) := by
    rcases he with rfl | ⟨x, b, rfl, hx⟩
    · rw [List.append_nil, bs_bt]; exact hr
    · rw [read_app _ _ _ hne hx, bs_bt]; exact hr
  have hs : sk false (bt t.text ++ e) = 0 := by rw [hc, List.cons_append]; exact sk_head c _ hb h35
  have h1 := al_ok (bt t.text ++ e) _ k (by rw [hs, List.drop_zero]) (by simp [hne]) (by rw [hrd])
  rw [hrd, hs] at h1
  dsimp only at h1
  rw [h1]
  have hd : (bt t.text ++ e).drop t.text.size = e := by rw [← bt_len, List.drop_left]
  rw [hd, Nat.add_zero]

theorem join_cons2 (x y : List UInt8) (r : List (List UInt8)) (sep : List UInt8) : Lib.join (x :: y :: r) sep = x ++ (sep ++ Lib.join (y :: r) sep) := by
  rw [Lib.join_cons, Lib.join_cons]
  simp [Lib.joinTail]

theorem join_al (sep e : List UInt8) (hs : ∀ y, sk false (sep ++ y) = sep.length + sk false y) (hx : ∃ x r, sep = x :: r ∧ inNa x = false) (he : e = [] ∨ ∃ x r, e = x :: r ∧ inNa x = false) (he2 : ∀ k, al e k = []) :
    ∀ (l : List Tok) (k : Nat), (∀ t ∈ l, validT t = true) → ∃ m, al (Lib.join (l.map fun t => bt t.text) sep ++ e) k = m.map (fun t => (t, 0)) ∧ sameL l m = true
  | [], k, _ => ⟨[], by rw [List.map_nil, Lib.join_nil, List.nil_append, he2]; rfl, rfl⟩
  | [t], k, h => by
    refine ⟨[{ t with off := (k : Int) }], ?_, by simp [sameL, sameT_off]⟩
    rw [List.map_cons, List.map_nil, Lib.join_one, al_tok t (h t (by simp)) e he, he2]
    rfl
  | t :: t2 :: r, k, h => by
    obtain ⟨x, sr, hsep, hxn⟩ := hx
    obtain ⟨m, hm, hsm⟩ := join_al sep e hs ⟨x, sr, hsep, hxn⟩ he he2 (t2 :: r) (k + t.text.size + sep.length) (fun u hu => h u (List.mem_cons_of_mem _ hu))
    refine ⟨{ t with off := (k : Int) } :: m, ?_, by rw [sameL, sameT_off, hsm]; rfl⟩
    rw [List.map_cons, List.map_cons, join_cons2, List.append_assoc, List.append_assoc, al_tok t (h t (by simp)) _ (.inr ⟨x, _, by rw [hsep, List.cons_append], hxn⟩), al_gap _ _ _ (hs _)]
    rw [List.map_cons] at hm
    rw [hm]
    rfl

theorem toks_of_al (s : ByteArray) (m : List Tok) (h4 : s.size ≤ 4096) (h : al (bt s) 0 = m.map (fun t => (t, 0))) : toksOf s = (m, 0, 0) := by
  have hq := seqOf_al s
  rw [h] at hq
  rw [toksOf_ok s (by omega) (by rw [hq]; intro y hy; obtain ⟨t, _, rfl⟩ := List.mem_map.1 hy; rfl), hq, List.map_map]
  have : ((fun x : Tok × Int => x.1) ∘ fun t : Tok => (t, (0 : Int))) = id := rfl
  rw [this, List.map_id]

theorem bt_joinB (l : List Tok) : bt (joinB l) = Lib.join (l.map fun t => bt t.text) [32] := by
  unfold joinB
  rw [List.map_map]
  exact bt_bs _

/-- What Tokens gives. -/
theorem toks_cases (s : ByteArray) : (∃ l, toksOf s = (l, 0, 0) ∧ s.size ≤ 4096 ∧ al (bt s) 0 = l.map (fun t => (t, 0)) ∧ (∀ t ∈ l, validT t = true) ∧ l.length ≤ 4097) ∨
    (∃ at_ er, toksOf s = ([], at_, er) ∧ er ≠ 0 ∧ 0 ≤ at_ ∧ at_ ≤ max (s.size : Int) 4096) := by
  by_cases h4 : 4096 < s.size
  · exact .inr ⟨4096, 3, by unfold toksOf; rw [if_pos h4], by decide, by decide, by omega⟩
  · have hq := seqOf_al s
    cases hf : (seqOf s).find? (fun x => x.2 != 0) with
    | none =>
      have hz : ∀ y ∈ seqOf s, y.2 = 0 := fun y hy => by
        have := List.find?_eq_none.1 hf y hy
        simpa using this
      refine .inl ⟨(seqOf s).map (·.1), toksOf_ok s h4 hz, by omega, ?_, ?_, ?_⟩
      · rw [← hq, List.map_map]
        have : ∀ l : List (Tok × Int), (∀ y ∈ l, y.2 = 0) → l = l.map ((fun t : Tok => (t, (0 : Int))) ∘ fun x => x.1) := by
          intro l
          induction l with
          | nil => intro _; rfl
          | cons a l ih =>
            intro h
            rw [List.map_cons, ← ih (fun y hy => h y (List.mem_cons_of_mem _ hy))]
            have := h a (by simp)
            obtain ⟨a1, a2⟩ := a
            dsimp only at this ⊢
            rw [this]; rfl
        exact this _ hz
      · intro t ht
        obtain ⟨y, hy, rfl⟩ := List.mem_map.1 ht
        rw [hq] at hy
        exact al_valid _ _ _ (Nat.le_refl _) y hy (hz y (by rw [hq]; exact hy))
      · rw [List.length_map]
        have := seqF_len s (s.size + 1) (sk false (bt s))
        unfold seqOf
        omega
    | some x =>
      have hx := List.find?_some hf
      have hm := List.mem_of_find?_eq_some hf
      rw [hq] at hm
      have ho := al_off _ _ _ (Nat.le_refl _) x hm
      rw [bt_len] at ho
      refine .inr ⟨x.1.off, x.2, by unfold toksOf; rw [if_neg h4, hf], by simpa using hx, by omega, by omega⟩

theorem sk_one (y : List UInt8) : sk false ([32] ++ y) = [(32 : UInt8)].length + sk false y := by
  have hb : isBl 32 = true := by decide
  simp [sk, hb]; omega

/-- Tokens that can be printed are read back. -/
theorem print_back (l : List Tok) (h : ∀ t ∈ l, validT t = true) (h4 : (joinB l).size ≤ 4096) : ∃ m, toksOf (joinB l) = (m, 0, 0) ∧ sameL l m = true := by
  obtain ⟨m, hm, hs⟩ := join_al [32] [] sk_one ⟨32, [], rfl, by decide⟩ (.inl rfl) (fun k => al_nil _ _ rfl) l 0 h
  rw [List.append_nil, ← bt_joinB] at hm
  exact ⟨m, toks_of_al _ m h4 hm, hs⟩

set_option maxHeartbeats 400000 in
theorem round_long (s : ByteArray) (l : List Tok) (H1 : Hid (∀ w, Calls Try.prog 10 #[.string s] w (TokPost (l, 0, 0) w))) (H2 : Hid (∀ v w, TokSl w w.heap.size v l → Calls Try.prog 14 #[v] w fun e w' => e = .returned (.tuple #[.string ⟨#[]⟩, .int .i64 3]) ∧ Below w.heap.size w w')) (w : World) :
    Calls Try.prog 5 #[.string s] w fun e w' => e = .returned (.bool true) ∧ Below w.heap.size w w' := by
  go_enter Try.func5, Try.ntmps5
  go_wp2_with (first | (go_at_call 10; refine (H1.out _).mono ?_; rintro e w1 ⟨v1, rfl, hr1, hb1⟩; have s1 := Lib.hid (TokSl.of_own hr1); clear hr1) | (go_at_call 14; refine (H2.out _ _ s1.out).mono ?_; rintro e w2 ⟨rfl, hb2⟩) | (go_at_call 13; refine (l_awake _).mono ?_; rintro e w4 ⟨rfl, hb4⟩))
  go_ret
  have z1 := hb1.size
  have z2 := hb2.size
  exact ⟨rfl, hb1.trans ((hb2.mono z1).trans (hb4.mono (by omega)))⟩

set_option maxHeartbeats 400000 in
theorem round_back (s S : ByteArray) (l m : List Tok) (H1 : Hid (∀ w, Calls Try.prog 10 #[.string s] w (TokPost (l, 0, 0) w))) (H2 : Hid (∀ v w, TokSl w w.heap.size v l → Calls Try.prog 14 #[v] w fun e w' => e = .returned (.tuple #[.string S, .int .i64 0]) ∧ Below w.heap.size w w'))
    (H3 : Hid (∀ w, Calls Try.prog 10 #[.string S] w (TokPost (m, 0, 0) w))) (Hsm : Hid (sameL l m = true)) (w : World) :
    Calls Try.prog 5 #[.string s] w fun e w' => e = .returned (.bool true) ∧ Below w.heap.size w w' := by
  go_enter Try.func5, Try.ntmps5
  go_wp2_with fail
  refine (H1.out _).mono ?_
  rintro e w1 ⟨v1, rfl, hr1, hb1⟩
  have s1 := Lib.hid (TokSl.of_own hr1)
  clear hr1
  go_wp2_with fail
  refine (H2.out _ _ s1.out).mono ?_
  rintro e w2 ⟨rfl, hb2⟩
  go_wp2_with fail
  refine (H3.out _).mono ?_
  rintro e w3 ⟨v3, rfl, hr3, hb3⟩
  have s3 := Lib.hid (TokSl.of_own hr3)
  clear hr3
  go_wp2_with (first | (go_at_call 16; refine (r_Same _ _ l m _ _ (((s1.out.below hb2 (Nat.le_refl _)).below hb3 hb2.size).more (Nat.le_trans hb2.size hb3.size)) s3.out).mono ?_; rintro e w5 ⟨rfl, n, rfl⟩; rw [Hsm.out]) | (go_at_call 13; refine (l_awake _).mono ?_; rintro e w4 ⟨rfl, hb4⟩))
  go_ret
  have z1 := hb1.size
  have z2 := hb2.size
  have z3 := hb3.size
  exact ⟨rfl, hb1.trans ((hb2.mono z1).trans ((hb3.mono (by omega)).trans ((below_drewN (Below.refl _ _) n).trans (hb4.mono (by show _ ≤ w3.heap.size; omega)))))⟩

set_option maxHeartbeats 400000 in
theorem round_err (s : ByteArray) (at_ er : Int) (H1 : Hid (∀ w, Calls Try.prog 10 #[.string s] w (TokPost ([], at_, er) w))) (hbn : (er != 0) = true) (h0 : 0 ≤ at_) (hm : at_ ≤ max (s.size : Int) 4096) (w : World) :
    Calls Try.prog 5 #[.string s] w fun e w' => e = .returned (.bool true) ∧ Below w.heap.size w w' := by
  go_enter Try.func5, Try.ntmps5
  go_wp2_with (first | (go_at_call 10; refine (H1.out _).mono ?_; rintro e w1 ⟨v1, rfl, hr1, hb1⟩; have s1 := TokSl.of_own hr1; obtain ⟨A, c, rfl, -⟩ := s1; clear hr1) | (go_at_call 13; refine (l_awake _).mono ?_; rintro e w4 ⟨rfl, hb4⟩))
  go_ret
  exact ⟨rfl, hb1.trans (hb4.mono hb1.size)⟩

theorem w_LexisRound (s : ByteArray) (hs : s.size ≤ maxLen) (w : World) :
    Calls Try.prog 5 #[.string s] w fun e w' => e = .returned (.bool true) ∧ Below w.heap.size w w' := by
  have H1 := Lib.hid (c_Tokens s hs)
  unfold maxLen at hs
  rcases toks_cases s with ⟨l, ht, h4, -, hval, hlen⟩ | ⟨at_, er, ht, her, h0, hm⟩
  · rw [ht] at H1
    have hz : ∀ t ∈ l, t.text.size ≤ maxLen := fun t h => by have := valid_len t (hval t h); unfold maxLen; omega
    have H2 := Lib.hid (fun v w => c_Print v l (by omega) hz w)
    have hp : printOf l = if 4096 < (joinB l).size then (⟨#[]⟩, 3) else (joinB l, 0) := by unfold printOf; rw [if_pos (List.all_eq_true.2 hval)]
    by_cases hj : 4096 < (joinB l).size
    · rw [if_pos hj] at hp
      rw [hp] at H2
      exact round_long s l H1 H2 w
    · rw [if_neg hj] at hp
      obtain ⟨m, ht2, hsm⟩ := print_back l hval (by omega)
      have H3 := Lib.hid (c_Tokens (joinB l) (by unfold maxLen; omega))
      rw [hp] at H2
      rw [ht2] at H3
      exact round_back s (joinB l) l m H1 H2 H3 (Lib.hid hsm) w
  · rw [ht] at H1
    exact round_err s at_ er H1 (by rw [bne_iff_ne]; exact her) h0 hm w
end Go.Proofs.Ytlfjhechploioaa
