/-
  DERIVED. Several texts in one.
-/
import Derived.Test.YtfpcdgmdangmaaaGreatDoorYYAm
set_option linter.unusedVariables false
set_option linter.unusedSimpArgs false

/- DERIVED. Plain: a text cut behind one of its tokens. -/
namespace Go.Proofs.YtfpcdgmdangmaaaGreatDoor
open Go.RowKit

theorem fr_front (p : UInt8 → Bool) : ∀ (y z : List UInt8), fr p (y ++ z) ≤ y.length → fr p y = fr p (y ++ z)
  | [], z, h => by simp [fr] at h ⊢; omega
  | c :: y, z, h => by
    simp only [List.cons_append, fr, List.length_cons] at h ⊢
    by_cases hc : p c = true
    · rw [if_pos hc] at h
      rw [if_pos hc, if_pos hc, fr_front p y z (by omega)]
    · rw [if_neg hc, if_neg hc]
theorem read_front (y z : List UInt8) (h : (readOf (bs (y ++ z))).2 = 0) (hs : (readOf (bs (y ++ z))).1.text.size ≤ y.length) : readOf (bs y) = readOf (bs (y ++ z)) := by
  cases y with
  | nil =>
    have := (read_pos _ h).1
    rw [List.length_nil] at hs
    omega
  | cons c y =>
    unfold readOf at h hs ⊢
    rw [bt_bs] at h hs ⊢
    rw [bt_bs]
    simp only [List.cons_append, List.head?_cons] at h hs ⊢
    by_cases hl : isLe c = true
    · simp only [hl, if_true] at h hs ⊢
      rw [name_ok _ h] at hs
      have hle := fr_le inNa (c :: (y ++ z))
      have hz : ((bs (c :: (y ++ z))).extract 0 (fr inNa (c :: (y ++ z)))).size = fr inNa (c :: (y ++ z)) := by
        rw [ByteArray.size_extract, bs_size]; omega
      rw [hz] at hs
      have hf := fr_front inNa (c :: y) z hs
      rw [hf]
      have ht := take_app_bs (c :: y) z (fr inNa (c :: y ++ z)) hs
      rw [← ht]; rfl
    · by_cases hd : isDi c = true
      · simp only [hl, hd, if_true, if_false, Bool.false_eq_true] at h hs ⊢
        rw [number_ok _ h] at hs
        have hle := fr_le isDi (c :: (y ++ z))
        have hz : ((bs (c :: (y ++ z))).extract 0 (fr isDi (c :: (y ++ z)))).size = fr isDi (c :: (y ++ z)) := by
          rw [ByteArray.size_extract, bs_size]; omega
        rw [hz] at hs
        have hf := fr_front isDi (c :: y) z hs
        rw [hf]
        have ht := take_app_bs (c :: y) z (fr isDi (c :: y ++ z)) hs
        rw [← ht]; rfl
      · simp only [hl, hd, if_false, Bool.false_eq_true] at h hs ⊢
        by_cases hg : isSi c = true
        · simp only [hg, if_true] at h hs ⊢
          have ht := take_app_bs (c :: y) z 1 (by simp)
          rw [← ht]; rfl
        · simp [hg] at h
theorem sk_mono : ∀ (x y : List UInt8) (b : Bool), sk b x ≤ sk b (x ++ y)
  | [], y, b => by cases b <;> simp [sk]
  | c :: x, y, true => by
    simp only [List.cons_append, sk]
    by_cases hc : c.toNat = 10
    · rw [if_pos hc, if_pos hc]; have := sk_mono x y false; omega
    · rw [if_neg hc, if_neg hc]; have := sk_mono x y true; omega
  | c :: x, y, false => by
    simp only [List.cons_append, sk]
    by_cases hc : isBl c = true
    · rw [if_pos hc, if_pos hc]; have := sk_mono x y false; omega
    · rw [if_neg hc, if_neg hc]
      by_cases hd : c.toNat = 35
      · rw [if_pos hd, if_pos hd]; have := sk_mono x y true; omega
      · rw [if_neg hd, if_neg hd]; omega
theorem sk_take (a : List UInt8) (m : Nat) (h : sk false a < m) (hm : m ≤ a.length) : sk false (a.take m) = sk false a := by
  by_cases hp : sk false (a.take m) < (a.take m).length
  · have := sk_app_part (a.take m) false (a.drop m) hp
    rwa [List.take_append_drop, eq_comm] at this
  · have h1 := sk_mono (a.take m) (a.drop m) false
    rw [List.take_append_drop] at h1
    rw [List.length_take] at hp
    omega

/-- A text that is cut behind a token has the tokens up to it. -/
theorem al_take : ∀ (n : Nat) (a : List UInt8) (k : Nat), a.length ≤ n → ∀ (pre : List Tok) (t : Tok) (post : List Tok), al a k = (pre ++ t :: post).map (fun t => (t, 0)) →
    ∃ m, m ≤ a.length ∧ t.off + (t.text.size : Int) = (k : Int) + (m : Int) ∧ al (a.take m) k = (pre ++ [t]).map (fun t => (t, 0)) := by
  intro n
  induction n with
  | zero =>
    intro a k ha pre t post h
    have : a = [] := List.eq_nil_of_length_eq_zero (by omega)
    subst this
    rw [al_nil _ _ rfl] at h
    simp at h
  | succ n ih =>
    intro a k ha pre t post h
    by_cases hr : a.drop (sk false a) = []
    · rw [al_nil _ _ hr] at h; simp at h
    · have hlt := drop_lt a hr
      by_cases h0 : (readOf (bs (a.drop (sk false a)))).2 = 0
      · obtain ⟨sz, hsz⟩ : ∃ sz, sz = (readOf (bs (a.drop (sk false a)))).1.text.size := ⟨_, rfl⟩
        have hp := read_pos _ h0
        rw [bs_size, List.length_drop, ← hsz] at hp
        have hal := al_ok a _ k rfl hr h0
        rw [← hsz] at hal
        rw [hal] at h
        have cut : ∀ m', m' ≤ a.length - sk false a - sz → al (a.take (sk false a + sz + m')) k = ({ (readOf (bs (a.drop (sk false a)))).1 with off := ((k + sk false a : Nat) : Int) }, 0) :: al (((a.drop (sk false a)).drop sz).take m') (k + sk false a + sz) := fun m' hm' => by
          have hs := sk_take a (sk false a + sz + m') (by omega) (by omega)
          have hd : (a.take (sk false a + sz + m')).drop (sk false (a.take (sk false a + sz + m'))) = (a.drop (sk false a)).take (sz + m') := by
            rw [hs, List.drop_take, show sk false a + sz + m' - sk false a = sz + m' from by omega]
          have hne : (a.drop (sk false a)).take (sz + m') ≠ [] := by
            intro c
            have := congrArg List.length c
            simp only [List.length_take, List.length_drop, List.length_nil] at this
            omega
          have hrd : readOf (bs ((a.drop (sk false a)).take (sz + m'))) = readOf (bs (a.drop (sk false a))) := by
            have h2 := read_front ((a.drop (sk false a)).take (sz + m')) ((a.drop (sk false a)).drop (sz + m')) (by rw [List.take_append_drop]; exact h0) (by
              rw [List.take_append_drop, ← hsz, List.length_take, List.length_drop]; omega)
            rwa [List.take_append_drop] at h2
          have h3 := al_ok _ _ k hd hne (by rw [hrd]; exact h0)
          rw [hrd, hs, ← hsz] at h3
          rw [h3, List.drop_take, Nat.add_sub_cancel_left]
        cases pre with
        | nil =>
          simp only [List.nil_append, List.map_cons, List.cons.injEq, Prod.mk.injEq, and_true] at h
          obtain ⟨h1, h2⟩ := h
          refine ⟨sk false a + sz + 0, by omega, ?_, ?_⟩
          · rw [← h1]
            simp only
            rw [← hsz]; omega
          · rw [cut 0 (by omega), List.take_zero, al_nil _ _ rfl, h1]; rfl
        | cons p pre =>
          simp only [List.cons_append, List.map_cons, List.cons.injEq, Prod.mk.injEq, and_true] at h
          obtain ⟨h1, h2⟩ := h
          obtain ⟨m', hm1, hm2, hm3⟩ := ih ((a.drop (sk false a)).drop sz) (k + sk false a + sz) (by simp only [List.length_drop]; omega) pre t post h2
          simp only [List.length_drop] at hm1
          refine ⟨sk false a + sz + m', by omega, by rw [hm2]; omega, ?_⟩
          rw [cut m' hm1, hm3, h1]; rfl
      · rw [al_err _ _ _ rfl hr h0] at h
        exfalso
        cases pre with
        | nil =>
          simp only [List.nil_append, List.map_cons, List.cons.injEq, Prod.mk.injEq] at h
          exact h0 h.1.2
        | cons p pre =>
          simp only [List.cons_append, List.map_cons, List.cons.injEq, Prod.mk.injEq] at h
          exact h0 h.1.2
/-- Offsets rise. -/
theorem al_rise : ∀ (n : Nat) (a : List UInt8) (k : Nat), a.length ≤ n → ∀ (pre : List Tok) (t : Tok) (post : List Tok), al a k = (pre ++ t :: post).map (fun t => (t, 0)) →
    (k : Int) ≤ t.off ∧ (∀ y ∈ pre, y.off < t.off) ∧ ∀ y ∈ post, t.off < y.off := by
  intro n
  induction n with
  | zero =>
    intro a k ha pre t post h
    have : a = [] := List.eq_nil_of_length_eq_zero (by omega)
    subst this
    rw [al_nil _ _ rfl] at h
    simp at h
  | succ n ih =>
    intro a k ha pre t post h
    by_cases hr : a.drop (sk false a) = []
    · rw [al_nil _ _ hr] at h; simp at h
    · have hlt := drop_lt a hr
      by_cases h0 : (readOf (bs (a.drop (sk false a)))).2 = 0
      · have hp := read_pos _ h0
        rw [bs_size, List.length_drop] at hp
        rw [al_ok a _ k rfl hr h0] at h
        cases pre with
        | nil =>
          simp only [List.nil_append, List.map_cons, List.cons.injEq, Prod.mk.injEq, and_true] at h
          obtain ⟨h1, h2⟩ := h
          have e1 : t.off = ((k + sk false a : Nat) : Int) := by rw [← h1]
          refine ⟨by omega, (fun y hy => by cases hy), fun y hy => ?_⟩
          have := al_off _ _ (k + sk false a + (readOf (bs (a.drop (sk false a)))).1.text.size) (Nat.le_refl _) (y, 0) (by rw [h2]; exact List.mem_map.2 ⟨y, hy, rfl⟩)
          simp only at this
          omega
        | cons p pre =>
          simp only [List.cons_append, List.map_cons, List.cons.injEq, Prod.mk.injEq, and_true] at h
          obtain ⟨h1, h2⟩ := h
          obtain ⟨i1, i2, i3⟩ := ih ((a.drop (sk false a)).drop (readOf (bs (a.drop (sk false a)))).1.text.size) (k + sk false a + (readOf (bs (a.drop (sk false a)))).1.text.size) (by simp only [List.length_drop]; omega) pre t post h2
          have e1 : p.off = ((k + sk false a : Nat) : Int) := by rw [← h1]
          refine ⟨by omega, fun y hy => ?_, i3⟩
          rcases List.mem_cons.1 hy with rfl | hy
          · omega
          · exact i2 y hy
      · rw [al_err _ _ _ rfl hr h0] at h
        exfalso
        cases pre with
        | nil =>
          simp only [List.nil_append, List.map_cons, List.cons.injEq, Prod.mk.injEq] at h
          exact h0 h.1.2
        | cons p pre =>
          simp only [List.cons_append, List.map_cons, List.cons.injEq, Prod.mk.injEq] at h
          exact h0 h.1.2

/-- What stands behind the token of a syntax error does not matter. -/
theorem stable_plain (s b : ByteArray) (hs : (toksOf s).2.2 = 0) (hb : (toksOf b).2.2 = 0) (hp : (parseOf s).2.2 ≠ 0) (hlt : (parseOf s).2.1 < s.size) :
    ∃ (pre : List Tok) (t : Tok) (post : List Tok) (m : Nat), toksOf s = (pre ++ t :: post, 0, 0) ∧ (parseOf s).2.1 = t.off ∧ 0 ≤ t.off ∧ (∀ y ∈ pre, y.off < t.off) ∧ (∀ y ∈ post, t.off < y.off) ∧ t.off + (t.text.size : Int) = (m : Int) ∧ m ≤ s.size ∧ s.size ≤ 4096 ∧
      (parseOf s).2.2 = 4 ∧ ((glue (s.extract 0 m) b).size ≤ 4096 → parseOf (glue (s.extract 0 m) b) = ([], t.off, 4)) := by
  rcases toks_cases s with ⟨l, hA, h4, hal, -, -⟩ | ⟨at_, er, hA, her, -, -⟩
  · rw [parse_toks hA] at hp hlt ⊢
    cases e : pText l with
    | ok y => obtain ⟨y, r⟩ := y; rw [parseL_ok e] at hp; exact absurd rfl hp
    | error r =>
      rw [parseL_error e] at hp hlt ⊢
      obtain ⟨pre, el, hk⟩ := (look_text l).2 r e
      cases r with
      | nil => simp only [offOf] at hlt; omega
      | cons t post =>
        rw [el] at hal hA
        obtain ⟨m, hm1, hm2, hm3⟩ := al_take _ _ 0 (Nat.le_refl _) pre t post hal
        obtain ⟨r1, r2, r3⟩ := al_rise _ _ 0 (Nat.le_refl _) pre t post hal
        rw [bt_len] at hm1
        refine ⟨pre, t, post, m, hA, rfl, by simpa using r1, r2, r3, by simpa using hm2, hm1, h4, rfl, fun hsz => ?_⟩
        rcases toks_cases b with ⟨lb, hB, -, hbl, -, -⟩ | ⟨to, er, hB, her, -, -⟩
        · have hcut : al (bt (s.extract 0 m)) 0 = (pre ++ [t]).map (fun t => (t, 0)) := by rw [bt_take]; exact hm3
          have hall := apart_al (s.extract 0 m) b _ hcut
          rw [hbl, List.map_map] at hall
          have htk := toks_of_al (glue (s.extract 0 m) b) ((pre ++ [t]) ++ lb.map (shT ((s.extract 0 m).size + 1))) hsz (by
            rw [hall, List.map_append (l₁ := pre ++ [t]), List.map_map]; rfl)
          rw [parse_toks htk]
          have hpt := hk (t :: lb.map (shT ((s.extract 0 m).size + 1))) rfl
          rw [List.append_assoc, List.singleton_append, parseL_error hpt]
          rfl
        · rw [hB] at hb; exact absurd hb her
  · rw [hA] at hs; exact absurd hs her
end Go.Proofs.YtfpcdgmdangmaaaGreatDoor

/- DERIVED. The law SyntaxStable. -/
namespace Go.Proofs.YtfpcdgmdangmaaaGreatDoor
open Go.RowKit
set_option maxRecDepth 100000

set_option maxHeartbeats 8000000 in
theorem stable_w0 (s b : ByteArray) (hs : s.size ≤ maxLen) (hb : b.size ≤ maxLen) (rs rb : List Tok × Int × Int) (ls : List Cl) (at_ g : Int) (h : rs.2.2 ≠ 0 ∨ rb.2.2 ≠ 0 ∨ g = 0 ∨ (s.size : Int) ≤ at_)
    (H1 : Hid (TK_ s rs)) (H2 : Hid (TK_ b rb)) (H3 : Hid (PA_ s (ls, at_, g))) (w : World) (ht : Tab w) :
    Calls Tryz.prog 6 #[.string s, .string b] w fun e w' => e = .returned (.bool true) ∧ Below w.heap.size w w' := by
  have HT := Lib.hid ht
  obtain ⟨l1, a1, e1⟩ := rs
  obtain ⟨l2, a2, e2⟩ := rb
  dsimp only at h
  clear ht
  unfold maxLen at hs hb
  by_cases h1 : e1 = 0
  · by_cases h2 : e2 = 0
    · by_cases h3 : g = 0
      · subst h1 h2 h3
        clear h
        go_enter Tryz.func6, Tryz.ntmps6
        go_wp2_with (fail)
        refine (H1.out _).mono ?_
        rintro e w1 ⟨v1, rfl, -, bb1⟩
        go_wp2_with (fail)
        refine (H2.out _).mono ?_
        rintro e w2 ⟨v2, rfl, -, bb2⟩
        go_wp2_with (fail)
        refine (H3.out _).mono ?_
        rintro e w3 ⟨v3, rfl, -, bb3⟩
        have HT3 := Lib.hid (((HT.out.on bb1).on bb2).on bb3)
        go_wp2_with (go_at_call 11; refine (c_awake _ HT3.out).mono ?_; rintro e w5 ⟨rfl, bb5⟩)
        go_ret
        have z1 := bb1.size
        have z2 := bb2.size
        have z3 := bb3.size
        exact ⟨rfl, bb1.trans ((bb2.mono z1).trans ((bb3.mono (by omega)).trans (bb5.mono (by omega))))⟩
      · have h4 : (s.size : Int) ≤ at_ := by
          rcases h with h | h | h | h
          · exact absurd h1 h
          · exact absurd h2 h
          · exact absurd h h3
          · exact h
        have b3 : (g == 0) = false := by rw [beq_eq_false_iff_ne]; exact h3
        subst h1 h2
        clear h h3
        go_enter Tryz.func6, Tryz.ntmps6
        go_wp2_with (fail)
        refine (H1.out _).mono ?_
        rintro e w1 ⟨v1, rfl, -, bb1⟩
        go_wp2_with (fail)
        refine (H2.out _).mono ?_
        rintro e w2 ⟨v2, rfl, -, bb2⟩
        go_wp2_with (fail)
        refine (H3.out _).mono ?_
        rintro e w3 ⟨v3, rfl, -, bb3⟩
        have HT3 := Lib.hid (((HT.out.on bb1).on bb2).on bb3)
        go_wp2_with (go_at_call 11; refine (c_awake _ HT3.out).mono ?_; rintro e w5 ⟨rfl, bb5⟩)
        go_ret
        have z1 := bb1.size
        have z2 := bb2.size
        have z3 := bb3.size
        exact ⟨rfl, bb1.trans ((bb2.mono z1).trans ((bb3.mono (by omega)).trans (bb5.mono (by omega))))⟩
    · have b2 : (e2 != 0) = true := by rw [bne_iff_ne]; exact h2
      subst h1
      clear h h2
      go_enter Tryz.func6, Tryz.ntmps6
      go_wp2_with (fail)
      refine (H1.out _).mono ?_
      rintro e w1 ⟨v1, rfl, -, bb1⟩
      go_wp2_with (fail)
      refine (H2.out _).mono ?_
      rintro e w2 ⟨v2, rfl, -, bb2⟩
      go_wp2_with (fail)
      refine (H3.out _).mono ?_
      rintro e w3 ⟨v3, rfl, -, bb3⟩
      have HT3 := Lib.hid (((HT.out.on bb1).on bb2).on bb3)
      go_wp2_with (go_at_call 11; refine (c_awake _ HT3.out).mono ?_; rintro e w5 ⟨rfl, bb5⟩)
      go_ret
      have z1 := bb1.size
      have z2 := bb2.size
      have z3 := bb3.size
      exact ⟨rfl, bb1.trans ((bb2.mono z1).trans ((bb3.mono (by omega)).trans (bb5.mono (by omega))))⟩
  · have b1 : (e1 != 0) = true := by rw [bne_iff_ne]; exact h1
    clear h h1
    go_enter Tryz.func6, Tryz.ntmps6
    go_wp2_with (fail)
    refine (H1.out _).mono ?_
    rintro e w1 ⟨v1, rfl, -, bb1⟩
    go_wp2_with (fail)
    refine (H2.out _).mono ?_
    rintro e w2 ⟨v2, rfl, -, bb2⟩
    go_wp2_with (fail)
    refine (H3.out _).mono ?_
    rintro e w3 ⟨v3, rfl, -, bb3⟩
    have HT3 := Lib.hid (((HT.out.on bb1).on bb2).on bb3)
    go_wp2_with (go_at_call 11; refine (c_awake _ HT3.out).mono ?_; rintro e w5 ⟨rfl, bb5⟩)
    go_ret
    have z1 := bb1.size
    have z2 := bb2.size
    have z3 := bb3.size
    exact ⟨rfl, bb1.trans ((bb2.mono z1).trans ((bb3.mono (by omega)).trans (bb5.mono (by omega))))⟩

/-- Between two rounds: the token's end, once it was passed. -/
def StRel (pre : List Tok) (t : Tok) (post : List Tok) (m : Nat) (w3 : World) (ev iv : Value) (wr : World) : Prop :=
  ∃ i : Nat, i ≤ pre.length + 1 + post.length ∧ iv = .int .i64 i ∧ wr = w3 ∧ ev = (if pre.length < i then .int .i64 m else .int .i64 (-1))

set_option maxHeartbeats 16000000 in
theorem stable_w1 (s b : ByteArray) (hs : s.size ≤ 4096) (hb : b.size ≤ 4096) (pre : List Tok) (t : Tok) (post : List Tok) (m : Nat) (hlen : pre.length + post.length ≤ 5000) (h0 : 0 ≤ t.off) (h1 : ∀ y ∈ pre, y.off < t.off) (h2 : ∀ y ∈ post, t.off < y.off) (hm : t.off + (t.text.size : Int) = (m : Int)) (hms : m ≤ s.size) (hlt : t.off < s.size)
    (l2 : List Tok) (a2 : Int) (ls : List Cl)
    (H1 : Hid (TK_ s (pre ++ t :: post, 0, 0))) (H2 : Hid (TK_ b (l2, a2, 0))) (H3 : Hid (PA_ s (ls, t.off, 4))) (H4 : Hid ((glue (s.extract 0 m) b).size ≤ 4096 → PA_ (glue (s.extract 0 m) b) ([], t.off, 4))) (w : World) (ht : Tab w) :
    Calls Tryz.prog 6 #[.string s, .string b] w fun e w' => e = .returned (.bool true) ∧ Below w.heap.size w w' := by
  have HT := Lib.hid ht
  have HP1 := Lib.hid h1
  have HP2 := Lib.hid h2
  obtain ⟨o, ho⟩ : ∃ o, o = t.off := ⟨_, rfl⟩
  rw [← ho] at h0 hm hlt H3 H4 HP1 HP2
  clear ht h1 h2
  go_enter Tryz.func6, Tryz.ntmps6
  go_wp2_with (fail)
  refine (H1.out _).mono ?_
  rintro e w1 ⟨v1, rfl, hr1, bb1⟩
  have s1 := TokSl.of_own hr1
  dsimp only at s1
  clear hr1
  have hln : (pre ++ t :: post).length = pre.length + 1 + post.length := by simp; omega
  go_wp2_with (fail)
  refine (H2.out _).mono ?_
  rintro e w2 ⟨v2, rfl, -, bb2⟩
  go_wp2_with (fail)
  refine (H3.out _).mono ?_
  rintro e w3 ⟨v3, rfl, -, bb3⟩
  have S1 := Lib.hid ((s1.below bb2 (Nat.le_refl _)).below bb3 bb2.size)
  obtain ⟨A1, c1, rfl, hc1, hd1, -⟩ := id s1
  rw [hln] at hc1
  have HO := Lib.hid ho
  have HLN := Lib.hid hln
  have B1 := Lib.hid bb1
  have B2 := Lib.hid bb2
  have B3 := Lib.hid bb3
  have HT3 := Lib.hid (((HT.out.on bb1).on bb2).on bb3)
  have z1 := bb1.size
  have z2 := bb2.size
  have z3 := bb3.size
  unfold maxLen at hd1
  rw [hln]
  clear bb1 bb2 bb3 s1 ho hln
  go_wp2_with (fail)
  go_loopw [14, 15] (fun ev iv wr => StRel pre t post m w3 ev iv wr) (fun ev iv wr => pre.length + 1 + post.length - (intOf iv).toNat)
  case atStart => exact ⟨0, Nat.zero_le _, rfl, rfl, by simp⟩
  case round =>
    obtain ⟨i, hi, rfl, rfl, rfl⟩ := hrel
    by_cases hlt2 : i < pre.length + 1 + post.length
    · have hil : i < (pre ++ t :: post).length := by rw [HLN.out]; exact hlt2
      obtain ⟨b1, o1, c1', e1, -, -, -, -, q1, -, q3⟩ := S1.out.at_ hil
      injection e1 with e1 _ e1'
      subst e1 e1'
      by_cases h3 : i < pre.length
      · have hget : (pre ++ t :: post)[i] = pre[i] := List.getElem_append_left h3
        have hne := HP1.out _ (List.getElem_mem h3)
        rw [hget] at q1 q3
        clear hget
        generalize pre[i] = y at q1 q3 hne
        have hb1 : (y.off == o) = false := by rw [beq_eq_false_iff_ne]; omega
        have h4 : ¬ pre.length < i := by omega
        rw [if_neg h4]
        go_wp2_with (fail)
        exact ⟨⟨i + 1, by omega, by go_num, rfl, by rw [if_neg (by omega)]⟩, by simp [intOf]; omega⟩
      · by_cases h4 : i = pre.length
        · subst h4
          have hget : (pre ++ t :: post)[pre.length] = t := by simp
          rw [hget] at q1 q3
          rw [← HO.out] at q3
          clear hget
          have hb1 : (o == o) = true := by simp
          have hw : IntKind.i64.wrap (o + (t.text.size : Int)) = o + (t.text.size : Int) := IntWalk.i64_in _ (by omega)
          rw [if_neg (by omega)]
          go_wp2_with (fail)
          exact ⟨⟨pre.length + 1, by omega, by go_num, rfl, by rw [if_pos (by omega), ← hm]⟩, by simp [intOf]; omega⟩
        · have hget : (pre ++ t :: post)[i] = post[i - pre.length - 1]'(by omega) := by
            rw [List.getElem_append_right (by omega)]
            obtain ⟨j, hj⟩ : ∃ j, i - pre.length = j + 1 := ⟨i - pre.length - 1, by omega⟩
            simp only [hj, List.getElem_cons_succ]
            rfl
          have hne := HP2.out (post[i - pre.length - 1]'(by omega)) (List.getElem_mem _)
          rw [hget] at q1 q3
          clear hget
          generalize post[i - pre.length - 1]'(by omega) = y at q1 q3 hne
          have hb1 : (y.off == o) = false := by rw [beq_eq_false_iff_ne]; omega
          rw [if_pos (by omega)]
          go_wp2_with (fail)
          exact ⟨⟨i + 1, by omega, by go_num, rfl, by rw [if_pos (by omega)]⟩, by simp [intOf]; omega⟩
    · rw [if_pos (by omega)]
      have hx : (s.extract 0 m).size = m := by rw [ByteArray.size_extract]; omega
      have hgs : (glue (s.extract 0 m) b).size = m + 1 + b.size := by rw [glue_size, hx]
      have HX := Lib.hid hx
      have HGS := Lib.hid hgs
      clear hx hgs
      have hneg : ¬ (m : Int) < 0 := by omega
      by_cases hsz : m + 1 + b.size ≤ 4096
      · have hlt3 : ((glue (s.extract 0 m) b).size : Int) ≤ 4096 := by rw [HGS.out]; omega
        have h44 : ((4 : Int) == 4) = true := rfl
        have hoo : (o == o) = true := by simp
        unfold glue at hlt3
        go_wp2_with (fail)
        refine (H4.out (by rw [HGS.out]; exact hsz) _).mono ?_
        rintro e w4 ⟨v4, rfl, -, bb4⟩
        have HT4 := Lib.hid (HT3.out.on bb4)
        go_wp2_with (go_at_call 11; refine (c_awake _ HT4.out).mono ?_; rintro e w5 ⟨rfl, bb5⟩)
        go_ret
        have y1 := B1.out.size
        have y2 := B2.out.size
        have y3 := B3.out.size
        have y4 := bb4.size
        exact ⟨rfl, B1.out.trans ((B2.out.mono y1).trans ((B3.out.mono (by omega)).trans ((bb4.mono (by omega)).trans (bb5.mono (by omega)))))⟩
      · have hlt3 : ¬ ((glue (s.extract 0 m) b).size : Int) ≤ 4096 := by rw [HGS.out]; omega
        unfold glue at hlt3
        go_wp2_with (go_at_call 11; refine (c_awake _ HT3.out).mono ?_; rintro e w5 ⟨rfl, bb5⟩)
        go_ret
        have y1 := B1.out.size
        have y2 := B2.out.size
        have y3 := B3.out.size
        exact ⟨rfl, B1.out.trans ((B2.out.mono y1).trans ((B3.out.mono (by omega)).trans (bb5.mono (by omega))))⟩

theorem w_SyntaxStable (s b : ByteArray) (hs : s.size ≤ maxLen) (hb : b.size ≤ maxLen) (w : World) (ht : Tab w) :
    Calls Tryz.prog 6 #[.string s, .string b] w fun e w' => e = .returned (.bool true) ∧ Below w.heap.size w w' := by
  have H1 : Hid (TK_ s (toksOf s)) := Lib.hid (fun W => r_Tokens s hs W)
  have H2 : Hid (TK_ b (toksOf b)) := Lib.hid (fun W => r_Tokens b hb W)
  have H3 : Hid (PA_ s (parseOf s)) := Lib.hid (fun W => c_Parse s hs W)
  by_cases h : (toksOf s).2.2 ≠ 0 ∨ (toksOf b).2.2 ≠ 0 ∨ (parseOf s).2.2 = 0 ∨ (s.size : Int) ≤ (parseOf s).2.1
  · exact stable_w0 s b hs hb (toksOf s) (toksOf b) (parseOf s).1 (parseOf s).2.1 (parseOf s).2.2 h H1 H2 H3 w ht
  · have h1 : (toksOf s).2.2 = 0 := Decidable.byContradiction fun k => h (Or.inl k)
    have h2 : (toksOf b).2.2 = 0 := Decidable.byContradiction fun k => h (Or.inr (Or.inl k))
    have h3 : (parseOf s).2.2 ≠ 0 := fun k => h (Or.inr (Or.inr (Or.inl k)))
    have h4 : (parseOf s).2.1 < (s.size : Int) := by
      have : ¬ (s.size : Int) ≤ (parseOf s).2.1 := fun k => h (Or.inr (Or.inr (Or.inr k)))
      omega
    obtain ⟨pre, t, post, m, e1, e2, k0, k1, k2, k3, k4, k5, k6, k7⟩ := stable_plain s b h1 h2 h3 h4
    have hln := toksOf_len s
    rw [e1] at H1 hln
    rw [e2] at h4
    have hP : parseOf s = ((parseOf s).1, t.off, 4) := by rw [← e2, ← k6]
    rw [hP] at H3
    have H4 : Hid ((glue (s.extract 0 m) b).size ≤ 4096 → PA_ (glue (s.extract 0 m) b) ([], t.off, 4)) := Lib.hid (fun hz => by
      rw [← k7 hz]
      exact fun W => c_Parse _ (Nat.le_trans hz (by unfold maxLen; omega)) W)
    rcases toks_cases b with ⟨lb, hB, b4, -, -, -⟩ | ⟨to, er, hB, her, -, -⟩
    · rw [hB] at H2
      refine stable_w1 s b k5 b4 pre t post m ?_ k0 k1 k2 k3 k4 h4 lb 0 (parseOf s).1 H1 H2 H3 H4 w ht
      simp only [List.length_append, List.length_cons] at hln
      omega
    · rw [hB] at h2; exact absurd h2 her
end Go.Proofs.YtfpcdgmdangmaaaGreatDoor
