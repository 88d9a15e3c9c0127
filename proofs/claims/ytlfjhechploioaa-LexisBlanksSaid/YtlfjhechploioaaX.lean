/-
  DERIVED. The walk of the law LexisStands.
-/
import Derived.Test.YtlfjhechploioaaW
namespace Go.Proofs.Ytlfjhechploioaa
open Go.RowKit

/-- Does a text between tokens consist of blanks and remarks? 'true': a remark has begun. -/
def idleF : Bool → List UInt8 → Bool
  | _, [] => true
  | m, c :: r => if c.toNat = 10 then idleF false r else if (m || decide (c.toNat = 35)) = true then idleF true r else if c.toNat = 32 ∨ c.toNat = 9 ∨ c.toNat = 13 then idleF false r else false

theorem idle_sk : ∀ (m : Bool) (l : List UInt8), idleF m (l.take (sk m l)) = true
  | m, [] => by cases m <;> simp [sk, idleF]
  | true, c :: r => by
    have h1 := idle_sk true r
    have h2 := idle_sk false r
    by_cases hc : c.toNat = 10
    · simp [sk, idleF, hc, h2]
    · simp [sk, idleF, hc, h1]
  | false, c :: r => by
    have h1 := idle_sk true r
    have h2 := idle_sk false r
    by_cases hb : isBl c = true
    · have hb' := hb
      simp only [isBl, Bool.or_eq_true, decide_eq_true_eq] at hb'
      simp only [sk, if_pos hb, List.take_succ_cons, idleF]
      by_cases hc : c.toNat = 10
      · rw [if_pos hc]; exact h2
      · have h35 : c.toNat ≠ 35 := by omega
        rw [if_neg hc, if_neg (by simp [h35]), if_pos (by omega)]; exact h2
    · by_cases hc : c.toNat = 35
      · simp [sk, idleF, hb, hc, h1]
      · simp [sk, idleF, hb, hc]

theorem bt_cut (s : ByteArray) (a n : Nat) : bt (s.extract a (a + n)) = ((bt s).drop a).take n := by
  unfold bt
  rw [ByteArray.data_extract, Array.toList_extract]
  simp [List.extract]

def IdRel (s : ByteArray) (mv iv : Value) : Prop := ∃ (k : Nat) (m : Bool), iv = .int .i64 k ∧ mv = .bool m ∧ k ≤ s.size ∧ idleF false (bt s) = idleF m ((bt s).drop k)

set_option maxHeartbeats 400000 in
theorem l_idle (s : ByteArray) (hs : s.size ≤ maxLen) (w : World) :
    Calls Try.prog 17 #[.string s] w fun e w' => e = .returned (.bool (idleF false (bt s))) ∧ w' = w := by
  unfold maxLen at hs
  go_enter Try.func17, Try.ntmps17
  go_wp2
  go_loop [3, 4] (fun mv iv => IdRel s mv iv) (fun mv iv => s.size - (intOf iv).toNat)
  case atStart => exact ⟨0, false, rfl, rfl, Nat.zero_le _, rfl⟩
  case round =>
    obtain ⟨k, m, rfl, rfl, hk, hf⟩ := hrel
    by_cases hlt : k < s.size
    · have hd := bt_drop s k hlt
      rw [hd] at hf
      by_cases h10 : s[k].toNat = 10
      · have b1 : ((s[k].toNat : Int) == 10) = true := by rw [beq_iff_eq]; omega
        have hf2 : idleF false (bt s) = idleF false ((bt s).drop (k + 1)) := by rw [hf, idleF, if_pos h10]
        have Hf := Lib.hid hf2
        clear hf hf2 hd h10
        go_wp2
        exact ⟨⟨k + 1, false, by go_num, rfl, by omega, Hf.out⟩, by simp [intOf]; omega⟩
      · have b1 : ((s[k].toNat : Int) == 10) = false := by rw [beq_eq_false_iff_ne]; omega
        by_cases h35 : s[k].toNat = 35
        · have b2 : ((s[k].toNat : Int) == 35) = true := by rw [beq_iff_eq]; omega
          have hf2 : idleF false (bt s) = idleF true ((bt s).drop (k + 1)) := by rw [hf, idleF, if_neg h10, if_pos (by simp [h35])]
          have Hf := Lib.hid hf2
          clear hf hf2 hd h10 h35
          go_wp2
          exact ⟨⟨k + 1, true, by go_num, rfl, by omega, Hf.out⟩, by simp [intOf]; omega⟩
        · have b2 : ((s[k].toNat : Int) == 35) = false := by rw [beq_eq_false_iff_ne]; omega
          cases m with
          | true =>
            have hf2 : idleF false (bt s) = idleF true ((bt s).drop (k + 1)) := by rw [hf, idleF, if_neg h10, if_pos (by simp)]
            have Hf := Lib.hid hf2
            clear hf hf2 hd h10 h35
            go_wp2
            exact ⟨⟨k + 1, true, by go_num, rfl, by omega, Hf.out⟩, by simp [intOf]; omega⟩
          | false =>
            by_cases hbl : s[k].toNat = 32 ∨ s[k].toNat = 9 ∨ s[k].toNat = 13
            · have hf2 : idleF false (bt s) = idleF false ((bt s).drop (k + 1)) := by rw [hf, idleF, if_neg h10, if_neg (by simp [h35]), if_pos hbl]
              have Hf := Lib.hid hf2
              clear hf hf2 hd h10 h35
              rcases hbl with h | h | h
              · have c1 : ((s[k].toNat : Int) != 32) = false := by rw [bne_eq_false_iff_eq]; omega
                clear h
                go_wp2
                exact ⟨⟨k + 1, false, by go_num, rfl, by omega, Hf.out⟩, by simp [intOf]; omega⟩
              · have c1 : ((s[k].toNat : Int) != 32) = true := by rw [bne_iff_ne]; omega
                have c2 : ((s[k].toNat : Int) != 9) = false := by rw [bne_eq_false_iff_eq]; omega
                clear h
                go_wp2
                exact ⟨⟨k + 1, false, by go_num, rfl, by omega, Hf.out⟩, by simp [intOf]; omega⟩
              · have c1 : ((s[k].toNat : Int) != 32) = true := by rw [bne_iff_ne]; omega
                have c2 : ((s[k].toNat : Int) != 9) = true := by rw [bne_iff_ne]; omega
                have c3 : ((s[k].toNat : Int) != 13) = false := by rw [bne_eq_false_iff_eq]; omega
                clear h
                go_wp2
                exact ⟨⟨k + 1, false, by go_num, rfl, by omega, Hf.out⟩, by simp [intOf]; omega⟩
            · have hf2 : idleF false (bt s) = false := by rw [hf, idleF, if_neg h10, if_neg (by simp [h35]), if_neg hbl]
              have c1 : ((s[k].toNat : Int) != 32) = true := by rw [bne_iff_ne]; omega
              have c2 : ((s[k].toNat : Int) != 9) = true := by rw [bne_iff_ne]; omega
              have c3 : ((s[k].toNat : Int) != 13) = true := by rw [bne_iff_ne]; omega
              have Hf := Lib.hid hf2
              clear hf hf2 hd h10 h35 hbl
              go_wp2
              go_ret
              exact ⟨ret_bool Hf.out.symm, rfl⟩
    · have hf2 : idleF false (bt s) = true := by
        rw [hf, List.drop_of_length_le (by rw [bt_len]; omega)]
        cases m <;> rfl
      have Hf := Lib.hid hf2
      clear hf hf2
      go_wp2
      go_ret
      exact ⟨ret_bool Hf.out.symm, rfl⟩

/-- One token of a text: it stands at its offset, behind blanks and remarks. -/
theorem stands_step (s : ByteArray) (fr : Nat) (t : Tok) (q : List (Tok × Int)) (h : al ((bt s).drop fr) fr = (t, 0) :: q) :
    ∃ to : Nat, t.off = (to : Int) ∧ fr ≤ to ∧ 0 < t.text.size ∧ to + t.text.size ≤ s.size ∧ idleF false (bt (s.extract fr to)) = true ∧ s.extract to (to + t.text.size) = t.text ∧
      al ((bt s).drop (to + t.text.size)) (to + t.text.size) = q := by
  by_cases hr : ((bt s).drop fr).drop (sk false ((bt s).drop fr)) = []
  · rw [al_nil _ _ hr] at h; cases h
  · have hlt := drop_lt _ hr
    rw [List.length_drop, bt_len] at hlt
    by_cases h0 : (readOf (bs (((bt s).drop fr).drop (sk false ((bt s).drop fr))))).2 = 0
    · rw [al_ok _ _ _ rfl hr h0] at h
      injection h with h1 h2
      injection h1 with h1 _
      have hp := read_pos _ h0
      obtain ⟨n, hn0, hn1, hn2⟩ := read_ok _ h0
      rw [bs_size, List.length_drop, List.length_drop, bt_len] at hp hn1
      have htx : t.text = (readOf (bs (((bt s).drop fr).drop (sk false ((bt s).drop fr))))).1.text := by rw [← h1]
      have hoff : t.off = ((fr + sk false ((bt s).drop fr) : Nat) : Int) := by rw [← h1]
      rw [← htx] at hp hn2 h2
      have hnt : t.text.size = n := by
        rw [hn2, ← bt_len, bt_take, bt_bs, List.length_take, List.length_drop, List.length_drop, bt_len]; omega
      refine ⟨fr + sk false ((bt s).drop fr), hoff, by omega, by omega, by omega, ?_, ?_, ?_⟩
      · rw [bt_cut]; exact idle_sk false _
      · apply bs_inj
        rw [bt_cut, hnt, hn2, bt_take, bt_bs, List.drop_drop]
      · rw [List.drop_drop, List.drop_drop, ← Nat.add_assoc] at h2
        exact h2
    · rw [al_err _ _ _ rfl hr h0] at h
      injection h with h1 _
      injection h1 with _ h1
      exact absurd h1 h0
theorem stands_end (s : ByteArray) (fr : Nat) (h : al ((bt s).drop fr) fr = []) : idleF false (bt (s.extract fr s.size)) = true := by
  have hr : ((bt s).drop fr).drop (sk false ((bt s).drop fr)) = [] := by
    by_cases hr : ((bt s).drop fr).drop (sk false ((bt s).drop fr)) = []
    · exact hr
    · by_cases h0 : (readOf (bs (((bt s).drop fr).drop (sk false ((bt s).drop fr))))).2 = 0
      · rw [al_ok _ _ _ rfl hr h0] at h; cases h
      · rw [al_err _ _ _ rfl hr h0] at h; cases h
  have hl := congrArg List.length hr
  rw [List.length_drop, List.length_nil] at hl
  rw [bt_extract]
  have h1 := idle_sk false ((bt s).drop fr)
  rwa [List.take_of_length_le (by omega)] at h1

theorem slice_run2 (s : ByteArray) (i j : Nat) (h1 : i ≤ j) (h2 : j ≤ s.size) (W : World) :
    (Instr.slice 9 (.string s) (some (.int .i64 (i : Int))) (some (.int .i64 (j : Int))) none).run Try.prog W = .ok (.string (s.extract i j)) W := by
  have h := run_slice_string (P := Try.prog) (w := W) 9 s .i64 .i64 (i : Int) (j : Int) Try.underlying9 (by omega) (by omega) (by omega)
  exact h

/-- What stands between two rounds of the law's loop. -/
def StRel (s : ByteArray) (l : List Tok) (w1 : World) (fv iv : Value) (wr : World) : Prop :=
  ∃ (i fr n : Nat), iv = .int .i64 i ∧ fv = .int .i64 fr ∧ i ≤ l.length + 1 ∧ fr ≤ s.size ∧ (i ≤ l.length → al ((bt s).drop fr) fr = (l.drop i).map (fun t => (t, 0))) ∧ wr = w1.drewN n

set_option maxHeartbeats 1000000 in
set_option maxRecDepth 100000 in
theorem stands_ok (s : ByteArray) (hs : s.size ≤ 4096) (l : List Tok) (hl : l.length ≤ 4097) (H1 : Hid (∀ w, Calls Try.prog 10 #[.string s] w (TokPost (l, 0, 0) w))) (hal : al (bt s) 0 = l.map (fun t => (t, 0))) (w : World) :
    Calls Try.prog 6 #[.string s] w fun e w' => e = .returned (.bool true) ∧ Below w.heap.size w w' := by
  have Hal := Lib.hid hal
  clear hal
  go_enter Try.func6, Try.ntmps6
  go_wp2_with (first | (go_at_call 10; refine (H1.out _).mono ?_; rintro e w1 ⟨v1, rfl, hr1, hb1⟩; have s1 := Lib.hid (TokSl.of_own hr1); obtain ⟨A, c, rfl, hc1, hc2, -⟩ := TokSl.of_own hr1; unfold maxLen at hc2; clear hr1))
  go_loopw [6, 7] (fun fv iv wr => StRel s l w1 fv iv wr) (fun fv iv wr => l.length + 1 - (intOf iv).toNat)
  case atStart => exact ⟨0, 0, 0, rfl, rfl, Nat.zero_le _, Nat.zero_le _, fun _ => Hal.out, rfl⟩
  case round =>
    obtain ⟨i, fr, n, rfl, rfl, hi, hfr, hq, rfl⟩ := hrel
    by_cases hlt : i < l.length
    · have hq2 := hq (by omega)
      rw [List.drop_eq_getElem_cons hlt, List.map_cons] at hq2
      obtain ⟨to, ho, h1, h2, h3, h4, h5, h6⟩ := stands_step s fr _ _ hq2
      obtain ⟨b1, o1, c1, e1, -, -, -, -, g1, -, g3⟩ := s1.out.at_ hlt
      injection e1 with e1 _ e1'
      subst e1 e1'
      have hid := l_idle (s.extract fr to) (by simp only [ByteArray.size_extract, maxLen]; omega)
      rw [h4] at hid
      have hsl1 := slice_run2 s fr to h1 (by omega)
      have hsl2 := slice_run s to _ h3
      rw [h5] at hsl2
      have hem := empty_no _ h2
      rw [ho] at g3
      generalize l[i].text = tx at *
      have hw1 : IntKind.i64.wrap ((s.size : Int) - (to : Int)) = (s.size : Int) - (to : Int) := IntWalk.i64_in _ (by omega)
      have hw2 : IntKind.i64.wrap ((to : Int) + (tx.size : Int)) = (to : Int) + (tx.size : Int) := IntWalk.i64_in _ (by omega)
      have hd1 : decide ((s.size : Int) - (to : Int) < (tx.size : Int)) = false := by rw [decide_eq_false_iff_not]; omega
      have Hid1 := Lib.hid hid
      have Hq := Lib.hid h6
      clear hq hq2 hid h6 h4 h5 ho
      go_wp2_with (first | (go_at_call 17; refine (Hid1.out _).mono ?_; rintro e w4 ⟨rfl, rfl⟩))
      go_quiet (fail)
      go_wp2
      exact ⟨⟨i + 1, to + tx.size, n + nq, by go_num, by go_num, by omega, h3, fun _ => Hq.out, rfl⟩, by simp [intOf]; omega⟩
    · by_cases hle : i = l.length
      · have hq2 := hq (by omega)
        have hdl : l.drop i = [] := List.drop_of_length_le (by omega)
        rw [hdl] at hq2
        have h4 := stands_end s fr hq2
        have hid := l_idle (s.extract fr s.size) (by simp only [ByteArray.size_extract, maxLen]; omega)
        rw [h4] at hid
        have hsl1 := slice_run2 s fr s.size hfr (Nat.le_refl _)
        have Hid1 := Lib.hid hid
        clear hq hq2 hid h4 hdl
        subst hle
        go_wp2_with (first | (go_at_call 17; refine (Hid1.out _).mono ?_; rintro e w4 ⟨rfl, rfl⟩))
        exact ⟨⟨l.length + 1, fr, n, by go_num, rfl, Nat.le_refl _, hfr, fun h => absurd h (by omega), rfl⟩, by simp [intOf]⟩
      · have hle2 : l.length < i := by omega
        clear hq hle
        go_wp2_with (first | (go_at_call 13; refine (l_awake _).mono ?_; rintro e w4 ⟨rfl, hb4⟩))
        go_ret
        exact ⟨rfl, hb1.trans ((below_drewN (Below.refl _ _) n).trans (hb4.mono hb1.size))⟩

theorem w_LexisStands (s : ByteArray) (hs : s.size ≤ maxLen) (w : World) :
    Calls Try.prog 6 #[.string s] w fun e w' => e = .returned (.bool true) ∧ Below w.heap.size w w' := by
  have H1 := Lib.hid (c_Tokens s hs)
  rcases toks_cases s with ⟨l, ht, h4, hal, -, hlen⟩ | ⟨at_, er, ht, her, -, -⟩
  · rw [ht] at H1
    exact stands_ok s h4 l hlen H1 hal w
  · rw [ht] at H1
    have hbn : (er != 0) = true := by rw [bne_iff_ne]; exact her
    clear ht her
    go_enter Try.func6, Try.ntmps6
    go_wp2_with (first | (go_at_call 10; refine (H1.out _).mono ?_; rintro e w1 ⟨v1, rfl, hr1, hb1⟩; clear hr1) | (go_at_call 13; refine (l_awake _).mono ?_; rintro e w4 ⟨rfl, hb4⟩))
    go_ret
    exact ⟨rfl, hb1.trans (hb4.mono hb1.size)⟩
end Go.Proofs.Ytlfjhechploioaa
