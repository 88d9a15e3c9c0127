/-
  DERIVED. The walk of the law LexisBlanks.
-/
import Derived.Test.YtlfjhechploioaaX
namespace Go.Proofs.Ytlfjhechploioaa
open Go.RowKit

/-- Each space is made a space, a carriage return and a line feed. -/
def sub : List UInt8 → List UInt8
  | [] => []
  | c :: r => (if c.toNat = 32 then [32, 13, 10] else [c]) ++ sub r
theorem sub_app (a b : List UInt8) : sub (a ++ b) = sub a ++ sub b := by
  induction a with
  | nil => rfl
  | cons c r ih => rw [List.cons_append, sub, sub, ih, List.append_assoc]
theorem sub_none (a : List UInt8) (h : ∀ c ∈ a, c.toNat ≠ 32) : sub a = a := by
  induction a with
  | nil => rfl
  | cons c r ih => rw [sub, ih (fun d hd => h d (List.mem_cons_of_mem _ hd)), if_neg (h c (by simp))]; rfl
theorem sub_len (a : List UInt8) : (sub a).length ≤ 3 * a.length := by
  induction a with
  | nil => exact Nat.le_refl _
  | cons c r ih =>
    rw [sub, List.length_append, List.length_cons]
    split <;> simp <;> omega

theorem read_cls (s : ByteArray) (h : (readOf s).2 = 0) : ∀ c ∈ bt (readOf s).1.text, c.toNat ≠ 32 := by
  unfold readOf at h ⊢
  cases hh : (bt s).head? with
  | none => rw [hh] at h; cases h
  | some d =>
    rw [hh] at h
    simp only at h ⊢
    by_cases hl : isLe d = true
    · rw [if_pos hl] at h ⊢
      rw [name_ok _ h, bt_take]
      intro c hc hq
      have := fr_all inNa _ c hc
      simp [inNa, isLe, isDi, hq] at this
    · rw [if_neg hl] at h ⊢
      by_cases hd : isDi d = true
      · rw [if_pos hd] at h ⊢
        rw [number_ok _ h, bt_take]
        intro c hc hq
        have := fr_all isDi _ c hc
        simp [isDi, hq] at this
      · rw [if_neg hd] at h ⊢
        by_cases hg : isSi d = true
        · rw [if_pos hg]
          dsimp only
          rw [bt_take]
          cases hb : bt s with
          | nil => intro c hc; cases hc
          | cons x r =>
            rw [hb] at hh
            injection hh with hh
            subst hh
            intro c hc hq
            simp at hc
            subst hc
            simp [isSi, hq] at hg
        · rw [if_neg hg] at h; cases h

theorem sub_join : ∀ l : List Tok, (∀ t ∈ l, validT t = true) → sub (Lib.join (l.map fun t => bt t.text) [32]) = Lib.join (l.map fun t => bt t.text) [32, 13, 10]
  | [], _ => rfl
  | [t], h => by
    rw [List.map_cons, List.map_nil, Lib.join_one, Lib.join_one]
    have h1 := valid_read t (h t (by simp))
    have h2 := read_cls t.text (by rw [h1])
    rw [h1] at h2
    exact sub_none _ h2
  | t :: t2 :: r, h => by
    have h1 := valid_read t (h t (by simp))
    have h2 := read_cls t.text (by rw [h1])
    rw [h1] at h2
    have ih := sub_join (t2 :: r) (fun u hu => h u (List.mem_cons_of_mem _ hu))
    rw [List.map_cons] at ih
    rw [List.map_cons, List.map_cons, join_cons2, join_cons2, sub_app, sub_app, sub_none _ h2, ih]
    rfl

theorem sk_line : ∀ (rk x : List UInt8), (∀ c ∈ rk, c.toNat ≠ 10) → sk true (rk ++ 10 :: x) = rk.length + 1 + sk false x
  | [], x, _ => by simp [sk]; omega
  | c :: rk, x, h => by
    have := sk_line rk x (fun d hd => h d (List.mem_cons_of_mem _ hd))
    rw [List.cons_append, sk, if_neg (h c (by simp)), this, List.length_cons]
    omega
theorem sk_rest : ∀ (rk : List UInt8), (∀ c ∈ rk, c.toNat ≠ 10) → sk true rk = rk.length
  | [], _ => rfl
  | c :: rk, h => by
    rw [sk, if_neg (h c (by simp)), sk_rest rk (fun d hd => h d (List.mem_cons_of_mem _ hd)), List.length_cons]

theorem sk_three (y : List UInt8) : sk false ([32, 13, 10] ++ y) = [(32 : UInt8), 13, 10].length + sk false y := by
  have h1 : isBl 32 = true := by decide
  have h2 : isBl 13 = true := by decide
  have h3 : isBl 10 = true := by decide
  simp [sk, h1, h2, h3]; omega

/-- The wide text is read as the same tokens. -/
theorem wide_back (l : List Tok) (hv : ∀ t ∈ l, validT t = true) (rk : List UInt8) (hr : ∀ c ∈ rk, c.toNat ≠ 10) (S : ByteArray) (h4 : S.size ≤ 4096)
    (hS : bt S = ([9, 35] ++ rk ++ [10]) ++ (sub (bt (joinB l)) ++ ([32, 35] ++ rk))) : ∃ m, toksOf S = (m, 0, 0) ∧ sameL l m = true := by
  have h9 : isBl 9 = true := by decide
  have h35 : isBl 35 = false := by decide
  have h32 : isBl 32 = true := by decide
  have hg : ∀ x, sk false (([9, 35] ++ rk ++ [10]) ++ x) = ([9, 35] ++ rk ++ [10] : List UInt8).length + sk false x := by
    intro x
    have h1 := sk_line rk x hr
    simp only [List.cons_append, List.nil_append, List.append_assoc, List.length_cons, List.length_append, List.length_nil]
    rw [sk, if_pos h9, sk, h35, h1]
    simp
    omega
  have he : ∀ k, al ([32, 35] ++ rk) k = [] := by
    intro k
    refine al_nil _ _ ?_
    have h1 := sk_rest rk hr
    have : sk false ([32, 35] ++ rk) = rk.length + 2 := by
      simp only [List.cons_append, List.nil_append]
      rw [sk, if_pos h32, sk, h35, h1]
      simp
    rw [this]
    exact List.drop_of_length_le (by simp)
  obtain ⟨m, hm, hs⟩ := join_al [32, 13, 10] ([32, 35] ++ rk) sk_three ⟨32, [13, 10], rfl, by decide⟩ (.inr ⟨32, 35 :: rk, rfl, by decide⟩) he l (0 + ([9, 35] ++ rk ++ [10] : List UInt8).length) hv
  refine ⟨m, toks_of_al S m h4 ?_, hs⟩
  rw [hS, al_gap _ _ _ (hg _), bt_joinB, sub_join l hv]
  exact hm

theorem bt_app (a b : ByteArray) : bt (a ++ b) = bt a ++ bt b := by
  unfold bt
  rw [ByteArray.data_append]
  simp

def BlRel1 (rk : ByteArray) (iv : Value) : Prop := ∃ i : Nat, iv = .int .i64 i ∧ i ≤ rk.size ∧ ∀ c ∈ (bt rk).take i, c.toNat ≠ 10
def BlRel2 (rk S : ByteArray) (sv iv : Value) : Prop := ∃ (i : Nat) (V : ByteArray), iv = .int .i64 i ∧ sv = .string V ∧ i ≤ S.size ∧ bt V = ([9, 35] ++ bt rk ++ [10]) ++ sub ((bt S).take i) ∧ V.size ≤ rk.size + 3 + 3 * i

set_option maxHeartbeats 1000000 in
set_option maxRecDepth 100000 in
theorem blanks_ok (s rk : ByteArray) (hrk : rk.size ≤ 100) (l : List Tok) (hv : ∀ t ∈ l, validT t = true) (hj : (joinB l).size ≤ 1000) (H1 : Hid (∀ w, Calls Try.prog 10 #[.string s] w (TokPost (l, 0, 0) w)))
    (H2 : Hid (∀ v w, TokSl w w.heap.size v l → Calls Try.prog 14 #[v] w fun e w' => e = .returned (.tuple #[.string (joinB l), .int .i64 0]) ∧ Below w.heap.size w w')) (w : World) :
    Calls Try.prog 7 #[.string s, .string rk] w fun e w' => e = .returned (.bool true) ∧ Below w.heap.size w w' := by
  have Hv := Lib.hid hv
  have hback := wide_back l hv (bt rk)
  have Hback := Lib.hid hback
  clear hv hback
  generalize joinB l = S at *
  go_enter Try.func7, Try.ntmps7
  go_wp2_with fail
  refine (H1.out _).mono ?_
  rintro e w1 ⟨v1, rfl, hr1, hb1⟩
  have s1 := Lib.hid (TokSl.of_own hr1)
  clear hr1
  go_wp2_with fail
  refine (H2.out _ _ s1.out).mono ?_
  rintro e w2 ⟨rfl, hb2⟩
  have z1 := hb1.size
  have z2 := hb2.size
  go_wp2_with fail
  go_loop [10] (fun iv => BlRel1 rk iv) (fun iv => rk.size - (intOf iv).toNat)
  case atStart => exact ⟨0, rfl, Nat.zero_le _, by simp⟩
  case round =>
    obtain ⟨i, rfl, hi, hno⟩ := hrel
    have Hno := Lib.hid hno
    clear hno
    by_cases hlt : i < rk.size
    · by_cases h10 : rk[i].toNat = 10
      · have hb : ((rk[i].toNat : Int) == 10) = true := by rw [beq_iff_eq]; omega
        clear h10
        go_wp2_with (first | (go_at_call 13; refine (l_awake _).mono ?_; rintro e w4 ⟨rfl, hb4⟩))
        go_ret
        exact ⟨rfl, hb1.trans ((hb2.mono z1).trans (hb4.mono (by omega)))⟩
      · have hb : ((rk[i].toNat : Int) == 10) = false := by rw [beq_eq_false_iff_ne]; omega
        have H10 := Lib.hid h10
        clear h10
        go_wp2
        refine ⟨⟨i + 1, by go_num, by omega, ?_⟩, by simp [intOf]; omega⟩
        rw [take_snoc rk i hlt]
        intro c hc
        rcases List.mem_append.1 hc with h | h
        · exact Hno.out c h
        · rw [List.mem_singleton.1 h]; exact H10.out
    · have hall : ∀ c ∈ bt rk, c.toNat ≠ 10 := by
        have := Hno.out
        rwa [List.take_of_length_le (by rw [bt_len]; omega)] at this
      have Hall := Lib.hid hall
      clear hall
      go_wp2_with fail
      go_loop [11, 12] (fun sv iv => BlRel2 rk S sv iv) (fun sv iv => S.size - (intOf iv).toNat)
      case atStart => exact ⟨0, _, rfl, rfl, Nat.zero_le _, by rw [bt_app, bt_app, List.take_zero]; simp [sub, bt], by rw [ByteArray.size_append, ByteArray.size_append]; have e1 : (⟨#[9, 35]⟩ : ByteArray).size = 2 := rfl; have e2 : (⟨#[10]⟩ : ByteArray).size = 1 := rfl; omega⟩
      case round =>
        obtain ⟨j, V, rfl, rfl, hj2, hV, hVz⟩ := hrel
        have HV := Lib.hid hV
        clear hV
        by_cases hlt2 : j < S.size
        · have hsl := slice_run S j 1 (by omega)
          simp only [Int.natCast_one] at hsl
          by_cases h32 : S[j].toNat = 32
          · have hb : ((S[j].toNat : Int) == 32) = true := by rw [beq_iff_eq]; omega
            have H32 := Lib.hid h32
            clear h32
            go_wp2
            refine ⟨⟨j + 1, _, by go_num, rfl, by omega, ?_, by rw [ByteArray.size_append]; have e1 : (⟨#[32, 13, 10]⟩ : ByteArray).size = 3 := rfl; omega⟩, by simp [intOf]; omega⟩
            rw [bt_app, HV.out, take_snoc S j hlt2, sub_app, List.append_assoc]
            congr 2
            rw [sub, if_pos H32.out]; rfl
          · have hb : ((S[j].toNat : Int) == 32) = false := by rw [beq_eq_false_iff_ne]; omega
            have H32 := Lib.hid h32
            clear h32
            go_wp2
            refine ⟨⟨j + 1, _, by go_num, rfl, by omega, ?_, by rw [ByteArray.size_append]; simp only [ByteArray.size_extract]; omega⟩, by simp [intOf]; omega⟩
            rw [bt_app, HV.out, take_snoc S j hlt2, sub_app, List.append_assoc]
            congr 2
            rw [sub, if_neg H32.out, bt_cut, bt_drop S j hlt2]; rfl
        · have hV2 := HV.out
          rw [List.take_of_length_le (by rw [bt_len]; omega)] at hV2
          have hW : bt (V ++ (⟨#[32, 35]⟩ : ByteArray) ++ rk) = ([9, 35] ++ bt rk ++ [10]) ++ (sub (bt S) ++ ([32, 35] ++ bt rk)) := by
            rw [bt_app, bt_app, hV2]
            simp only [List.append_assoc]
            rfl
          have hz4 : (V ++ (⟨#[32, 35]⟩ : ByteArray) ++ rk).size ≤ 4096 := by
            rw [← bt_len, hW]
            have h1 := sub_len (bt S)
            rw [bt_len] at h1
            simp only [List.length_append, List.length_cons, List.length_nil, bt_len]
            omega
          obtain ⟨m, ht, hsm⟩ := Hback.out Hall.out _ hz4 hW
          have h3 := c_Tokens (V ++ (⟨#[32, 35]⟩ : ByteArray) ++ rk) (by unfold maxLen; omega)
          rw [ht] at h3
          have H3 := Lib.hid h3
          have Hsm := Lib.hid hsm
          clear h3 hsm ht hz4 hW hV2
          go_wp2_with fail
          refine (H3.out _).mono ?_
          rintro e w3 ⟨v3, rfl, hr3, hb3⟩
          have s3 := Lib.hid (TokSl.of_own hr3)
          clear hr3
          have z3 := hb3.size
          go_wp2_with (first | (go_at_call 16; refine (r_Same _ _ l m _ _ (((s1.out.below hb2 (Nat.le_refl _)).below hb3 hb2.size).more (Nat.le_trans hb2.size hb3.size)) s3.out).mono ?_; rintro e w5 ⟨rfl, n, rfl⟩; rw [Hsm.out]) | (go_at_call 13; refine (l_awake _).mono ?_; rintro e w4 ⟨rfl, hb4⟩))
          go_ret
          exact ⟨rfl, hb1.trans ((hb2.mono z1).trans ((hb3.mono (by omega)).trans ((below_drewN (Below.refl _ _) n).trans (hb4.mono (by show _ ≤ w3.heap.size; omega)))))⟩

set_option maxHeartbeats 1000000 in
set_option maxRecDepth 100000 in
theorem blanks_not (s rk : ByteArray) (l : List Tok) (at_ er f : Int) (S : ByteArray) (hS : S.size ≤ 9223372036854775807) (hrk : rk.size ≤ 9223372036854775807) (h : (er != 0) = true ∨ (f != 0) = true ∨ 1000 < S.size ∨ 100 < rk.size) (H1 : Hid (∀ w, Calls Try.prog 10 #[.string s] w (TokPost (l, at_, er) w)))
    (H2 : Hid (∀ v w, TokSl w w.heap.size v l → Calls Try.prog 14 #[v] w fun e w' => e = .returned (.tuple #[.string S, .int .i64 f]) ∧ Below w.heap.size w w')) (w : World) :
    Calls Try.prog 7 #[.string s, .string rk] w fun e w' => e = .returned (.bool true) ∧ Below w.heap.size w w' := by
  go_enter Try.func7, Try.ntmps7
  go_wp2_with fail
  refine (H1.out _).mono ?_
  rintro e w1 ⟨v1, rfl, hr1, hb1⟩
  have s1 := Lib.hid (TokSl.of_own hr1)
  clear hr1
  go_wp2_with fail
  refine (H2.out _ _ s1.out).mono ?_
  rintro e w2 ⟨rfl, hb2⟩
  have z1 := hb1.size
  have z2 := hb2.size
  cases h1 : (er != 0)
  · cases h2 : (f != 0)
    · by_cases h3 : 1000 < S.size
      · clear h
        go_wp2_with (first | (go_at_call 13; refine (l_awake _).mono ?_; rintro e w4 ⟨rfl, hb4⟩))
        all_goals go_ret
        all_goals exact ⟨rfl, hb1.trans ((hb2.mono z1).trans (hb4.mono (by omega)))⟩
      · have h4 : 100 < rk.size := by
          rcases h with h | h | h | h
          · rw [h1] at h; cases h
          · rw [h2] at h; cases h
          · exact absurd h h3
          · exact h
        clear h
        go_wp2_with (first | (go_at_call 13; refine (l_awake _).mono ?_; rintro e w4 ⟨rfl, hb4⟩))
        all_goals go_ret
        all_goals exact ⟨rfl, hb1.trans ((hb2.mono z1).trans (hb4.mono (by omega)))⟩
    · clear h
      go_wp2_with (first | (go_at_call 13; refine (l_awake _).mono ?_; rintro e w4 ⟨rfl, hb4⟩))
      all_goals go_ret
      all_goals exact ⟨rfl, hb1.trans ((hb2.mono z1).trans (hb4.mono (by omega)))⟩
  · clear h
    go_wp2_with (first | (go_at_call 13; refine (l_awake _).mono ?_; rintro e w4 ⟨rfl, hb4⟩))
    all_goals go_ret
    all_goals exact ⟨rfl, hb1.trans ((hb2.mono z1).trans (hb4.mono (by omega)))⟩

theorem w_LexisBlanks (s rk : ByteArray) (hs : s.size ≤ maxLen) (hr : rk.size ≤ maxLen) (w : World) :
    Calls Try.prog 7 #[.string s, .string rk] w fun e w' => e = .returned (.bool true) ∧ Below w.heap.size w w' := by
  have H1 := Lib.hid (c_Tokens s hs)
  unfold maxLen at hr
  rcases toks_cases s with ⟨l, ht, h4, -, hval, hlen⟩ | ⟨at_, er, ht, her, -, -⟩
  · rw [ht] at H1
    have hz : ∀ t ∈ l, t.text.size ≤ maxLen := fun t h => by have := valid_len t (hval t h); unfold maxLen; omega
    have H2 := Lib.hid (fun v w => c_Print v l (by omega) hz w)
    have hp : printOf l = if 4096 < (joinB l).size then (⟨#[]⟩, 3) else (joinB l, 0) := by unfold printOf; rw [if_pos (List.all_eq_true.2 hval)]
    by_cases hj : 4096 < (joinB l).size
    · rw [if_pos hj] at hp
      rw [hp] at H2
      exact blanks_not s rk l 0 0 3 ⟨#[]⟩ (by decide) (by omega) (.inr (.inl (by decide))) H1 H2 w
    · rw [if_neg hj] at hp
      rw [hp] at H2
      by_cases h1 : 1000 < (joinB l).size
      · exact blanks_not s rk l 0 0 0 (joinB l) (by omega) (by omega) (.inr (.inr (.inl h1))) H1 H2 w
      · by_cases h2 : 100 < rk.size
        · exact blanks_not s rk l 0 0 0 (joinB l) (by omega) (by omega) (.inr (.inr (.inr h2))) H1 H2 w
        · exact blanks_ok s rk (by omega) l hval (by omega) H1 H2 w
  · rw [ht] at H1
    have H2 := Lib.hid (fun v w => c_Print v [] (by decide) (by intro t ht; cases ht) w)
    have hp : printOf [] = (⟨#[]⟩, 0) := by kernel_rfl
    rw [hp] at H2
    exact blanks_not s rk [] at_ er 0 ⟨#[]⟩ (by decide) (by omega) (.inl (by rw [bne_iff_ne]; exact her)) H1 H2 w
end Go.Proofs.Ytlfjhechploioaa
