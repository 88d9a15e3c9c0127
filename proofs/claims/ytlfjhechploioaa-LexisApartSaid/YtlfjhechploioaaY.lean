/-
  DERIVED. The walk of the law LexisApart.
-/
import Derived.Test.YtlfjhechploioaaW
import Derived.Test.YtlfjhechploioaaS
namespace Go.Proofs.Ytlfjhechploioaa
open Go.RowKit

def glue (a b : ByteArray) : ByteArray := a ++ (⟨#[10]⟩ : ByteArray) ++ b
theorem glue_bt (a b : ByteArray) : bt (glue a b) = bt a ++ 10 :: bt b := by
  unfold glue bt
  rw [ByteArray.data_append, ByteArray.data_append]
  simp
theorem glue_size (a b : ByteArray) : (glue a b).size = a.size + 1 + b.size := by
  unfold glue
  rw [ByteArray.size_append, ByteArray.size_append]; rfl

theorem find_al (s : ByteArray) (h : ¬ 4096 < s.size) : toksOf s = match (al (bt s) 0).find? (fun x => x.2 != 0) with | some x => ([], x.1.off, x.2) | none => ((al (bt s) 0).map (·.1), 0, 0) := by
  unfold toksOf
  rw [if_neg h, seqOf_al]
  generalize (al (bt s) 0).find? (fun x => x.2 != 0) = o
  cases o <;> rfl

theorem apart_err (a b : ByteArray) (ha : a.size ≤ 2000) (hb : b.size ≤ 2000) (at_ er : Int) (h : toksOf a = ([], at_, er)) (her : er ≠ 0) : toksOf (glue a b) = ([], at_, er) := by
  have h4 := glue_size a b
  rw [find_al _ (by omega)] at h ⊢
  rw [glue_bt]
  cases hf : (al (bt a) 0).find? (fun x => x.2 != 0) with
  | none =>
    rw [hf] at h
    simp only [Prod.mk.injEq] at h
    exact absurd h.2.2.symm her
  | some x =>
    have hx := List.find?_some hf
    have hm := List.mem_of_find?_eq_some hf
    rw [(al_apart 10 rfl (bt b) _ (bt a) 0 (Nat.le_refl _)).2 ⟨x, hm, by simpa using hx⟩]
    exact h

theorem map_zero (l : List Tok) : ∀ y ∈ l.map (fun t => (t, (0 : Int))), y.2 = 0 := by
  intro y hy
  obtain ⟨t, _, rfl⟩ := List.mem_map.1 hy
  rfl

theorem apart_al (a b : ByteArray) (l : List Tok) (h : al (bt a) 0 = l.map (fun t => (t, 0))) : al (bt (glue a b)) 0 = l.map (fun t => (t, 0)) ++ (al (bt b) 0).map (shiftT (a.size + 1)) := by
  rw [glue_bt, (al_apart 10 rfl (bt b) _ (bt a) 0 (Nat.le_refl _)).1 (by rw [h]; exact map_zero l), h, bt_len]
  congr 1
  have := al_shift (a.size + 1) _ (bt b) 0 (Nat.le_refl _)
  rw [Nat.zero_add] at this
  rw [Nat.zero_add]
  exact this

theorem apart_err2 (a b : ByteArray) (ha : a.size ≤ 2000) (hb : b.size ≤ 2000) (l : List Tok) (h : al (bt a) 0 = l.map (fun t => (t, 0))) (to er : Int) (h2 : toksOf b = ([], to, er)) (her : er ≠ 0) :
    toksOf (glue a b) = ([], to + ((a.size + 1 : Nat) : Int), er) := by
  have h4 := glue_size a b
  rw [find_al _ (by omega)] at h2 ⊢
  rw [apart_al a b l h, List.find?_append, List.find?_eq_none.2 (fun y hy => by simp [map_zero l y hy]), List.find?_map]
  have hc : ((fun x : Tok × Int => x.2 != 0) ∘ shiftT (a.size + 1)) = fun x : Tok × Int => x.2 != 0 := rfl
  rw [hc]
  cases hf : (al (bt b) 0).find? (fun x => x.2 != 0) with
  | none =>
    rw [hf] at h2
    simp only [Prod.mk.injEq] at h2
    exact absurd h2.2.2.symm her
  | some x =>
    rw [hf] at h2
    simp only [Prod.mk.injEq, true_and] at h2
    obtain ⟨rfl, rfl⟩ := h2
    rfl

def shT (d : Nat) (t : Tok) : Tok := { t with off := t.off + (d : Int) }
theorem apart_ok (a b : ByteArray) (ha : a.size ≤ 2000) (hb : b.size ≤ 2000) (l m : List Tok) (h : al (bt a) 0 = l.map (fun t => (t, 0))) (h2 : al (bt b) 0 = m.map (fun t => (t, 0))) :
    toksOf (glue a b) = (l ++ m.map (shT (a.size + 1)), 0, 0) := by
  have h4 := glue_size a b
  refine toks_of_al _ _ (by omega) ?_
  rw [apart_al a b l h, h2, List.map_append, List.map_map, List.map_map]
  rfl

theorem same_shift (d : Nat) : ∀ m : List Tok, sameL (m.map (shT d)) m = true
  | [] => rfl
  | t :: m => by rw [List.map_cons, sameL, same_shift d m]; simp [sameT, shT]

/-- The second part of a slice of tokens. -/
theorem TokSl.drop_ {w : World} {B : Nat} {A : Option Addr} {n c : Nat} {l : List Tok} (h : TokSl w B (.slice A n c) l) (k : Nat) (hk : k ≤ n) (hkc : k < c) (hne : 0 < n) :
    ∃ b o, A = some ⟨b, o, none⟩ ∧ TokSl w B (.slice (some ⟨b, o + k * 4, none⟩) (n - k) (c - k)) (l.drop k) := by
  obtain ⟨A', c', h1, h2, h3, h4⟩ := h
  simp only [Value.slice.injEq] at h1
  obtain ⟨rfl, rfl, rfl⟩ := h1
  obtain ⟨b, o, rfl, hb, hc⟩ := h4 hne
  refine ⟨b, o, rfl, some ⟨b, o + k * 4, none⟩, c - k, by rw [List.length_drop], by rw [List.length_drop]; omega, by omega, fun h0 => ⟨b, o + k * 4, rfl, hb, fun j u hj => ?_⟩⟩
  obtain ⟨t, g1, g2⟩ := tokCells_of _ j u hj
  rw [List.getElem?_drop] at g1
  have := tokCells_at l (k + j / 4) (j % 4) t g1 (by omega)
  rw [show (k + j / 4) * 4 + j % 4 = k * 4 + j from by omega] at this
  rw [Nat.add_assoc]
  exact hc _ u (this.trans g2)

theorem TokSl.drewN_ {w : World} {B : Nat} {v : Value} {l : List Tok} (h : TokSl w B v l) (n : Nat) : TokSl (w.drewN n) B v l := h.below (n := B) (below_drewN (Below.refl _ _) n) (Nat.le_refl _)
/-- The offset of a token of a slice whose address is at hand. -/
theorem TokSl.at2 {w : World} {B b o n c : Nat} {l : List Tok} (h : TokSl w B (.slice (some ⟨b, o, none⟩) n c) l) {i : Nat} (hi : i < l.length) (_ : l.length = n) : w.cell? ⟨b, o + i * 4 + 3, none⟩ = some (.int .i64 l[i].off) := by
  obtain ⟨b', o', c', e, -, -, -, -, -, -, g⟩ := h.at_ hi
  simp only [Value.slice.injEq, Option.some.injEq, Addr.mk.injEq] at e
  obtain ⟨⟨rfl, rfl, -⟩, -, -⟩ := e
  exact g

set_option maxHeartbeats 1000000 in
set_option maxRecDepth 100000 in
theorem apart_w1 (a b : ByteArray) (ha : a.size ≤ 2000) (hb : b.size ≤ 2000) (r2 : List Tok × Int × Int) (at_ er : Int) (her : (er != 0) = true) (H1 : Hid (∀ w, Calls Try.prog 10 #[.string a] w (TokPost ([], at_, er) w)))
    (H2 : Hid (∀ w, Calls Try.prog 10 #[.string b] w (TokPost r2 w))) (H3 : Hid (∀ w, Calls Try.prog 10 #[.string (glue a b)] w (TokPost ([], at_, er) w))) (w : World) :
    Calls Try.prog 8 #[.string a, .string b] w fun e w' => e = .returned (.bool true) ∧ Below w.heap.size w w' := by
  go_enter Try.func8, Try.ntmps8
  go_wp2_with fail
  refine (H1.out _).mono ?_
  rintro e w1 ⟨v1, rfl, hr1, hb1⟩
  clear hr1
  go_wp2_with fail
  refine (H2.out _).mono ?_
  rintro e w2 ⟨v2, rfl, hr2, hb2⟩
  clear hr2
  go_wp2_with fail
  refine (H3.out _).mono ?_
  rintro e w3 ⟨v3, rfl, hr3, hb3⟩
  obtain ⟨A, c, rfl, -⟩ := TokSl.of_own hr3
  clear hr3
  go_wp2_with (first | (go_at_call 13; refine (l_awake _).mono ?_; rintro e w4 ⟨rfl, hb4⟩))
  go_ret
  have z1 := hb1.size
  have z2 := hb2.size
  have z3 := hb3.size
  exact ⟨rfl, hb1.trans ((hb2.mono z1).trans ((hb3.mono (by omega)).trans (hb4.mono (by omega))))⟩

set_option maxHeartbeats 1000000 in
set_option maxRecDepth 100000 in
theorem apart_w2 (a b : ByteArray) (ha : a.size ≤ 2000) (hb : b.size ≤ 2000) (l : List Tok) (to er : Int) (h0 : 0 ≤ to) (hm : to ≤ 4096) (her : (er != 0) = true) (H1 : Hid (∀ w, Calls Try.prog 10 #[.string a] w (TokPost (l, 0, 0) w)))
    (H2 : Hid (∀ w, Calls Try.prog 10 #[.string b] w (TokPost ([], to, er) w))) (H3 : Hid (∀ w, Calls Try.prog 10 #[.string (glue a b)] w (TokPost ([], to + ((a.size + 1 : Nat) : Int), er) w))) (w : World) :
    Calls Try.prog 8 #[.string a, .string b] w fun e w' => e = .returned (.bool true) ∧ Below w.heap.size w w' := by
  go_enter Try.func8, Try.ntmps8
  go_wp2_with fail
  refine (H1.out _).mono ?_
  rintro e w1 ⟨v1, rfl, hr1, hb1⟩
  clear hr1
  go_wp2_with fail
  refine (H2.out _).mono ?_
  rintro e w2 ⟨v2, rfl, hr2, hb2⟩
  clear hr2
  go_wp2_with fail
  refine (H3.out _).mono ?_
  rintro e w3 ⟨v3, rfl, hr3, hb3⟩
  obtain ⟨A, c, rfl, -⟩ := TokSl.of_own hr3
  clear hr3
  have heq : ((to + ((a.size + 1 : Nat) : Int)) == ((a.size : Int) + 1 + to)) = true := by rw [beq_iff_eq]; omega
  go_wp2_with (first | (go_at_call 13; refine (l_awake _).mono ?_; rintro e w4 ⟨rfl, hb4⟩))
  go_ret
  have z1 := hb1.size
  have z2 := hb2.size
  have z3 := hb3.size
  exact ⟨rfl, hb1.trans ((hb2.mono z1).trans ((hb3.mono (by omega)).trans (hb4.mono (by omega))))⟩

def ApRel (m : List Tok) (w3 : World) (iv : Value) (wr : World) : Prop := ∃ (i n : Nat), iv = .int .i64 i ∧ i ≤ m.length ∧ wr = w3.drewN n

set_option maxHeartbeats 1000000 in
set_option maxRecDepth 100000 in
theorem apart_w3 (a b : ByteArray) (ha : a.size ≤ 2000) (hb : b.size ≤ 2000) (l m : List Tok) (hl : l.length ≤ 4097) (hm : m.length ≤ 4097) (hoff : ∀ t ∈ m, 0 ≤ t.off ∧ t.off ≤ 2000) (hne : 0 < m.length)
    (H1 : Hid (∀ w, Calls Try.prog 10 #[.string a] w (TokPost (l, 0, 0) w)))
    (H2 : Hid (∀ w, Calls Try.prog 10 #[.string b] w (TokPost (m, 0, 0) w))) (H3 : Hid (∀ w, Calls Try.prog 10 #[.string (glue a b)] w (TokPost (l ++ m.map (shT (a.size + 1)), 0, 0) w))) (w : World) :
    Calls Try.prog 8 #[.string a, .string b] w fun e w' => e = .returned (.bool true) ∧ Below w.heap.size w w' := by
  have Hoff := Lib.hid hoff
  clear hoff
  go_enter Try.func8, Try.ntmps8
  go_wp2_with fail
  refine (H1.out _).mono ?_
  rintro e w1 ⟨v1, rfl, hr1, hb1⟩
  have s1 := Lib.hid (TokSl.of_own hr1)
  obtain ⟨A1, c1, rfl, hc1, hd1, -⟩ := TokSl.of_own hr1
  clear hr1
  go_wp2_with fail
  refine (H2.out _).mono ?_
  rintro e w2 ⟨v2, rfl, hr2, hb2⟩
  have s2 := Lib.hid (TokSl.of_own hr2)
  obtain ⟨A2, c2, rfl, hc2, hd2, -⟩ := TokSl.of_own hr2
  clear hr2
  go_wp2_with fail
  refine (H3.out _).mono ?_
  rintro e w3 ⟨v3, rfl, hr3, hb3⟩
  have s3 := TokSl.of_own hr3
  dsimp only at s3
  obtain ⟨A3, c3, rfl, hc3, hd3, -⟩ := id s3
  have hlen : (l ++ m.map (shT (a.size + 1))).length = l.length + m.length := by rw [List.length_append, List.length_map]
  rw [hlen] at s3 hc3
  have t1 := TokSl.take s3 l.length (by omega)
  rw [List.take_left] at t1
  obtain ⟨b3, o3, rfl, t2⟩ := TokSl.drop_ s3 l.length (by omega) (by omega) (by omega)
  rw [List.drop_left, Nat.add_sub_cancel_left] at t2
  have Hlen := Lib.hid hlen
  have T1 := Lib.hid t1
  have T2 := Lib.hid t2
  have S3 := Lib.hid s3
  clear hr3 s3 t1 t2
  simp only [hlen]
  clear hlen
  unfold maxLen at hd1 hd2 hd3
  have hcne : ¬ (c3 = l.length) := by omega
  have z1 := hb1.size
  have z2 := hb2.size
  have z3 := hb3.size
  have s1' := Lib.hid (((s1.out.below hb2 (Nat.le_refl _)).below hb3 z2).more (B' := w3.heap.size) (Nat.le_trans z2 z3))
  have s2' := Lib.hid ((s2.out.below hb3 (Nat.le_refl _)).more z3)
  clear s1 s2
  go_wp2_with fail
  refine (r_Equal _ _ l l _ _ T1.out s1'.out).mono ?_
  rintro e w5 ⟨rfl, n5, rfl⟩
  rw [equalL_self]
  have T2' := Lib.hid (T2.out.drewN_ n5)
  have S2' := Lib.hid (s2'.out.drewN_ n5)
  go_wp2_with fail
  refine (r_Same _ _ (m.map (shT (a.size + 1))) m _ _ T2'.out S2'.out).mono ?_
  rintro e w6 ⟨rfl, n6, rfl⟩
  rw [same_shift]
  go_wp2_with fail
  go_loopw [14] (fun iv wr => ApRel m w3 iv wr) (fun iv wr => m.length - (intOf iv).toNat)
  case atStart => exact ⟨0, n5 + n6, rfl, Nat.zero_le _, rfl⟩
  case round =>
    obtain ⟨i, n, rfl, hi, rfl⟩ := hrel
    by_cases hlt : i < m.length
    · obtain ⟨b2, o2, c2', e2, -, -, -, -, -, -, g3⟩ := s2'.out.at_ hlt
      injection e2 with e2 _ e2'
      subst e2 e2'
      have hsi : l.length + i < (l ++ m.map (shT (a.size + 1))).length := by rw [Hlen.out]; omega
      have q3 := (S3.out.at2 hsi Hlen.out)
      have hgi : (l ++ m.map (shT (a.size + 1)))[l.length + i].off = m[i].off + ((a.size + 1 : Nat) : Int) := by
        rw [List.getElem_append_right (by omega), List.getElem_map]
        simp [shT]
      rw [hgi] at q3
      clear hgi
      have hof := Hoff.out m[i] (List.getElem_mem hlt)
      generalize m[i].off = of at *
      clear hsi
      obtain ⟨hof1, hof2⟩ := hof
      have hw1 : IntKind.i64.wrap ((l.length : Int) + (i : Int)) = (l.length : Int) + (i : Int) := IntWalk.i64_in _ (by omega)
      have hw2 : IntKind.i64.wrap ((a.size : Int) + 1) = (a.size : Int) + 1 := IntWalk.i64_in _ (by omega)
      have hw3 : IntKind.i64.wrap ((a.size : Int) + 1 + of) = (a.size : Int) + 1 + of := IntWalk.i64_in _ (by omega)
      have hn : ((of + ((a.size : Int) + 1)) != ((a.size : Int) + 1 + of)) = false := by rw [bne_eq_false_iff_eq]; omega
      go_wp2
      go_quiet (fail)
      go_wp2
      exact ⟨⟨i + 1, n + nq, by go_num, by omega, rfl⟩, by simp [intOf]; omega⟩
    · go_wp2_with (first | (go_at_call 13; refine (l_awake _).mono ?_; rintro e w4 ⟨rfl, hb4⟩))
      go_ret
      exact ⟨rfl, hb1.trans ((hb2.mono z1).trans ((hb3.mono (by omega)).trans ((below_drewN (Below.refl _ _) n).trans (hb4.mono (by show _ ≤ w3.heap.size; omega)))))⟩

theorem emp_sl (w : World) (B : Nat) (X : Option Addr) (c : Nat) (hc : c ≤ maxLen) : TokSl w B (.slice X 0 c) [] := ⟨X, c, rfl, Nat.zero_le _, hc, fun h => absurd h (by decide)⟩

set_option maxHeartbeats 1000000 in
set_option maxRecDepth 100000 in
theorem apart_w4 (a b : ByteArray) (ha : a.size ≤ 2000) (hb : b.size ≤ 2000) (l : List Tok) (hl : l.length ≤ 4097)
    (H1 : Hid (∀ w, Calls Try.prog 10 #[.string a] w (TokPost (l, 0, 0) w)))
    (H2 : Hid (∀ w, Calls Try.prog 10 #[.string b] w (TokPost ([], 0, 0) w))) (H3 : Hid (∀ w, Calls Try.prog 10 #[.string (glue a b)] w (TokPost (l, 0, 0) w))) (w : World) :
    Calls Try.prog 8 #[.string a, .string b] w fun e w' => e = .returned (.bool true) ∧ Below w.heap.size w w' := by
  go_enter Try.func8, Try.ntmps8
  go_wp2_with fail
  refine (H1.out _).mono ?_
  rintro e w1 ⟨v1, rfl, hr1, hb1⟩
  have s1 := Lib.hid (TokSl.of_own hr1)
  obtain ⟨A1, c1, rfl, hc1, hd1, -⟩ := TokSl.of_own hr1
  clear hr1
  go_wp2_with fail
  refine (H2.out _).mono ?_
  rintro e w2 ⟨v2, rfl, hr2, hb2⟩
  have s2 := Lib.hid (TokSl.of_own hr2)
  obtain ⟨A2, c2, rfl, hc2, hd2, -⟩ := TokSl.of_own hr2
  clear hr2
  go_wp2_with fail
  refine (H3.out _).mono ?_
  rintro e w3 ⟨v3, rfl, hr3, hb3⟩
  have s3 := Lib.hid (TokSl.of_own hr3)
  obtain ⟨A3, c3, rfl, hc3, hd3, -⟩ := TokSl.of_own hr3
  clear hr3
  dsimp only at *
  have hd3' := hd3
  unfold maxLen at hd1 hd2 hd3
  have z1 := hb1.size
  have z2 := hb2.size
  have z3 := hb3.size
  have s1' := Lib.hid (((s1.out.below hb2 (Nat.le_refl _)).below hb3 z2).more (B' := w3.heap.size) (Nat.le_trans z2 z3))
  have s2' := Lib.hid ((s2.out.below hb3 (Nat.le_refl _)).more z3)
  clear s1 s2
  obtain ⟨X, hX⟩ : ∃ X : Option Addr, X = if c3 = l.length then A3 else A3.map (·.add (l.length * 4)) := ⟨_, rfl⟩
  go_wp2_with fail
  refine (r_Equal _ _ l l _ _ s3.out s1'.out).mono ?_
  rintro e w5 ⟨rfl, n5, rfl⟩
  rw [equalL_self]
  have S2' := Lib.hid (s2'.out.drewN_ n5)
  go_wp2_with fail
  all_goals
    refine (r_Same _ _ [] [] _ w3.heap.size (emp_sl _ _ _ _ (by unfold maxLen; omega)) S2'.out).mono ?_
    rintro e w6 ⟨rfl, n6, rfl⟩
    rw [show sameL [] [] = true from rfl]
    go_wp2_with fail
    go_loopw [14] (fun iv wr => ApRel [] w3 iv wr) (fun iv wr => 0 - (intOf iv).toNat)
    case atStart => exact ⟨0, n5 + n6, rfl, Nat.zero_le _, rfl⟩
    case round =>
      obtain ⟨i, n, rfl, hi, rfl⟩ := hrel
      obtain rfl : i = 0 := by simpa using hi
      go_wp2_with (first | (go_at_call 13; refine (l_awake _).mono ?_; rintro e w4 ⟨rfl, hb4⟩))
      go_ret
      exact ⟨rfl, hb1.trans ((hb2.mono z1).trans ((hb3.mono (by omega)).trans ((below_drewN (Below.refl _ _) n).trans (hb4.mono (by show _ ≤ w3.heap.size; omega)))))⟩

theorem w_LexisApart (a b : ByteArray) (hsa : a.size ≤ maxLen) (hsb : b.size ≤ maxLen) (w : World) :
    Calls Try.prog 8 #[.string a, .string b] w fun e w' => e = .returned (.bool true) ∧ Below w.heap.size w w' := by
  have H1 := Lib.hid (c_Tokens a hsa)
  have H2 := Lib.hid (c_Tokens b hsb)
  unfold maxLen at hsa hsb
  by_cases ha : a.size ≤ 2000
  · by_cases hb : b.size ≤ 2000
    · have H3 := Lib.hid (c_Tokens (glue a b) (by rw [glue_size]; unfold maxLen; omega))
      rcases toks_cases a with ⟨l, ht, -, hal, -, hlen⟩ | ⟨at_, er, ht, her, -, -⟩
      · rw [ht] at H1
        rcases toks_cases b with ⟨m, ht2, -, hal2, -, hlen2⟩ | ⟨at_, er, ht2, her, h0, hm⟩
        · rw [ht2] at H2
          rw [apart_ok a b ha hb l m hal hal2] at H3
          have hoff : ∀ t ∈ m, 0 ≤ t.off ∧ t.off ≤ 2000 := fun t htm => by
            have := al_off _ (bt b) 0 (Nat.le_refl _) (t, 0) (by rw [hal2]; exact List.mem_map.2 ⟨t, htm, rfl⟩)
            rw [bt_len] at this
            dsimp only at this
            omega
          cases m with
          | nil =>
            rw [List.map_nil, List.append_nil] at H3
            exact apart_w4 a b ha hb l hlen H1 H2 H3 w
          | cons t m => exact apart_w3 a b ha hb l (t :: m) hlen hlen2 hoff (by simp) H1 H2 H3 w
        · rw [ht2] at H2
          rw [apart_err2 a b ha hb l hal at_ er ht2 her] at H3
          exact apart_w2 a b ha hb l at_ er h0 (by omega) (by rw [bne_iff_ne]; exact her) H1 H2 H3 w
      · rw [ht] at H1
        rw [apart_err a b ha hb at_ er ht her] at H3
        exact apart_w1 a b ha hb _ at_ er (by rw [bne_iff_ne]; exact her) H1 H2 H3 w
    · have hd : decide (2000 < (b.size : Int)) = true := by rw [decide_eq_true_iff]; omega
      go_enter Try.func8, Try.ntmps8
      go_wp2_with (first | (go_at_call 13; refine (l_awake _).mono ?_; rintro e w4 ⟨rfl, hb4⟩))
      go_ret
      exact ⟨rfl, hb4⟩
  · have hd : decide (2000 < (a.size : Int)) = true := by rw [decide_eq_true_iff]; omega
    go_enter Try.func8, Try.ntmps8
    go_wp2_with (first | (go_at_call 13; refine (l_awake _).mono ?_; rintro e w4 ⟨rfl, hb4⟩))
    go_ret
    exact ⟨rfl, hb4⟩
end Go.Proofs.Ytlfjhechploioaa
