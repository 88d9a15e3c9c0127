/-
  DERIVED. Several texts in one.
-/
import Derived.Test.YtfpcdgmdangmaaaGreatDoorYLUm
import Derived.Test.YtfpcdgmdangmaaaGreatDoorYSAm
import Derived.Test.YtfpcdgmdangmaaaGreatDoorYPFm
import Derived.Test.YtfpcdgmdangmaaaGreatDoorYQKm
set_option linter.unusedVariables false
set_option linter.unusedSimpArgs false

/- DERIVED. Plain: two texts with a line feed between them. -/
namespace Go.Proofs.YtfpcdgmdangmaaaGreatDoor
open Go.RowKit

def glue (a b : ByteArray) : ByteArray := a ++ (⟨#[10]⟩ : ByteArray) ++ b
theorem glue_bt (a b : ByteArray) : bt (glue a b) = bt a ++ 10 :: bt b := by
  unfold glue bt
  rw [ByteArray.data_append, ByteArray.data_append]
  simp
theorem glue_size (a b : ByteArray) : (glue a b).size = a.size + 1 + b.size := by
  unfold glue
  rw [ByteArray.size_append, ByteArray.size_append]; rfl

theorem find_al (s : ByteArray) (h : ¬ 4096 < s.size) : toksOf s = match (al (bt s) 0).find? (fun x => x.2 != 0) with | some x => ([], x.1.off, x.2) | none => ((al (bt s) 0).map (·.1), 0, 0) := by
  unfold toksOf
  rw [if_neg h, seqOf_al]
  generalize (al (bt s) 0).find? (fun x => x.2 != 0) = o
  cases o <;> rfl

theorem apart_err (a b : ByteArray) (ha : a.size ≤ 2000) (hb : b.size ≤ 2000) (at_ er : Int) (h : toksOf a = ([], at_, er)) (her : er ≠ 0) : toksOf (glue a b) = ([], at_, er) := by
  have h4 := glue_size a b
  rw [find_al _ (by omega)] at h ⊢
  rw [glue_bt]
  cases hf : (al (bt a) 0).find? (fun x => x.2 != 0) with
  | none =>
    rw [hf] at h
    simp only [Prod.mk.injEq] at h
    exact absurd h.2.2.symm her
  | some x =>
    have hx := List.find?_some hf
    have hm := List.mem_of_find?_eq_some hf
    rw [(al_apart 10 rfl (bt b) _ (bt a) 0 (Nat.le_refl _)).2 ⟨x, hm, by simpa using hx⟩]
    exact h

theorem map_zero (l : List Tok) : ∀ y ∈ l.map (fun t => (t, (0 : Int))), y.2 = 0 := by
  intro y hy
  obtain ⟨t, _, rfl⟩ := List.mem_map.1 hy
  rfl

theorem apart_al (a b : ByteArray) (l : List Tok) (h : al (bt a) 0 = l.map (fun t => (t, 0))) : al (bt (glue a b)) 0 = l.map (fun t => (t, 0)) ++ (al (bt b) 0).map (shiftT (a.size + 1)) := by
  rw [glue_bt, (al_apart 10 rfl (bt b) _ (bt a) 0 (Nat.le_refl _)).1 (by rw [h]; exact map_zero l), h, bt_len]
  congr 1
  have := al_shift (a.size + 1) _ (bt b) 0 (Nat.le_refl _)
  rw [Nat.zero_add] at this
  rw [Nat.zero_add]
  exact this

theorem apart_err2 (a b : ByteArray) (ha : a.size ≤ 2000) (hb : b.size ≤ 2000) (l : List Tok) (h : al (bt a) 0 = l.map (fun t => (t, 0))) (to er : Int) (h2 : toksOf b = ([], to, er)) (her : er ≠ 0) :
    toksOf (glue a b) = ([], to + ((a.size + 1 : Nat) : Int), er) := by
  have h4 := glue_size a b
  rw [find_al _ (by omega)] at h2 ⊢
  rw [apart_al a b l h, List.find?_append, List.find?_eq_none.2 (fun y hy => by simp [map_zero l y hy]), List.find?_map]
  have hc : ((fun x : Tok × Int => x.2 != 0) ∘ shiftT (a.size + 1)) = fun x : Tok × Int => x.2 != 0 := rfl
  rw [hc]
  cases hf : (al (bt b) 0).find? (fun x => x.2 != 0) with
  | none =>
    rw [hf] at h2
    simp only [Prod.mk.injEq] at h2
    exact absurd h2.2.2.symm her
  | some x =>
    rw [hf] at h2
    simp only [Prod.mk.injEq, true_and] at h2
    obtain ⟨rfl, rfl⟩ := h2
    rfl

def shT (d : Nat) (t : Tok) : Tok := { t with off := t.off + (d : Int) }
theorem apart_ok (a b : ByteArray) (ha : a.size ≤ 2000) (hb : b.size ≤ 2000) (l m : List Tok) (h : al (bt a) 0 = l.map (fun t => (t, 0))) (h2 : al (bt b) 0 = m.map (fun t => (t, 0))) :
    toksOf (glue a b) = (l ++ m.map (shT (a.size + 1)), 0, 0) := by
  have h4 := glue_size a b
  refine toks_of_al _ _ (by omega) ?_
  rw [apart_al a b l h, h2, List.map_append, List.map_map, List.map_map]
  rfl


theorem shT_eq (d : Nat) : shT d = hT (fun o => o + (d : Int)) := rfl
theorem offOf_map (d : Nat) (en : Int) (r : List Tok) : offOf (en + (d : Int)) (r.map (shT d)) = offOf en r + (d : Int) := by cases r <;> rfl
theorem parse_toks {s : ByteArray} {l : List Tok} (h : toksOf s = (l, 0, 0)) : parseOf s = parseL s.size l := by unfold parseOf; rw [h]; rfl
theorem parse_err {s : ByteArray} {at_ er : Int} (h : toksOf s = ([], at_, er)) (her : er ≠ 0) : parseOf s = ([], at_, er) := by unfold parseOf; rw [h]; simp [her]
theorem parseL_error {en : Int} {l r : List Tok} (h : pText l = .error r) : parseL en l = ([], offOf en r, 4) := by unfold parseL; rw [h]
theorem parseL_ok {en : Int} {l r : List Tok} {x : List Cl} (h : pText l = .ok (x, r)) : parseL en l = (x, 0, 0) := by unfold parseL; rw [h]
theorem join_cases (a b : ByteArray) (ha : a.size ≤ 2000) (hb : b.size ≤ 2000) :
    ((parseOf a).2.2 ≠ 0 ∧ ((a.size : Int) ≤ (parseOf a).2.1 ∨ ((parseOf (glue a b)).2.2 ≠ 0 ∧ (parseOf (glue a b)).1 = []))) ∨
    ((parseOf a).2.2 = 0 ∧ (parseOf b).2.2 ≠ 0 ∧ parseOf (glue a b) = ([], (parseOf b).2.1 + ((a.size + 1 : Nat) : Int), (parseOf b).2.2)) ∨
    ((parseOf a).2.2 = 0 ∧ (parseOf b).2.2 = 0 ∧ (toksOf b).2.2 = 0 ∧ parseOf (glue a b) = ((parseOf a).1 ++ (parseOf b).1.map (Cl.mo (fun o => o + ((a.size + 1 : Nat) : Int))), 0, 0)) := by
  have hsz : ((glue a b).size : Int) = (b.size : Int) + ((a.size + 1 : Nat) : Int) := by rw [glue_size]; omega
  rcases toks_cases a with ⟨la, hA, -, hal, -, -⟩ | ⟨at_, er, hA, her, -, -⟩
  · rw [parse_toks hA]
    cases e : pText la with
    | error r =>
      left
      rw [parseL_error e]
      refine ⟨(show (4 : Int) ≠ 0 by decide), ?_⟩
      cases r with
      | nil => exact Or.inl (Int.le_refl _)
      | cons t r =>
        right
        rcases toks_cases b with ⟨lb, hB, -, hbl, -, -⟩ | ⟨to, er, hB, her, -, -⟩
        · rw [parse_toks (apart_ok a b ha hb la lb hal hbl), parseL_error ((pText_app _ _ la (Nat.le_refl _)).2 t r e)]
          exact ⟨(show (4 : Int) ≠ 0 by decide), rfl⟩
        · rw [parse_err (apart_err2 a b ha hb la hal to er hB her) her]
          exact ⟨her, rfl⟩
    | ok y =>
      obtain ⟨x, r⟩ := y
      right
      rw [parseL_ok e]
      rcases toks_cases b with ⟨lb, hB, -, hbl, -, -⟩ | ⟨to, er, hB, her, -, -⟩
      · rw [parse_toks hB, parse_toks (apart_ok a b ha hb la lb hal hbl)]
        have hap := (pText_app (lb.map (shT (a.size + 1))) _ la (Nat.le_refl _)).1 x r e
        have hmv := moves_text (fun o => o + ((a.size + 1 : Nat) : Int)) lb
        rw [← shT_eq] at hmv
        cases e2 : pText lb with
        | error r2 =>
          left
          rw [e2] at hmv
          rw [hmv] at hap
          have hap' : pText (la ++ lb.map (shT (a.size + 1))) = .error (r2.map (shT (a.size + 1))) := hap
          rw [parseL_error e2, parseL_error hap', hsz, offOf_map]
          exact ⟨rfl, (show (4 : Int) ≠ 0 by decide), rfl⟩
        | ok z =>
          obtain ⟨z, r2⟩ := z
          right
          rw [e2] at hmv
          rw [hmv] at hap
          have hap' : pText (la ++ lb.map (shT (a.size + 1))) = .ok (x ++ z.map (Cl.mo (fun o => o + ((a.size + 1 : Nat) : Int))), r2.map (shT (a.size + 1))) := hap
          rw [parseL_ok e2, parseL_ok hap', hB]
          exact ⟨rfl, rfl, rfl, rfl⟩
      · left
        rw [parse_err hB her, parse_err (apart_err2 a b ha hb la hal to er hB her) her]
        exact ⟨rfl, her, rfl⟩
  · left
    rw [parse_err hA her, parse_err (apart_err a b ha hb at_ er hA her) her]
    exact ⟨her, Or.inr ⟨her, rfl⟩⟩

theorem clause_off {tab : List (ByteArray × (List Tok → Rd Cl))} {l r : List Tok} {c : Cl} (h : pClause tab l = .ok (c, r)) : ∃ t ∈ l, c.off = t.off := by
  unfold pClause at h
  obtain ⟨t, l1, h1, h2⟩ := bindR_ok h
  obtain ⟨c', l2, h3, h4⟩ := bindR_ok h2
  cases h4
  cases l with
  | nil => cases h1
  | cons t' l =>
    simp only [pNext] at h1
    split at h1
    · cases h1; exact ⟨t, by simp, rfl⟩
    · cases h1
theorem text_offs : ∀ (n : Nat) (l : List Tok), l.length ≤ n → ∀ x r, pText l = .ok (x, r) → ∀ c ∈ x, ∃ t ∈ l, c.off = t.off := by
  intro n
  induction n with
  | zero =>
    intro l hl x r h c hc
    have : l = [] := List.eq_nil_of_length_eq_zero (by omega)
    subst this
    cases h; cases hc
  | succ n ih =>
    intro l hl x r h c hc
    rw [pText_eq] at h
    cases l with
    | nil => cases h; cases hc
    | cons t0 l =>
      simp only [List.isEmpty_cons, if_false, Bool.false_eq_true] at h
      obtain ⟨y, l1, h1, h2⟩ := bindR_ok h
      obtain ⟨ys, l2, h3, h4⟩ := bindR_ok h2
      cases h4
      rcases List.mem_cons.1 hc with rfl | hc
      · exact clause_off h1
      · obtain ⟨l0, e, -, -⟩ := strong_cl.2 _ _ _ h1
        obtain ⟨t, ht, e2⟩ := ih l1 (by have := takes_cl _ _ _ h1; simp at this hl; omega) _ _ h3 c hc
        exact ⟨t, by rw [e]; exact List.mem_append_right _ ht, e2⟩
/-- Offsets that Parse answers lie in the text, or are the limit. -/
theorem parse_offs (s : ByteArray) (hs : s.size ≤ 2000) : 0 ≤ (parseOf s).2.1 ∧ (parseOf s).2.1 ≤ 4096 ∧ ∀ c ∈ (parseOf s).1, 0 ≤ c.off ∧ c.off ≤ 2000 := by
  rcases toks_cases s with ⟨l, hA, -, hal, -, -⟩ | ⟨at_, er, hA, her, h0, h1⟩
  · have ho : ∀ t ∈ l, 0 ≤ t.off ∧ t.off ≤ 2000 := fun t ht => by
      have := al_off _ _ _ (Nat.le_refl _) (t, 0) (by rw [hal]; exact List.mem_map.2 ⟨t, ht, rfl⟩)
      rw [bt_len] at this
      dsimp only at this
      omega
    rw [parse_toks hA]
    cases e : pText l with
    | error r =>
      rw [parseL_error e]
      obtain ⟨l0, el, -⟩ := (look_text l).2 r e
      refine ⟨?_, ?_, fun c hc => by cases hc⟩
      all_goals cases r with
        | nil => simp only [offOf]; omega
        | cons t r => have := ho t (by rw [el]; simp); simp only [offOf]; omega
    | ok y =>
      obtain ⟨x, r⟩ := y
      rw [parseL_ok e]
      refine ⟨Int.le_refl _, (show (0 : Int) ≤ 4096 by decide), fun c hc => ?_⟩
      obtain ⟨t, ht, e2⟩ := text_offs _ _ (Nat.le_refl _) _ _ e c hc
      rw [e2]; exact ho t ht
  · rw [parse_err hA her]
    exact ⟨h0, by dsimp only; omega, fun c hc => by cases hc⟩
end Go.Proofs.YtfpcdgmdangmaaaGreatDoor

/- DERIVED. The law SyntaxJoins. -/
namespace Go.Proofs.YtfpcdgmdangmaaaGreatDoor
open Go.RowKit
set_option maxRecDepth 100000

/-- What a text's Parse does, wherever it is called. -/
def PA_ (s : ByteArray) (r : List Cl × Int × Int) : Prop := ∀ W, Calls Tryz.prog 8 #[.string s] W (ParsePost r W)
def TK_ (s : ByteArray) (r : List Tok × Int × Int) : Prop := ∀ W, Calls Tryz.prog 19 #[.string s] W (TokPost r W)

set_option maxHeartbeats 8000000 in
theorem joins_w0 (a b : ByteArray) (hsa : a.size ≤ maxLen) (hsb : b.size ≤ maxLen) (h : 2000 < a.size ∨ 2000 < b.size) (w : World) (ht : Tab w) :
    Calls Tryz.prog 7 #[.string a, .string b] w fun e w' => e = .returned (.bool true) ∧ Below w.heap.size w w' := by
  unfold maxLen at hsa hsb
  have HT := Lib.hid ht
  clear ht
  by_cases ha : 2000 < a.size
  · clear h
    go_enter Tryz.func7, Tryz.ntmps7
    go_wp2_with (go_at_call 11; refine (c_awake _ HT.out).mono ?_; rintro e w4 ⟨rfl, bb4⟩)
    go_ret
    exact ⟨rfl, bb4⟩
  · have hb : 2000 < b.size := by omega
    clear h
    go_enter Tryz.func7, Tryz.ntmps7
    go_wp2_with (go_at_call 11; refine (c_awake _ HT.out).mono ?_; rintro e w4 ⟨rfl, bb4⟩)
    go_ret
    exact ⟨rfl, bb4⟩

set_option maxHeartbeats 8000000 in
theorem joins_w1 (a b : ByteArray) (ha : a.size ≤ 2000) (hb : b.size ≤ 2000) (la : List Cl) (fr ea : Int) (hea : (ea != 0) = true) (rb : List Cl × Int × Int) (rt : List Tok × Int × Int) (lc : List Cl) (ac gc : Int)
    (h : (a.size : Int) ≤ fr ∨ ((gc != 0) = true ∧ lc = [])) (HA : Hid (PA_ a (la, fr, ea))) (HB : Hid (PA_ b rb)) (HK : Hid (TK_ b rt)) (HC : Hid (PA_ (glue a b) (lc, ac, gc))) (w : World) (ht : Tab w) :
    Calls Tryz.prog 7 #[.string a, .string b] w fun e w' => e = .returned (.bool true) ∧ Below w.heap.size w w' := by
  have HT := Lib.hid ht
  have HH := Lib.hid h
  clear ht h
  go_enter Tryz.func7, Tryz.ntmps7
  go_wp2_with (fail)
  refine (HA.out _).mono ?_
  rintro e w1 ⟨v1, rfl, hc1, bb1⟩
  clear hc1
  go_wp2_with (fail)
  refine (HB.out _).mono ?_
  rintro e w2 ⟨v2, rfl, hc2, bb2⟩
  clear hc2
  go_wp2_with (fail)
  refine (HK.out _).mono ?_
  rintro e w3 ⟨v3, rfl, hc3, bb3⟩
  clear hc3
  go_wp2_with (fail)
  refine (HC.out _).mono ?_
  rintro e w4 ⟨v4, rfl, hc4, bb4⟩
  have B1 := Lib.hid bb1
  have B2 := Lib.hid bb2
  have B3 := Lib.hid bb3
  have B4 := Lib.hid bb4
  have HT4 := Lib.hid ((((HT.out.on bb1).on bb2).on bb3).on bb4)
  obtain ⟨A4, c4, rfl, -⟩ := hc4
  clear bb1 bb2 bb3 bb4
  by_cases hf : (a.size : Int) ≤ fr
  · go_wp2_with (go_at_call 11; refine (c_awake _ HT4.out).mono ?_; rintro e w5 ⟨rfl, bb5⟩)
    go_ret
    have z1 := B1.out.size
    have z2 := B2.out.size
    have z3 := B3.out.size
    have z4 := B4.out.size
    exact ⟨rfl, B1.out.trans ((B2.out.mono z1).trans ((B3.out.mono (by omega)).trans ((B4.out.mono (by omega)).trans (bb5.mono (by omega)))))⟩
  · obtain ⟨hg, rfl⟩ := HH.out.resolve_left hf
    dsimp only [List.length_nil]
    go_wp2_with (go_at_call 11; refine (c_awake _ HT4.out).mono ?_; rintro e w5 ⟨rfl, bb5⟩)
    go_ret
    have z1 := B1.out.size
    have z2 := B2.out.size
    have z3 := B3.out.size
    have z4 := B4.out.size
    exact ⟨rfl, B1.out.trans ((B2.out.mono z1).trans ((B3.out.mono (by omega)).trans ((B4.out.mono (by omega)).trans (bb5.mono (by omega)))))⟩

set_option maxHeartbeats 8000000 in
theorem joins_w2 (a b : ByteArray) (ha : a.size ≤ 2000) (hb : b.size ≤ 2000) (la lb : List Cl) (to eb : Int) (heb : (eb != 0) = true) (h0 : 0 ≤ to) (hm : to ≤ 4096) (rt : List Tok × Int × Int)
    (HA : Hid (PA_ a (la, 0, 0))) (HB : Hid (PA_ b (lb, to, eb))) (HK : Hid (TK_ b rt)) (HC : Hid (PA_ (glue a b) ([], to + ((a.size + 1 : Nat) : Int), eb))) (w : World) (ht : Tab w) :
    Calls Tryz.prog 7 #[.string a, .string b] w fun e w' => e = .returned (.bool true) ∧ Below w.heap.size w w' := by
  have HT := Lib.hid ht
  clear ht
  have hee : (eb == eb) = true := by simp
  go_enter Tryz.func7, Tryz.ntmps7
  go_wp2_with (fail)
  refine (HA.out _).mono ?_
  rintro e w1 ⟨v1, rfl, hc1, bb1⟩
  clear hc1
  go_wp2_with (fail)
  refine (HB.out _).mono ?_
  rintro e w2 ⟨v2, rfl, hc2, bb2⟩
  clear hc2
  go_wp2_with (fail)
  refine (HK.out _).mono ?_
  rintro e w3 ⟨v3, rfl, hc3, bb3⟩
  clear hc3
  go_wp2_with (fail)
  refine (HC.out _).mono ?_
  rintro e w4 ⟨v4, rfl, hc4, bb4⟩
  have B1 := Lib.hid bb1
  have B2 := Lib.hid bb2
  have B3 := Lib.hid bb3
  have B4 := Lib.hid bb4
  have HT4 := Lib.hid ((((HT.out.on bb1).on bb2).on bb3).on bb4)
  obtain ⟨A4, c4, rfl, -⟩ := hc4
  have heq : ((to + ((a.size + 1 : Nat) : Int)) == ((a.size : Int) + 1 + to)) = true := by rw [beq_iff_eq]; omega
  clear bb1 bb2 bb3 bb4
  go_wp2_with (go_at_call 11; refine (c_awake _ HT4.out).mono ?_; rintro e w5 ⟨rfl, bb5⟩)
  go_ret
  have z1 := B1.out.size
  have z2 := B2.out.size
  have z3 := B3.out.size
  have z4 := B4.out.size
  exact ⟨rfl, B1.out.trans ((B2.out.mono z1).trans ((B3.out.mono (by omega)).trans ((B4.out.mono (by omega)).trans (bb5.mono (by omega)))))⟩
end Go.Proofs.YtfpcdgmdangmaaaGreatDoor

/- DERIVED. The law SyntaxJoins: where both texts are read. -/
namespace Go.Proofs.YtfpcdgmdangmaaaGreatDoor
open Go.RowKit
set_option maxRecDepth 100000

theorem reps_front {w : World} {ok : Nat → Prop} : ∀ (x y : List Cl) (b o : Nat), reps w ok (x ++ y) b o → reps w ok x b o
  | [], _, _, _, _ => by simp only [reps]
  | c :: x, y, b, o, h => by
    simp only [List.cons_append, reps] at h ⊢
    exact ⟨h.1, reps_front x y b (o + 8) h.2⟩
theorem reps_back {w : World} {ok : Nat → Prop} : ∀ (x y : List Cl) (b o : Nat), reps w ok (x ++ y) b o → reps w ok y b (o + x.length * 8)
  | [], _, _, _, h => by simpa using h
  | c :: x, y, b, o, h => by
    simp only [List.cons_append, reps] at h
    have := reps_back x y b (o + 8) h.2
    rwa [show o + (c :: x).length * 8 = o + 8 + x.length * 8 from by simp; omega]
theorem ClSl.take_ {w : World} {ok : Nat → Prop} {A : Option Addr} {n c : Nat} {x y : List Cl} (h : ClSl w ok (.slice A n c) (x ++ y)) : ClSl w ok (.slice A x.length c) x := by
  obtain ⟨A', c', e, h2, h3, h4⟩ := h
  injection e with e1 e2 e3
  subst e1 e3
  rw [List.length_append] at h2 h4
  refine ⟨A, c, rfl, by omega, h3, fun hl => ?_⟩
  obtain ⟨b, o, e, hb, hr⟩ := h4 (by omega)
  exact ⟨b, o, e, hb, reps_front x y b o hr⟩
theorem ClSl.drop_ {w : World} {ok : Nat → Prop} {A : Option Addr} {n c : Nat} {x y : List Cl} (h : ClSl w ok (.slice A n c) (x ++ y)) (hy : 0 < y.length) :
    ∃ b o, A = some ⟨b, o, none⟩ ∧ ClSl w ok (.slice (some ⟨b, o + x.length * 8, none⟩) y.length (c - x.length)) y := by
  obtain ⟨A', c', e, h2, h3, h4⟩ := h
  injection e with e1 e2 e3
  subst e1 e3
  rw [List.length_append] at h2 h4
  obtain ⟨b, o, rfl, hb, hr⟩ := h4 (by omega)
  exact ⟨b, o, rfl, _, _, rfl, by omega, by omega, fun _ => ⟨b, _, rfl, hb, reps_back x y b o hr⟩⟩
theorem mo_same (g : Int → Int) : ∀ l : List Cl, sames (l.map (Cl.mo g)) l = true := fun l => sames_of _ _ (by
  rw [mos_map, mos_map, List.map_map]
  congr 1
  funext c
  exact mo_mo g c)
  where
  mo_mo (g : Int → Int) : ∀ c : Cl, (Cl.mo zO ∘ Cl.mo g) c = Cl.mo zO c := fun c => by
    exact mo2 g c
  mo2 (g : Int → Int) : ∀ c : Cl, Cl.mo zO (Cl.mo g c) = Cl.mo zO c
    | .mk k n d i a b its o => by simp only [Cl.mo, mo3 g its]; rfl
  mo3 (g : Int → Int) : ∀ l : List Cl, mos zO (mos g l) = mos zO l
    | [] => by simp only [mos]
    | c :: l => by simp only [mos, mo2 g c, mo3 g l]

def JnRel (y : List Cl) (w6 : World) (iv : Value) (wr : World) : Prop := ∃ (i n : Nat), iv = .int .i64 i ∧ i ≤ y.length ∧ wr = w6.drewN n
theorem ClSl.drewN_ {w : World} {ok : Nat → Prop} {v : Value} {l : List Cl} (h : ClSl w ok v l) (n : Nat) : ClSl (w.drewN n) ok v l := h.below (below_dN n (Below.refl _ _))

set_option maxHeartbeats 16000000 in
theorem joins_w3 (a b : ByteArray) (ha : a.size ≤ 2000) (hb : b.size ≤ 2000) (x y : List Cl) (hx : x.length ≤ 5000) (hy : y.length ≤ 5000) (hoff : ∀ c ∈ y, 0 ≤ c.off ∧ c.off ≤ 2000) (hne : 0 < y.length) (lt : List Tok) (at_ : Int)
    (HA : Hid (PA_ a (x, 0, 0))) (HB : Hid (PA_ b (y, 0, 0))) (HK : Hid (TK_ b (lt, at_, 0))) (HC : Hid (PA_ (glue a b) (x ++ y.map (Cl.mo (fun o => o + ((a.size + 1 : Nat) : Int))), 0, 0))) (w : World) (ht : Tab w) :
    Calls Tryz.prog 7 #[.string a, .string b] w fun e w' => e = .returned (.bool true) ∧ Below w.heap.size w w' := by
  have HT := Lib.hid ht
  have Hoff := Lib.hid hoff
  obtain ⟨y', hy'⟩ : ∃ y', y' = y.map (Cl.mo (fun o => o + ((a.size + 1 : Nat) : Int))) := ⟨_, rfl⟩
  have hlen' : y'.length = y.length := by rw [hy', List.length_map]
  have hsame : sames y' y = true := by rw [hy']; exact mo_same _ y
  have hgi : ∀ i (h : i < y.length), y'[i]? = some (y[i].mo (fun o => o + ((a.size + 1 : Nat) : Int))) := fun i h => by rw [hy', List.getElem?_map, List.getElem?_eq_getElem h]; rfl
  rw [← hy'] at HC
  have Hgi := Lib.hid hgi
  have HS := Lib.hid hsame
  clear ht hoff hgi hsame hy'
  go_enter Tryz.func7, Tryz.ntmps7
  go_wp2_with (fail)
  refine (HA.out _).mono ?_
  rintro e w1 ⟨v1, rfl, hc1, bb1⟩
  have s1 := Lib.hid hc1
  obtain ⟨A1, c1, rfl, hd1, he1, -⟩ := hc1
  go_wp2_with (fail)
  refine (HB.out _).mono ?_
  rintro e w2 ⟨v2, rfl, hc2, bb2⟩
  have s2 := Lib.hid hc2
  obtain ⟨A2, c2, rfl, hd2, he2, -⟩ := hc2
  go_wp2_with (fail)
  refine (HK.out _).mono ?_
  rintro e w3 ⟨v3, rfl, hc3, bb3⟩
  clear hc3
  go_wp2_with (fail)
  refine (HC.out _).mono ?_
  rintro e w4 ⟨v4, rfl, hc4, bb4⟩
  dsimp only at hc4
  obtain ⟨A4, c4, rfl, hd4, he4, -⟩ := id hc4
  have t1 := hc4.take_
  obtain ⟨b4, o4, rfl, t2⟩ := hc4.drop_ (by omega)
  have hlen : (x ++ y').length = x.length + y.length := by rw [List.length_append, hlen']
  rw [hlen] at hc4 hd4
  rw [hlen'] at t2
  have S4 := Lib.hid hc4
  have T1 := Lib.hid t1
  have T2 := Lib.hid t2
  have Hlen := Lib.hid hlen
  have Hlen' := Lib.hid hlen'
  have B1 := Lib.hid bb1
  have B2 := Lib.hid bb2
  have B3 := Lib.hid bb3
  have B4 := Lib.hid bb4
  have HT4 := Lib.hid ((((HT.out.on bb1).on bb2).on bb3).on bb4)
  have S1 := Lib.hid (((s1.out.below bb2).below bb3).below bb4)
  have S2 := Lib.hid ((s2.out.below bb3).below bb4)
  have z1 := bb1.size
  have z2 := bb2.size
  have z3 := bb3.size
  have z4 := bb4.size
  clear bb1 bb2 bb3 bb4 hc4 t1 t2 s1 s2
  simp only [hlen]
  clear hlen hlen'
  unfold maxLen at he1 he2 he4
  have hcne : ¬ (c4 = x.length) := by omega
  go_wp2_with (fail)
  refine (q_Equal x _ _ _ _ _ T1.out S1.out).mono ?_
  rintro e w5 ⟨rfl, bb5⟩
  have T2' := Lib.hid (T2.out.below bb5)
  have S2' := Lib.hid (S2.out.below bb5)
  have S4' := Lib.hid (S4.out.below bb5)
  have HT5 := Lib.hid (HT4.out.on bb5)
  have B5 := Lib.hid bb5
  have z5 := bb5.size
  clear bb5
  go_wp2_with (fail)
  refine (q_Same y' y HS.out _ _ _ _ _ T2'.out S2'.out).mono ?_
  rintro e w6 ⟨rfl, bb6⟩
  have S2'' := Lib.hid (S2'.out.below bb6)
  have S4'' := Lib.hid (S4'.out.below bb6)
  have HT6 := Lib.hid (HT5.out.on bb6)
  have B6 := Lib.hid bb6
  have z6 := bb6.size
  clear bb6
  go_wp2_with (fail)
  go_loopw [17] (fun iv wr => JnRel y w6 iv wr) (fun iv wr => y.length - (intOf iv).toNat)
  case atStart => exact ⟨0, 0, rfl, Nat.zero_le _, rfl⟩
  case round =>
    obtain ⟨i, n, rfl, hi, rfl⟩ := hrel
    by_cases hlt : i < y.length
    · obtain ⟨b2', o2', c2', vn2, vi2, e2, -, -, -, -, -, -, -, -, -, -, -, -, g7⟩ := S2''.out.at_ hlt
      injection e2 with e2 _ e2'
      subst e2 e2'
      have hsi : x.length + i < (x ++ y').length := by rw [Hlen.out]; omega
      have S5 : ClSl w6 (Btw w3.heap.size w4.heap.size) (.slice (some ⟨b4, o4, none⟩) (x ++ y').length c4) (x ++ y') := by rw [Hlen.out]; exact S4''.out
      obtain ⟨b3', o3', c3', vn3, vi3, e3, -, -, -, -, -, -, -, -, -, -, -, -, q7⟩ := S5.at_ hsi
      injection e3 with e3 _ e3'
      injection e3 with e3
      injection e3 with e3 e4
      subst e3 e4 e3'
      have hgo : (x ++ y')[x.length + i].off = y[i].off + ((a.size + 1 : Nat) : Int) := by
        rw [List.getElem_append_right (by omega)]
        have h1 := Hgi.out i hlt
        have h2 := List.getElem?_eq_getElem (l := y') (i := x.length + i - x.length) (by rw [Hlen'.out]; omega)
        simp only [Nat.add_sub_cancel_left] at h2 ⊢
        rw [h1] at h2
        injection h2 with h2
        rw [← h2]
        cases y[i]; rfl
      rw [hgo] at q7
      clear hgo S5
      have hof := Hoff.out y[i] (List.getElem_mem hlt)
      generalize y[i].off = of at *
      clear hsi
      obtain ⟨hof1, hof2⟩ := hof
      have hw1 : IntKind.i64.wrap ((x.length : Int) + (i : Int)) = (x.length : Int) + (i : Int) := IntWalk.i64_in _ (by omega)
      have hw2 : IntKind.i64.wrap ((a.size : Int) + 1) = (a.size : Int) + 1 := IntWalk.i64_in _ (by omega)
      have hw3 : IntKind.i64.wrap ((a.size : Int) + 1 + of) = (a.size : Int) + 1 + of := IntWalk.i64_in _ (by omega)
      have hn : ((of + ((a.size : Int) + 1)) != ((a.size : Int) + 1 + of)) = false := by rw [bne_eq_false_iff_eq]; omega
      go_wp2
      go_quiet (fail)
      go_wp2
      exact ⟨⟨i + 1, n + nq, by go_num, by omega, rfl⟩, by simp [intOf]; omega⟩
    · go_wp2_with (go_at_call 11; refine (c_awake _ (by exact HT6.out.on (below_dN _ (Below.refl _ _)))).mono ?_; rintro e w7 ⟨rfl, bb7⟩)
      go_ret
      exact ⟨rfl, B1.out.trans ((B2.out.mono z1).trans ((B3.out.mono (by omega)).trans ((B4.out.mono (by omega)).trans ((B5.out.mono (by omega)).trans ((B6.out.mono (by omega)).trans ((below_dN n (Below.refl _ _)).trans (bb7.mono (by show _ ≤ w6.heap.size; omega))))))))⟩
end Go.Proofs.YtfpcdgmdangmaaaGreatDoor

/- DERIVED. The law SyntaxJoins, whole. -/
namespace Go.Proofs.YtfpcdgmdangmaaaGreatDoor
open Go.RowKit
set_option maxRecDepth 100000

theorem ClSl.emp (w : World) (ok : Nat → Prop) (X : Option Addr) (c : Nat) (hc : c ≤ maxLen) : ClSl w ok (.slice X 0 c) [] := ⟨X, c, rfl, Nat.zero_le _, hc, fun h => absurd h (by decide)⟩
set_option maxHeartbeats 16000000 in
theorem joins_w4 (a b : ByteArray) (ha : a.size ≤ 2000) (hb : b.size ≤ 2000) (x : List Cl) (hx : x.length ≤ 5000) (lt : List Tok) (at_ : Int)
    (HA : Hid (PA_ a (x, 0, 0))) (HB : Hid (PA_ b ([], 0, 0))) (HK : Hid (TK_ b (lt, at_, 0))) (HC : Hid (PA_ (glue a b) (x, 0, 0))) (w : World) (ht : Tab w) :
    Calls Tryz.prog 7 #[.string a, .string b] w fun e w' => e = .returned (.bool true) ∧ Below w.heap.size w w' := by
  have HT := Lib.hid ht
  clear ht
  go_enter Tryz.func7, Tryz.ntmps7
  go_wp2_with (fail)
  refine (HA.out _).mono ?_
  rintro e w1 ⟨v1, rfl, hc1, bb1⟩
  have s1 := Lib.hid hc1
  obtain ⟨A1, c1, rfl, hd1, he1, -⟩ := hc1
  go_wp2_with (fail)
  refine (HB.out _).mono ?_
  rintro e w2 ⟨v2, rfl, hc2, bb2⟩
  have s2 := Lib.hid hc2
  obtain ⟨A2, c2, rfl, hd2, he2, -⟩ := hc2
  go_wp2_with (fail)
  refine (HK.out _).mono ?_
  rintro e w3 ⟨v3, rfl, hc3, bb3⟩
  clear hc3
  go_wp2_with (fail)
  refine (HC.out _).mono ?_
  rintro e w4 ⟨v4, rfl, hc4, bb4⟩
  have s4 := Lib.hid hc4
  obtain ⟨A4, c4, rfl, hd4, he4, -⟩ := hc4
  dsimp only at *
  have HE4 := Lib.hid he4
  have B1 := Lib.hid bb1
  have B2 := Lib.hid bb2
  have B3 := Lib.hid bb3
  have B4 := Lib.hid bb4
  have HT4 := Lib.hid ((((HT.out.on bb1).on bb2).on bb3).on bb4)
  have S1 := Lib.hid (((s1.out.below bb2).below bb3).below bb4)
  have S2 := Lib.hid ((s2.out.below bb3).below bb4)
  have z1 := bb1.size
  have z2 := bb2.size
  have z3 := bb3.size
  have z4 := bb4.size
  clear bb1 bb2 bb3 bb4 s1 s2
  unfold maxLen at he1 he2 he4
  obtain ⟨X, hX⟩ : ∃ X : Option Addr, X = if c4 = x.length then A4 else A4.map (·.add (x.length * 8)) := ⟨_, rfl⟩
  go_wp2_with (fail)
  refine (q_Equal x _ _ _ _ _ s4.out S1.out).mono ?_
  rintro e w5 ⟨rfl, bb5⟩
  have S2' := Lib.hid (S2.out.below bb5)
  have HT5 := Lib.hid (HT4.out.on bb5)
  have B5 := Lib.hid bb5
  have z5 := bb5.size
  clear bb5
  go_wp2_with (fail)
  all_goals
    refine (q_Same [] [] rfl _ _ (fun _ => True) _ _ (ClSl.emp _ _ _ _ (by have := HE4.out; omega)) S2'.out).mono ?_
    rintro e w6 ⟨rfl, bb6⟩
    have HT6 := Lib.hid (HT5.out.on bb6)
    have B6 := Lib.hid bb6
    have z6 := bb6.size
    clear bb6
    go_wp2_with (fail)
    go_loopw [17] (fun iv wr => JnRel [] w6 iv wr) (fun iv wr => 0 - (intOf iv).toNat)
    case atStart => exact ⟨0, 0, rfl, Nat.zero_le _, rfl⟩
    case round =>
      obtain ⟨i, n, rfl, hi, rfl⟩ := hrel
      obtain rfl : i = 0 := by simpa using hi
      go_wp2_with (go_at_call 11; refine (c_awake _ (by exact HT6.out.on (below_dN _ (Below.refl _ _)))).mono ?_; rintro e w7 ⟨rfl, bb7⟩)
      go_ret
      exact ⟨rfl, B1.out.trans ((B2.out.mono z1).trans ((B3.out.mono (by omega)).trans ((B4.out.mono (by omega)).trans ((B5.out.mono (by omega)).trans ((B6.out.mono (by omega)).trans ((below_dN n (Below.refl _ _)).trans (bb7.mono (by show _ ≤ w6.heap.size; omega))))))))⟩

theorem text_len : ∀ (n : Nat) (l : List Tok), l.length ≤ n → ∀ x r, pText l = .ok (x, r) → x.length ≤ l.length := by
  intro n
  induction n with
  | zero =>
    intro l hl x r h
    have : l = [] := List.eq_nil_of_length_eq_zero (by omega)
    subst this
    cases h; simp
  | succ n ih =>
    intro l hl x r h
    rw [pText_eq] at h
    cases l with
    | nil => cases h; simp
    | cons t0 l =>
      simp only [List.isEmpty_cons, if_false, Bool.false_eq_true] at h
      obtain ⟨y, l1, h1, h2⟩ := bindR_ok h
      obtain ⟨ys, l2, h3, h4⟩ := bindR_ok h2
      cases h4
      have hlt := takes_cl _ _ _ h1
      have := ih l1 (by simp at hlt hl; omega) _ _ h3
      simp at hlt ⊢
      omega
theorem parse_len (s : ByteArray) : (parseOf s).1.length ≤ 5000 := by
  unfold parseOf
  split
  · unfold parseL
    cases e : pText (toksOf s).1 with
    | error r => simp
    | ok y =>
      obtain ⟨x, r⟩ := y
      have := text_len _ _ (Nat.le_refl _) _ _ e
      have := toksOf_len s
      simp only
      omega
  · simp

theorem w_SyntaxJoins (a b : ByteArray) (hsa : a.size ≤ maxLen) (hsb : b.size ≤ maxLen) (w : World) (ht : Tab w) :
    Calls Tryz.prog 7 #[.string a, .string b] w fun e w' => e = .returned (.bool true) ∧ Below w.heap.size w w' := by
  by_cases hbig : 2000 < a.size ∨ 2000 < b.size
  · exact joins_w0 a b hsa hsb hbig w ht
  · have ha : a.size ≤ 2000 := by omega
    have hb : b.size ≤ 2000 := by omega
    have HA : Hid (PA_ a (parseOf a)) := Lib.hid (fun W => c_Parse a hsa W)
    have HB : Hid (PA_ b (parseOf b)) := Lib.hid (fun W => c_Parse b hsb W)
    have HC : Hid (PA_ (glue a b) (parseOf (glue a b))) := Lib.hid (fun W => c_Parse (glue a b) (by rw [glue_size]; unfold maxLen; omega) W)
    have HK : Hid (TK_ b (toksOf b)) := Lib.hid (fun W => r_Tokens b hsb W)
    have hob := parse_offs b hb
    have hla := parse_len a
    have hlb := parse_len b
    rcases join_cases a b ha hb with ⟨h1, h2⟩ | ⟨h1, h2, h3⟩ | ⟨h1, h2, h3, h4⟩
    · exact joins_w1 a b ha hb _ _ _ (by rw [bne_iff_ne]; exact h1) _ _ _ _ _ (by
        rcases h2 with h | ⟨h, h'⟩
        · exact Or.inl h
        · exact Or.inr ⟨by rw [bne_iff_ne]; exact h, h'⟩) HA HB HK HC w ht
    · rw [h3] at HC
      have hA : parseOf a = ((parseOf a).1, (parseOf a).2.1, (parseOf a).2.2) := rfl
      rw [hA, h1] at HA
      have HA' : Hid (PA_ a ((parseOf a).1, 0, 0)) := by
        have : (parseOf a).2.1 = 0 := by
          unfold parseOf parseL at h1 ⊢
          split at h1
          · rename_i hh
            rw [if_pos hh]
            split at h1
            · cases h1
            · rfl
          · rename_i hh
            exact absurd h1 hh
        rw [this] at HA
        exact HA
      exact joins_w2 a b ha hb _ _ _ _ (by rw [bne_iff_ne]; exact h2) hob.1 hob.2.1 _ HA' HB HK HC w ht
    · have hz : ∀ s : ByteArray, (parseOf s).2.2 = 0 → parseOf s = ((parseOf s).1, 0, 0) := fun s h => by
        unfold parseOf parseL at h ⊢
        split at h
        · rename_i hh
          rw [if_pos hh]
          split at h
          · cases h
          · rfl
        · rename_i hh
          exact absurd h hh
      rw [h4] at HC
      rw [hz a h1] at HA
      rw [hz b h2] at HB
      have HK' : Hid (TK_ b ((toksOf b).1, (toksOf b).2.1, 0)) := by rw [← h3]; exact HK
      by_cases hne : 0 < (parseOf b).1.length
      · exact joins_w3 a b ha hb _ _ hla hlb hob.2.2 hne _ _ HA HB HK' HC w ht
      · have he : (parseOf b).1 = [] := List.eq_nil_of_length_eq_zero (by omega)
        rw [he] at HB HC
        rw [List.map_nil, List.append_nil] at HC
        exact joins_w4 a b ha hb _ hla _ _ HA HB HK' HC w ht
end Go.Proofs.YtfpcdgmdangmaaaGreatDoor
