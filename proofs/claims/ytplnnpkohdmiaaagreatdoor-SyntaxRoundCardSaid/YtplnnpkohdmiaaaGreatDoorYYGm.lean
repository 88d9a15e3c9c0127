/-
  DERIVED. Several texts in one.
-/
import Derived.Test.YtplnnpkohdmiaaaGreatDoorYFDm
import Derived.Test.YtplnnpkohdmiaaaGreatDoorYLUm
import Derived.Lib.ItoaMem
import Derived.Test.YtplnnpkohdmiaaaGreatDoorYPFm
import Derived.Test.YtplnnpkohdmiaaaGreatDoorYCAm
import Derived.Test.YtplnnpkohdmiaaaGreatDoorYWLm
set_option linter.unusedVariables false
set_option linter.unusedSimpArgs false

/- DERIVED. Plain: what is read is well formed. -/
namespace Go.Proofs.YtplnnpkohdmiaaaGreatDoor
open Go.RowKit

theorem isDi_nat {c : UInt8} (h : isDi c = true) : 48 ≤ c.toNat ∧ c.toNat ≤ 57 := by
  unfold isDi at h
  simpa using h
theorem ofNat_di {c : UInt8} (h : isDi c = true) : UInt8.ofNat (48 + (c.toNat - 48)) = c := by
  have := isDi_nat h
  have e : 48 + (c.toNat - 48) = c.toNat := by omega
  rw [e]
  exact UInt8.ofNat_toNat
theorem dec_nv_n : ∀ (n : Nat) (l : List UInt8), l.length = n + 1 → (∀ c ∈ l, isDi c = true) → l.head? ≠ some 48 → 1 ≤ nv l ∧ nv l < 10 ^ (n + 1) ∧ Lib.decDigits (nv l) = l := by
  intro n
  induction n with
  | zero =>
    intro l hl hd hh
    match l, hl with
    | [c], _ =>
      have h1 := isDi_nat (hd c (by simp))
      have h2 : c.toNat ≠ 48 := fun e => hh (by
        simp only [List.head?_cons, Option.some.injEq]
        exact UInt8.toNat_inj.1 e)
      have e : nv [c] = c.toNat - 48 := by simp [nv]
      rw [e]
      refine ⟨by omega, by omega, ?_⟩
      rw [Lib.decDigits_one (by omega), ofNat_di (hd c (by simp))]
  | succ n ih =>
    intro l hl hd hh
    obtain ⟨l', c, rfl⟩ : ∃ l' c, l = l' ++ [c] := ⟨l.dropLast, l.getLast (by intro e; simp [e] at hl), (List.dropLast_concat_getLast _).symm⟩
    have hl' : l'.length = n + 1 := by simpa using hl
    have hh' : l'.head? ≠ some 48 := by
      match l', hl' with
      | a :: l'', _ => simpa using hh
    obtain ⟨h1, h2, h3⟩ := ih l' hl' (fun x hx => hd x (by simp [hx])) hh'
    have h4 := isDi_nat (hd c (by simp))
    rw [nv_snoc]
    refine ⟨by omega, ?_, ?_⟩
    · rw [Nat.pow_succ]; omega
    · rw [Lib.decDigits, dif_neg (by omega)]
      have e1 : (10 * nv l' + (c.toNat - 48)) / 10 = nv l' := by omega
      have e2 : (10 * nv l' + (c.toNat - 48)) % 10 = c.toNat - 48 := by omega
      rw [e1, e2, h3, ofNat_di (hd c (by simp))]

/-- What a token that can be printed says of its number. -/
theorem num_facts (t : Tok) (h : validT t = true) (hk : t.kind = 2) : bt t.text ≠ [] ∧ (∀ c ∈ bt t.text, isDi c = true) ∧ ¬ (1 < t.text.size ∧ (bt t.text).head? = some 48) ∧ t.text.size ≤ 9 ∧ t.num = nv (bt t.text) := by
  have hr := valid_read t h
  obtain ⟨k, s, n, o⟩ := t
  dsimp only at *
  subst hk
  unfold readOf at hr
  cases hh : (bt s).head? with
  | none => rw [hh] at hr; cases hr
  | some c =>
    rw [hh] at hr
    dsimp only at hr
    split at hr
    · unfold nameOf at hr
      split at hr
      · cases hr
      · simp at hr
    · split at hr
      · have hall := fr_all isDi (bt s)
        rw [← bt_take] at hall
        generalize s.extract 0 (fr isDi (bt s)) = s' at *
        unfold numberOf at hr
        split at hr
        · cases hr
        · split at hr
          · cases hr
          · simp only [Prod.mk.injEq, Tok.mk.injEq, and_true, true_and] at hr
            rename_i h1 h2
            obtain ⟨rfl, hn⟩ := hr
            exact ⟨(by intro e; rw [e] at hh; cases hh), hall, hh ▸ h1, (by omega), hn.symm⟩
      · split at hr
        · simp at hr
        · cases hr

def NumIn (n : Int) : Prop := 0 ≤ n ∧ n < 1000000000 ∧ validT (numT n) = true
theorem valid_off (t : Tok) (o : Int) : validT { t with off := o } = validT t := rfl
theorem num_in (t : Tok) (h : validT t = true) (hk : t.kind = 2) : NumIn t.num ∧ itoaB t.num = t.text := by
  obtain ⟨h1, h2, h3, h4, h5⟩ := num_facts t h hk
  have hlen : (bt t.text).length = t.text.size := bt_len _
  have hit : itoaB t.num = t.text ∧ nv (bt t.text) < 1000000000 := by
    rw [h5]
    unfold itoaB
    rw [Lib.itoa_nonneg]
    by_cases h48 : (bt t.text).head? = some 48
    · have hs : t.text.size = 1 := by
        have : ¬ 1 < t.text.size := fun k => h3 ⟨k, h48⟩
        have : (bt t.text).length ≠ 0 := fun k => h1 (List.eq_nil_of_length_eq_zero k)
        omega
      rw [hs] at hlen
      obtain ⟨c, hc⟩ := List.length_eq_one_iff.1 hlen
      rw [hc] at h48
      simp only [List.head?_cons, Option.some.injEq] at h48
      subst h48
      rw [hc]
      exact ⟨bs_inj (by rw [hc]; kernel_rfl), by decide⟩
    · obtain ⟨n, hn⟩ : ∃ n, (bt t.text).length = n + 1 := ⟨(bt t.text).length - 1, by
        have : (bt t.text).length ≠ 0 := fun k => h1 (List.eq_nil_of_length_eq_zero k)
        omega⟩
      obtain ⟨-, g2, g3⟩ := dec_nv_n n _ hn h2 h48
      rw [g3]
      refine ⟨bs_bt t.text, Nat.lt_of_lt_of_le g2 ?_⟩
      exact Nat.pow_le_pow_right (by omega) (show n + 1 ≤ 9 by omega)
  refine ⟨⟨by omega, by omega, ?_⟩, hit.1⟩
  have e : numT t.num = { t with off := 0 } := by
    unfold numT
    rw [hit.1]
    obtain ⟨k, s, n, o⟩ := t
    dsimp only at hk ⊢
    rw [hk]
  rw [e, valid_off]
  exact h

theorem name_facts (t : Tok) (h : validT t = true) (hk : t.kind = 1) : nameT t.text = { t with off := 0 } ∧ t.text.size ≤ 12 := by
  have hr := valid_read t h
  obtain ⟨k, s, n, o⟩ := t
  dsimp only at *
  subst hk
  unfold readOf at hr
  cases hh : (bt s).head? with
  | none => rw [hh] at hr; cases hr
  | some c =>
    rw [hh] at hr
    dsimp only at hr
    split at hr
    · unfold nameOf at hr
      split at hr
      · cases hr
      · simp only [Prod.mk.injEq, Tok.mk.injEq, and_true, true_and] at hr
        rename_i h1
        obtain ⟨e, hn⟩ := hr
        rw [e] at h1
        exact ⟨by unfold nameT; rw [← hn], by omega⟩
    · split at hr
      · unfold numberOf at hr
        split at hr
        · cases hr
        · split at hr
          · cases hr
          · simp at hr
      · split at hr
        · simp at hr
        · cases hr
end Go.Proofs.YtplnnpkohdmiaaaGreatDoor

/- DERIVED. Plain: what a text is read as is well formed, and has no more tokens than the text. -/
namespace Go.Proofs.YtplnnpkohdmiaaaGreatDoor
open Go.RowKit

def AllV (l : List Tok) : Prop := ∀ t ∈ l, validT t = true
/-- What a reader answers of tokens that can be printed. -/
def Gives {α : Type} (p : List Tok → Rd α) (P : α → Nat → Prop) : Prop := ∀ l x r, AllV l → p l = .ok (x, r) → AllV r ∧ ∃ k, l.length = k + r.length ∧ P x k

theorem gives_next {f : Tok → Bool} {l r : List Tok} {t : Tok} (hv : AllV l) (h : pNext f l = .ok (t, r)) : AllV r ∧ l.length = 1 + r.length ∧ f t = true ∧ validT t = true := by
  cases l with
  | nil => cases h
  | cons a l =>
    simp only [pNext] at h
    split at h
    · cases h
      rename_i h1
      exact ⟨fun x hx => hv x (by simp [hx]), by simp; omega, h1, hv _ (by simp)⟩
    · cases h
theorem gives_lit (s : ByteArray) : Gives (pLit s) (fun _ k => k = 1) := by
  intro l x r hv h
  obtain ⟨t, r1, h1, h2⟩ := bindR_ok h
  cases h2
  obtain ⟨g1, g2, -, -⟩ := gives_next hv h1
  exact ⟨g1, 1, g2, rfl⟩
def NamIn (n : ByteArray) : Prop := NamOk n ∧ n.size ≤ 12
theorem gives_name : Gives pName (fun n k => k = 1 ∧ NamIn n) := by
  intro l x r hv h
  obtain ⟨t, r1, h1, h2⟩ := bindR_ok h
  cases h2
  obtain ⟨g1, g2, g3, g4⟩ := gives_next hv h1
  unfold fitName at g3
  simp only [Bool.and_eq_true, beq_iff_eq, Bool.not_eq_true'] at g3
  obtain ⟨e1, e2⟩ := name_facts t g4 g3.1
  exact ⟨g1, 1, g2, rfl, ⟨g3.2, by rw [e1, valid_off]; exact g4⟩, e2⟩
theorem gives_num : Gives pNum (fun n k => k = 1 ∧ NumIn n) := by
  intro l x r hv h
  obtain ⟨t, r1, h1, h2⟩ := bindR_ok h
  cases h2
  obtain ⟨g1, g2, g3, g4⟩ := gives_next hv h1
  unfold fitNum at g3
  exact ⟨g1, 1, g2, rfl, (num_in t g4 (by simpa using g3)).1⟩
theorem dom_cases (s : ByteArray) : domB s = 1 ∨ domB s = 2 ∨ domB s = 3 ∨ domB s = 4 ∨ domB s = 5 ∨ domB s = 0 := by
  unfold domB
  split
  · simp
  · split
    · simp
    · split
      · simp
      · split
        · simp
        · split <;> simp
theorem dom_ok_of {s : ByteArray} (h : domB s ≠ 0) : DomOk (domB s) := by
  rcases dom_cases s with e | e | e | e | e | e
  · rw [e]; unfold DomOk; rw [ByteArray.toList_eq]; decide
  · rw [e]; unfold DomOk; rw [ByteArray.toList_eq]; decide
  · rw [e]; unfold DomOk; rw [ByteArray.toList_eq]; decide
  · rw [e]; unfold DomOk; rw [ByteArray.toList_eq]; decide
  · rw [e]; unfold DomOk; rw [ByteArray.toList_eq]; decide
  · exact absurd e h
theorem gives_scope : Gives pScope (fun d k => k = 1 ∧ DomOk d) := by
  intro l x r hv h
  obtain ⟨t, r1, h1, h2⟩ := bindR_ok h
  cases h2
  obtain ⟨g1, g2, g3, g4⟩ := gives_next hv h1
  unfold fitScope at g3
  exact ⟨g1, 1, g2, rfl, dom_ok_of (by simpa using g3)⟩
theorem gives_bind {α β : Type} {p : List Tok → Rd α} {f : α → List Tok → Rd β} {P : α → Nat → Prop} {Q : β → Nat → Prop} (hp : Gives p P) (hf : ∀ a k, P a k → Gives (f a) (fun b m => Q b (k + m))) : Gives (fun l => bindR (p l) f) Q := by
  intro l x r hv h
  obtain ⟨a, l1, h1, h2⟩ := bindR_ok h
  obtain ⟨g1, k, g2, g3⟩ := hp l a l1 hv h1
  obtain ⟨e1, m, e2, e3⟩ := hf a k g3 l1 x r g1 h2
  exact ⟨e1, k + m, by omega, e3⟩
theorem gives_ok {α : Type} {a : α} {Q : α → Nat → Prop} (h : Q a 0) : Gives (fun l => .ok (a, l)) Q := by
  intro l x r hv h1
  cases h1
  exact ⟨hv, 0, by omega, h⟩
theorem gives_many {α : Type} {stop : List Tok → Bool} {p : List Tok → Rd α} {P : α → Nat → Prop} {f : α → Nat} (hp : Gives p P) (hf : ∀ a k, P a k → f a = k) (ht : Takes p) :
    Gives (pMany stop p) (fun xs k => (∀ x ∈ xs, ∃ m, P x m) ∧ k = (xs.map f).sum) := by
  suffices H : ∀ (n : Nat) (l : List Tok), l.length ≤ n → ∀ x r, AllV l → pMany stop p l = .ok (x, r) → AllV r ∧ ∃ k, l.length = k + r.length ∧ (∀ y ∈ x, ∃ m, P y m) ∧ k = (x.map f).sum from fun l x r hv h => H l.length l (Nat.le_refl _) x r hv h
  intro n
  induction n with
  | zero =>
    intro l hl x r hv h
    have : l = [] := List.eq_nil_of_length_eq_zero (by omega)
    subst this
    rw [pMany_eq ht] at h
    split at h
    · cases h; exact ⟨hv, 0, by simp, by simp, by simp⟩
    · obtain ⟨a, l1, h1, h2⟩ := bindR_ok h
      have := ht _ _ _ h1
      simp at this
  | succ n ih =>
    intro l hl x r hv h
    rw [pMany_eq ht] at h
    split at h
    · cases h; exact ⟨hv, 0, by simp, by simp, by simp⟩
    · obtain ⟨a, l1, h1, h2⟩ := bindR_ok h
      obtain ⟨xs, l2, h3, h4⟩ := bindR_ok h2
      cases h4
      have hlt := ht _ _ _ h1
      obtain ⟨g1, k, g2, g3⟩ := hp l a l1 hv h1
      obtain ⟨e1, m, e2, e3, e4⟩ := ih l1 (by omega) xs _ g1 h3
      refine ⟨e1, k + m, by omega, ?_, ?_⟩
      · intro y hy
        rcases List.mem_cons.1 hy with rfl | hy
        · exact ⟨k, g3⟩
        · exact e3 y hy
      · rw [List.map_cons, List.sum_cons, hf a k g3, e4]

/-- An item as it is read: its length in tokens. -/
def ItemIn (c : Cl) (k : Nat) : Prop := ItemIs c ∧ I64 c.idx ∧ I64 c.a ∧ I64 c.b ∧ (∀ n ∈ c.names, n.size ≤ 12) ∧ (itemToks c).length = k + 1 ∧ c.items = []
theorem i64_in {n : Int} (h : NumIn n) : I64 n := ⟨by have := h.1; omega, by have := h.2.1; omega⟩
theorem i64_0 : I64 0 := ⟨by omega, by omega⟩
theorem num_ok_in {n : Int} (h : NumIn n) : NumOk n := Or.inr h.2.2

theorem g_counted (k : Int) (hk : k = 6 ∨ k = 7 ∨ k = 8 ∨ k = 12) : Gives (pCounted k) ItemIn :=
  gives_bind gives_num fun a m ha => gives_bind (gives_lit _) fun _ m2 h2 => gives_ok (by
    obtain ⟨rfl, ha⟩ := ha
    subst h2
    refine ⟨.num k a 0 hk (num_ok_in ha), i64_0, i64_in ha, i64_0, by simp [Cl.names], ?_, rfl⟩
    rcases hk with rfl | rfl | rfl | rfl <;> simp [itemToks, Cl.kind])
theorem g_spread : Gives pSpread ItemIn :=
  gives_bind gives_num fun a m ha => gives_bind (gives_lit _) fun _ m2 h2 => gives_bind gives_scope fun d m3 hd => gives_bind (gives_lit _) fun _ m4 h4 => gives_ok (by
    obtain ⟨rfl, ha⟩ := ha
    obtain ⟨rfl, hd⟩ := hd
    subst h2 h4
    exact ⟨.spread d a 0 hd (num_ok_in ha), i64_0, i64_in ha, i64_0, by simp [Cl.names], by simp [itemToks, Cl.kind], rfl⟩)
theorem g_other : Gives pOther (fun n k => k = 2 ∧ NamIn n) :=
  gives_bind (gives_lit _) fun _ m2 h2 => fun l x r hv h => by
    obtain ⟨g1, k, g2, rfl, g3⟩ := gives_name l x r hv h
    exact ⟨g1, 1, g2, by omega, g3⟩
theorem sep_len : ∀ ns : List ByteArray, (sepToks ns).length = (ns.map fun _ => 2).sum
  | [] => rfl
  | n :: ns => by
    have := sep_len ns
    simp only [sepToks, List.flatMap_cons, List.length_append, List.map_cons, List.sum_cons] at this ⊢
    rw [this]
    simp
theorem g_apart : Gives pApart ItemIn :=
  gives_bind gives_name fun n m hn => gives_bind (gives_many (f := fun _ => 2) g_other (fun _ _ h => h.1.symm) takes_other) fun ns m2 h2 => gives_bind (gives_lit _) fun _ m4 h4 => gives_ok (by
    obtain ⟨rfl, hn⟩ := hn
    obtain ⟨h2, rfl⟩ := h2
    subst h4
    have hns : ∀ x ∈ ns, NamIn x := fun x hx => by obtain ⟨m, -, h⟩ := h2 x hx; exact h
    refine ⟨.apart n ns 0 hn.1 fun x hx => (hns x hx).1, i64_0, i64_0, i64_0, ?_, ?_, rfl⟩
    · intro x hx
      simp only [Cl.names, List.mem_cons] at hx
      rcases hx with rfl | hx
      · exact hn.2
      · exact (hns x hx).2
    · have := sep_len ns
      simp only [itemToks, Cl.kind, Cl.names, List.length_cons, List.length_append, List.length_nil, if_true, if_false, Int.reduceEq]
      omega)
theorem g_near : Gives pNear ItemIn :=
  gives_bind gives_name fun n m hn => gives_bind (gives_lit _) fun _ m2 h2 => gives_bind gives_num fun a m3 ha => gives_bind (gives_lit _) fun _ m4 h4 => gives_ok (by
    obtain ⟨rfl, hn⟩ := hn
    obtain ⟨rfl, ha⟩ := ha
    subst h2 h4
    exact ⟨.near n a 0 hn.1 (num_ok_in ha), i64_0, i64_in ha, i64_0, by simpa [Cl.names] using hn.2, by simp [itemToks, Cl.kind, Cl.names], rfl⟩)
end Go.Proofs.YtplnnpkohdmiaaaGreatDoor

/- DERIVED. Plain: what Parse returns is well formed. -/
namespace Go.Proofs.YtplnnpkohdmiaaaGreatDoor
open Go.RowKit

def ItemGot (c : Cl) (k : Nat) : Prop := ItemIs c ∧ I64 c.idx ∧ I64 c.a ∧ I64 c.b ∧ (∀ n ∈ c.names, n.size ≤ 12) ∧ (itemToks c).length = k ∧ c.items = []
theorem item_off {c : Cl} {k : Nat} (h : ItemIn c k) (o : Int) : ItemGot (c.withOff o) (1 + (k + 0)) := by
  obtain ⟨h1, h2, h3, h4, h5, h6, h7⟩ := h
  have e : itemToks (c.withOff o) = itemToks c := rfl
  refine ⟨?_, h2, h3, h4, h5, by rw [e, h6]; omega, h7⟩
  cases h1 with
  | num k a o' hk ha => exact .num k a o hk ha
  | spread d a o' hd ha => exact .spread d a o hd ha
  | apart n ns o' hn hns => exact .apart n ns o hn hns
  | near n a o' hn ha => exact .near n a o hn ha
theorem gives_clause {tab : List (ByteArray × (List Tok → Rd Cl))} {Q R : Cl → Nat → Prop} (h : ∀ x ∈ tab, Gives x.2 Q) (hQ : ∀ c k o, Q c k → R (c.withOff o) (1 + (k + 0))) : Gives (pClause tab) R := by
  intro l x r hv h0
  obtain ⟨t, l1, h1, h2⟩ := bindR_ok h0
  obtain ⟨g1, g2, g3, -⟩ := gives_next hv h1
  cases e : assocB t.text tab with
  | none => rw [e] at g3; cases g3
  | some p =>
    rw [e] at h2
    obtain ⟨key, hk⟩ := assocB_mem e
    obtain ⟨c, l2, h3, h4⟩ := bindR_ok h2
    cases h4
    obtain ⟨e1, k, e2, e3⟩ := h _ hk l1 c _ g1 h3
    exact ⟨e1, 1 + (k + 0), by omega, hQ c k t.off e3⟩
theorem g_item : Gives pItem ItemGot := gives_clause (Q := ItemIn) (by
  intro x hx
  simp only [itemTab, List.mem_cons, List.not_mem_nil, or_false] at hx
  rcases hx with rfl | rfl | rfl | rfl | rfl | rfl | rfl
  · exact g_counted _ (by omega)
  · exact g_counted _ (by omega)
  · exact g_counted _ (by omega)
  · exact g_spread
  · exact g_apart
  · exact g_near
  · exact g_counted _ (by omega)) fun c k o h => item_off h o

def ClauseIn (c : Cl) (k : Nat) : Prop := ClauseIs c ∧ I64 c.idx ∧ I64 c.a ∧ I64 c.b ∧ (∀ n ∈ c.names, n.size ≤ 12) ∧ (clauseToks c).length = k + 1 ∧ ∀ i ∈ c.items, ∃ m, ItemGot i m
def ClauseGot (c : Cl) (k : Nat) : Prop := ClauseIs c ∧ I64 c.idx ∧ I64 c.a ∧ I64 c.b ∧ (∀ n ∈ c.names, n.size ≤ 12) ∧ (clauseToks c).length = k ∧ ∀ i ∈ c.items, ∃ m, ItemGot i m
theorem clause_off_in {c : Cl} {k : Nat} (h : ClauseIn c k) (o : Int) : ClauseGot (c.withOff o) (1 + (k + 0)) := by
  obtain ⟨h1, h2, h3, h4, h5, h6, h7⟩ := h
  have e : clauseToks (c.withOff o) = clauseToks c := rfl
  refine ⟨?_, h2, h3, h4, h5, by rw [e, h6]; omega, h7⟩
  cases h1 with
  | service n its o' hn hi => exact .service n its o hn hi
  | window d i a b o' hd hi ha hb => exact .window d i a b o hd hi ha hb
  | approve d i o' hd hi => exact .approve d i o hd hi
  | blast a o' ha => exact .blast a o ha
  | cap i a o' hi ha => exact .cap i a o hi ha

theorem g_area : Gives pArea (fun x k => k = 2 ∧ DomOk x.1 ∧ NumIn x.2) :=
  gives_bind gives_scope fun d m hd => gives_bind gives_num fun n m2 hn => gives_ok (by
    obtain ⟨rfl, hd⟩ := hd
    obtain ⟨rfl, hn⟩ := hn
    exact ⟨rfl, hd, hn⟩)
theorem g_window : Gives pWindow ClauseIn :=
  gives_bind g_area fun d m hd => gives_bind (gives_lit _) fun _ m2 h2 => gives_bind gives_num fun a m3 ha => gives_bind (gives_lit _) fun _ m4 h4 => gives_bind gives_num fun b m5 hb => gives_bind (gives_lit _) fun _ m6 h6 => gives_ok (by
    obtain ⟨d, i⟩ := d
    obtain ⟨rfl, hd, hi⟩ := hd
    obtain ⟨rfl, ha⟩ := ha
    obtain ⟨rfl, hb⟩ := hb
    subst h2 h4 h6
    exact ⟨.window d i a b 0 hd (num_ok_in hi) (num_ok_in ha) (num_ok_in hb), i64_in hi, i64_in ha, i64_in hb, by simp [Cl.names], by simp [clauseToks, Cl.kind], by simp [Cl.items]⟩)
theorem g_approve : Gives pApprove ClauseIn :=
  gives_bind g_area fun d m hd => gives_bind (gives_lit _) fun _ m2 h2 => gives_ok (by
    obtain ⟨d, i⟩ := d
    obtain ⟨rfl, hd, hi⟩ := hd
    subst h2
    exact ⟨.approve d i 0 hd (num_ok_in hi), i64_in hi, i64_0, i64_0, by simp [Cl.names], by simp [clauseToks, Cl.kind], by simp [Cl.items]⟩)
theorem g_blast : Gives (pCounted 4) ClauseIn :=
  gives_bind gives_num fun a m ha => gives_bind (gives_lit _) fun _ m2 h2 => gives_ok (by
    obtain ⟨rfl, ha⟩ := ha
    subst h2
    exact ⟨.blast a 0 (num_ok_in ha), i64_0, i64_in ha, i64_0, by simp [Cl.names], by simp [clauseToks, Cl.kind], by simp [Cl.items]⟩)
theorem g_cap : Gives pCap ClauseIn :=
  gives_bind (gives_lit _) fun _ m h1 => gives_bind gives_num fun i m2 hi => gives_bind (gives_lit _) fun _ m3 h3 => gives_bind gives_num fun a m4 ha => gives_bind (gives_lit _) fun _ m5 h5 => gives_ok (by
    obtain ⟨rfl, hi⟩ := hi
    obtain ⟨rfl, ha⟩ := ha
    subst h1 h3 h5
    exact ⟨.cap i a 0 (num_ok_in hi) (num_ok_in ha), i64_in hi, i64_in ha, i64_0, by simp [Cl.names], by simp [clauseToks, Cl.kind], by simp [Cl.items]⟩)
theorem flat_len {α : Type} (f : α → List Tok) : ∀ l : List α, (l.flatMap f).length = (l.map fun c => (f c).length).sum
  | [] => rfl
  | c :: l => by
    have := flat_len f l
    rw [List.flatMap_cons, List.length_append, List.map_cons, List.sum_cons, this]
theorem g_service : Gives pService ClauseIn :=
  gives_bind gives_name fun n m hn => gives_bind (gives_lit _) fun _ m2 h2 => gives_bind (gives_many (f := fun c => (itemToks c).length) g_item (fun c k h => h.2.2.2.2.2.1) takes_item) fun its m3 h3 => gives_bind (gives_lit _) fun _ m4 h4 => gives_ok (by
    obtain ⟨rfl, hn⟩ := hn
    obtain ⟨h3, rfl⟩ := h3
    subst h2 h4
    refine ⟨.service n its 0 hn.1 fun c hc => ?_, i64_0, i64_0, i64_0, by simpa [Cl.names] using hn.2, ?_, h3⟩
    · obtain ⟨m, h⟩ := h3 c hc
      exact h.1
    · have := flat_len itemToks its
      simp only [clauseToks, Cl.kind, Cl.names, Cl.items, List.length_cons, List.length_append, List.length_nil, if_true]
      omega)
theorem g_clause : Gives (pClause clauseTab) ClauseGot := gives_clause (Q := ClauseIn) (by
  intro x hx
  simp only [clauseTab, List.mem_cons, List.not_mem_nil, or_false] at hx
  rcases hx with rfl | rfl | rfl | rfl | rfl
  · exact g_service
  · exact g_window
  · exact g_approve
  · exact g_blast
  · exact g_cap) fun c k o h => clause_off_in h o
theorem g_text {l r : List Tok} {x : List Cl} (hv : AllV l) (h : pText l = .ok (x, r)) : (∀ c ∈ x, ∃ m, ClauseGot c m) ∧ (x.flatMap clauseToks).length ≤ l.length := by
  obtain ⟨-, k, h1, h2, h3⟩ := gives_many (f := fun c => (clauseToks c).length) g_clause (fun c k h => h.2.2.2.2.2.1) takes_cl l x r hv h
  refine ⟨h2, ?_⟩
  rw [flat_len]
  omega

theorem own_item {c : Cl} {k : Nat} (h : ItemGot c k) : c.own := ⟨h.2.1, h.2.2.1, h.2.2.2.1, fun n hn => by have := h.2.2.2.2.1 n hn; unfold maxLen; omega⟩
theorem own_clause {c : Cl} {k : Nat} (h : ClauseGot c k) : c.own2 := ⟨⟨h.2.1, h.2.2.1, h.2.2.2.1, fun n hn => by have := h.2.2.2.2.1 n hn; unfold maxLen; omega⟩, fun i hi => by
  obtain ⟨m, hm⟩ := h.2.2.2.2.2.2 i hi
  exact own_item hm⟩
theorem fit_num {n : Int} (h : NumOk n) : fitNumB n true = true := by
  unfold fitNumB
  rcases h with rfl | h
  · rfl
  · rw [h]; simp
theorem fit_nam {n : ByteArray} (h : NamOk n) : isNameB n = true := by unfold isNameB; rw [h.1, h.2]; rfl
theorem dom_ne {d : Int} (h : DomOk d) : ((scB d).toList != []) = true := by rw [bne_iff_ne]; exact h
theorem dom_0 : ((scB 0).toList != []) = false := by rw [ByteArray.toList_eq]; decide
theorem fit_0 (b : Bool) : fitNumB 0 b = true := by unfold fitNumB; simp
theorem min_0 : decide (min (1 : Int) 0 ≤ 0) = true := by decide
theorem min_m (k : Nat) : min (1 : Int) 9223372036854775807 ≤ (k : Int) + 1 := by omega
theorem item_b {c : Cl} (h : ItemIs c) (hl : (itemToks c).length ≤ 10000) (hi : c.items = []) : itemB c = true := by
  cases h with
  | num k a o hk ha =>
    rcases hk with rfl | rfl | rfl | rfl <;> (simp [itemB, itemSh, assocI, fitsB, Cl.kind, Cl.names, Cl.dom, Cl.idx, Cl.a, Cl.b, Cl.items, dom_0, fit_num ha, fit_0]; exact decide_eq_true (by omega))
  | spread d a o hd ha => (simp [itemB, itemSh, assocI, fitsB, Cl.kind, Cl.names, Cl.dom, Cl.idx, Cl.a, Cl.b, Cl.items, dom_ne hd, fit_num ha, fit_0]; exact decide_eq_true (by omega))
  | apart n ns o hn hns =>
    have h1 : (ns.all isNameB) = true := List.all_eq_true.2 fun x hx => fit_nam (hns x hx)
    have h2 := sep_len ns
    have h3 : (ns.map fun _ => 2).sum = 2 * ns.length := by
      clear h1 h2 hl hns hi
      induction ns with
      | nil => rfl
      | cons a l ih => rw [List.map_cons, List.sum_cons, ih, List.length_cons]; omega
    have h4 : ((ns.length : Int) + 1 ≤ 9223372036854775807) := by
      simp only [itemToks, Cl.kind, Cl.names, List.length_cons, List.length_append, List.length_nil, if_true, if_false, Int.reduceEq] at hl
      omega
    have h5 : (1 : Int) ≤ (ns.length : Int) + 1 := by omega
    have h6 : min (1 : Int) 9223372036854775807 = 1 := by decide
    simp [itemB, itemSh, assocI, fitsB, Cl.kind, Cl.names, Cl.dom, Cl.idx, Cl.a, Cl.b, Cl.items, dom_0, fit_0, fit_nam hn]
    exact ⟨decide_eq_true h4, decide_eq_true (min_m ns.length), fun x hx => fit_nam (hns x hx)⟩
  | near n a o hn ha => simp [itemB, itemSh, assocI, fitsB, Cl.kind, Cl.names, Cl.dom, Cl.idx, Cl.a, Cl.b, Cl.items, dom_0, fit_num ha, fit_0, fit_nam hn]
theorem clause_b {c : Cl} (h : ClauseIs c) (hl : (clauseToks c).length ≤ 10000) (hi : ∀ i ∈ c.items, ∃ m, ItemGot i m) : clauseB c = true := by
  cases h with
  | service n its o hn his =>
    have h1 : its.all itemB = true := List.all_eq_true.2 fun x hx => by
      obtain ⟨m, hm⟩ := hi x hx
      refine item_b hm.1 ?_ hm.2.2.2.2.2.2
      have h2 : (itemToks x).length ≤ (its.flatMap itemToks).length := by
        obtain ⟨a, b, rfl⟩ := List.append_of_mem hx
        simp only [List.flatMap_append, List.flatMap_cons, List.length_append]
        omega
      simp only [clauseToks, Cl.kind, Cl.names, Cl.items, List.length_cons, List.length_append, List.length_nil, if_true] at hl
      omega
    simp only [clauseB, clauseSh, assocI, fitsB, Cl.kind, Cl.names, Cl.dom, Cl.idx, Cl.a, Cl.b, Cl.items, if_true, dom_0, fit_0, h1]
    simp [fit_nam hn]
  | window d i a b o hd hi' ha hb => (simp [clauseB, clauseSh, assocI, fitsB, Cl.kind, Cl.names, Cl.dom, Cl.idx, Cl.a, Cl.b, Cl.items, dom_ne hd, fit_num ha, fit_num hi', fit_num hb]; exact decide_eq_true (by omega))
  | approve d i o hd hi' => (simp [clauseB, clauseSh, assocI, fitsB, Cl.kind, Cl.names, Cl.dom, Cl.idx, Cl.a, Cl.b, Cl.items, dom_ne hd, fit_num hi', fit_0]; exact decide_eq_true (by omega))
  | blast a o ha => (simp [clauseB, clauseSh, assocI, fitsB, Cl.kind, Cl.names, Cl.dom, Cl.idx, Cl.a, Cl.b, Cl.items, dom_0, fit_num ha, fit_0]; exact decide_eq_true (by omega))
  | cap i a o hi' ha => (simp [clauseB, clauseSh, assocI, fitsB, Cl.kind, Cl.names, Cl.dom, Cl.idx, Cl.a, Cl.b, Cl.items, dom_0, fit_num ha, fit_num hi', fit_0]; exact decide_eq_true (by omega))
/-- What a text's tokens are read as is well formed. -/
theorem text_good {l r : List Tok} {x : List Cl} (hv : AllV l) (hl : l.length ≤ 5000) (h : pText l = .ok (x, r)) : formedB x = true ∧ (∀ c ∈ x, c.own2) ∧ (x.flatMap clauseToks).length ≤ 5000 := by
  obtain ⟨h1, h2⟩ := g_text hv h
  refine ⟨List.all_eq_true.2 fun c hc => ?_, fun c hc => by obtain ⟨m, hm⟩ := h1 c hc; exact own_clause hm, by omega⟩
  obtain ⟨m, hm⟩ := h1 c hc
  refine clause_b hm.1 ?_ hm.2.2.2.2.2.2
  have h3 : (clauseToks c).length ≤ (x.flatMap clauseToks).length := by
    obtain ⟨a, b, rfl⟩ := List.append_of_mem hc
    simp only [List.flatMap_append, List.flatMap_cons, List.length_append]
    omega
  omega
end Go.Proofs.YtplnnpkohdmiaaaGreatDoor

/- DERIVED. Plain: what Parse returns is printed, and read back as the same tree. -/
namespace Go.Proofs.YtplnnpkohdmiaaaGreatDoor
open Go.RowKit

theorem sameL_off : ∀ l m : List Tok, sameL l m = true → m.map (hT zO) = l.map (hT zO)
  | [], [], _ => rfl
  | [], _ :: _, h => by cases h
  | _ :: _, [], h => by cases h
  | a :: l, b :: m, h => by
    simp only [sameL, Bool.and_eq_true] at h
    obtain ⟨h1, h2⟩ := h
    rw [List.map_cons, List.map_cons, sameL_off l m h2]
    congr 1
    unfold sameT at h1
    simp only [Bool.and_eq_true, beq_iff_eq] at h1
    obtain ⟨e1, e2, e3⟩ := h1
    rw [ByteArray.toList_eq, ByteArray.toList_eq] at e2
    have e2' := bs_inj e2
    obtain ⟨ak, at_, an, ao⟩ := a
    obtain ⟨bk, bt_, bn, bo⟩ := b
    dsimp only at e1 e2' e3
    subst e1 e2' e3
    rfl
mutual
theorem mo_idem : ∀ c : Cl, (Cl.mo zO c).mo zO = c.mo zO
  | .mk k n d i a b its o => by
    simp only [Cl.mo, mos_idem its]
    rfl
theorem mos_idem : ∀ l : List Cl, mos zO (mos zO l) = mos zO l
  | [] => by simp only [mos]
  | c :: l => by simp only [mos, mo_idem c, mos_idem l]
end
theorem itemToks_mo (g : Int → Int) (c : Cl) : itemToks (c.mo g) = itemToks c := by
  obtain ⟨k, n, d, i, a, b, its, o⟩ := c
  simp only [Cl.mo]
  rfl
theorem items_mo (g : Int → Int) : ∀ l : List Cl, (mos g l).flatMap itemToks = l.flatMap itemToks
  | [] => by simp only [mos]
  | c :: l => by simp only [mos, List.flatMap_cons, itemToks_mo, items_mo g l]
theorem clauseToks_mo (g : Int → Int) (c : Cl) : clauseToks (c.mo g) = clauseToks c := by
  obtain ⟨k, n, d, i, a, b, its, o⟩ := c
  simp only [Cl.mo]
  unfold clauseToks
  simp only [Cl.kind, Cl.names, Cl.dom, Cl.idx, Cl.a, Cl.b, Cl.items, items_mo]
  cases n <;> rfl
theorem flat_mo (g : Int → Int) : ∀ l : List Cl, (mos g l).flatMap clauseToks = l.flatMap clauseToks
  | [] => by simp only [mos]
  | c :: l => by simp only [mos, List.flatMap_cons, clauseToks_mo, flat_mo g l]

theorem print_cases {l : List Cl} (h : formedB l = true) : printB l = (⟨#[]⟩, 3) ∨ (printB l = (joinB (l.flatMap clauseToks), 0) ∧ (joinB (l.flatMap clauseToks)).size ≤ 4096) := by
  have hv : (l.flatMap clauseToks).all validT = true := List.all_eq_true.2 (text_valid (formed_is h))
  unfold printB printOf
  rw [if_pos h, if_pos hv]
  by_cases h4 : 4096 < (joinB (l.flatMap clauseToks)).size
  · rw [if_pos h4]; exact Or.inl rfl
  · rw [if_neg h4]; exact Or.inr ⟨rfl, by omega⟩

theorem back {l : List Cl} (h : formedB l = true) (h4 : (joinB (l.flatMap clauseToks)).size ≤ 4096) :
    ∃ m, parseOf (joinB (l.flatMap clauseToks)) = (m, 0, 0) ∧ formedB m = true ∧ (∀ c ∈ m, c.own2) ∧ (m.flatMap clauseToks).length ≤ 5000 ∧ sames l m = true ∧ m.flatMap clauseToks = l.flatMap clauseToks := by
  obtain ⟨mt, h1, h2⟩ := print_back (l.flatMap clauseToks) (text_valid (formed_is h)) h4
  have hv : AllV mt := by
    rcases toks_cases (joinB (l.flatMap clauseToks)) with ⟨l', hA, -, -, hv, -⟩ | ⟨at_, er, hA, her, -, -⟩
    · rw [h1] at hA; cases hA; exact hv
    · rw [h1] at hA; cases hA; exact absurd rfl her
  have hln := toksOf_len (joinB (l.flatMap clauseToks))
  rw [h1] at hln
  have e1 := moves_text zO mt
  have e2 := moves_text zO (l.flatMap clauseToks)
  rw [sameL_off _ _ h2] at e1
  rw [e1, read_text l (formed_is h)] at e2
  cases e : pText mt with
  | error r => rw [e] at e2; cases e2
  | ok y =>
    obtain ⟨m, r⟩ := y
    rw [e] at e2
    simp only [mapRd, Except.ok.injEq, Prod.mk.injEq] at e2
    obtain ⟨e3, -⟩ := e2
    rw [← mos_map, ← mos_map, ← mos_map, mos_idem] at e3
    obtain ⟨g1, g2, g3⟩ := text_good hv hln e
    refine ⟨m, ?_, g1, g2, g3, sames_of _ _ e3.symm, ?_⟩
    · have hp : parseOf (joinB (l.flatMap clauseToks)) = parseL (joinB (l.flatMap clauseToks)).size mt := by unfold parseOf; rw [h1]; rfl
      rw [hp]; unfold parseL; rw [e]
    · rw [← flat_mo zO m, e3, flat_mo]

theorem fixed_cases (s : ByteArray) :
    ((parseOf s).2.2 ≠ 0 ∧ (parseOf s).1 = [] ∧ 0 ≤ (parseOf s).2.1 ∧ (parseOf s).2.1 ≤ max (s.size : Int) 4096) ∨
    (∃ l, parseOf s = (l, 0, 0) ∧ formedB l = true ∧ (∀ c ∈ l, c.own2) ∧ (l.flatMap clauseToks).length ≤ 5000 ∧
      (printB l = (⟨#[]⟩, 3) ∨ ∃ t m, printB l = (t, 0) ∧ t.size ≤ 4096 ∧ parseOf t = (m, 0, 0) ∧ (∀ c ∈ m, c.own2) ∧ (m.flatMap clauseToks).length ≤ 5000 ∧ sames l m = true ∧ printB m = (t, 0))) := by
  have hln := toksOf_len s
  rcases toks_cases s with ⟨l, hA, h4, hal, hv, -⟩ | ⟨at_, er, hA, her, h0, h1⟩
  · rw [hA] at hln
    have hp : parseOf s = parseL s.size l := by unfold parseOf; rw [hA]; rfl
    rw [hp]
    cases e : pText l with
    | error r =>
      have hq : parseL s.size l = ([], offOf s.size r, 4) := by unfold parseL; rw [e]
      rw [hq]
      refine Or.inl ⟨(by dsimp only; decide), rfl, ?_⟩
      obtain ⟨pre, el, -⟩ := (look_text l).2 r e
      cases r with
      | nil => simp only [offOf]; omega
      | cons t r =>
        have := al_off _ _ _ (Nat.le_refl _) (t, 0) (by rw [hal, el]; exact List.mem_map.2 ⟨t, by simp, rfl⟩)
        rw [bt_len] at this
        simp only [offOf]
        dsimp only at this
        omega
    | ok y =>
      obtain ⟨x, r⟩ := y
      have hq : parseL s.size l = (x, 0, 0) := by unfold parseL; rw [e]
      rw [hq]
      obtain ⟨g1, g2, g3⟩ := text_good hv hln e
      refine Or.inr ⟨x, rfl, g1, g2, g3, ?_⟩
      rcases print_cases g1 with h | ⟨h, h5⟩
      · exact Or.inl h
      · obtain ⟨m, k1, k2, k3, k4, k5, k6⟩ := back g1 h5
        refine Or.inr ⟨_, m, h, h5, k1, k3, k4, k5, ?_⟩
        rcases print_cases k2 with h' | ⟨h', h6⟩
        · exfalso
          unfold printB printOf at h'
          rw [if_pos k2, if_pos (List.all_eq_true.2 (text_valid (formed_is k2))), k6, if_neg (by omega)] at h'
          simp at h'
        · rw [h', k6]
  · have hp : parseOf s = ([], at_, er) := by unfold parseOf; rw [hA]; simp [her]
    rw [hp]
    exact Or.inl ⟨her, rfl, h0, h1⟩
end Go.Proofs.YtplnnpkohdmiaaaGreatDoor
