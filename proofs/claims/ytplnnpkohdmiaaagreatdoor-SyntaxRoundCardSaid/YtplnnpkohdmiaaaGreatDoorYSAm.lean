/-
  DERIVED. Several texts in one.
-/
import Derived.Test.YtplnnpkohdmiaaaGreatDoorYFAm
import Derived.BigQuiet
import Derived.Test.YtplnnpkohdmiaaaGreatDoorYCAm
import Derived.Test.YtplnnpkohdmiaaaGreatDoorYPMm
set_option linter.unusedVariables false
set_option linter.unusedSimpArgs false

/- DERIVED. Trees in later worlds; slices.Equal over strings; the landed Same. -/
namespace Go.Proofs.YtplnnpkohdmiaaaGreatDoor
open Go.RowKit
set_option maxRecDepth 100000

mutual
theorem Cl.agg_real {w : World} {ok : Nat → Prop} : ∀ (c : Cl) (us : List Value), Cl.agg w ok c us → Cl.agg w (fun b => ok b ∧ b < w.heap.size) c us
  | .mk k ns d i a b its off, us, h => by
    simp only [Cl.agg] at h ⊢
    obtain ⟨vn, A, c, h1, h2, h3, h4, h5⟩ := h
    refine ⟨vn, A, c, h1, ?_, h3, h4, fun hl => ?_⟩
    · obtain ⟨A', c', g1, g2, g3, g4⟩ := h2
      refine ⟨A', c', g1, g2, g3, fun hl => ?_⟩
      obtain ⟨b, o, e, hb, hc⟩ := g4 hl
      exact ⟨b, o, e, ⟨hb, cell_lt' (hc 0 _ (List.getElem?_eq_getElem hl))⟩, hc⟩
    · obtain ⟨bl, o, e, hb, hr⟩ := h5 hl
      exact ⟨bl, o, e, ⟨hb, reps_lt its bl o hl hr⟩, reps_real its bl o hr⟩
theorem reps_lt {w : World} {ok : Nat → Prop} : ∀ (l : List Cl) (b o : Nat), 0 < l.length → reps w ok l b o → b < w.heap.size
  | [], _, _, h, _ => absurd h (by decide)
  | c :: l, b, o, _, h => by
    simp only [reps] at h
    obtain ⟨⟨us, h1, h2⟩, _⟩ := h
    obtain ⟨vn, vi, rfl, _⟩ := (Cl.agg_iff _ _ _ _).1 h1
    exact cell_lt' (h2 0 _ rfl)
theorem reps_real {w : World} {ok : Nat → Prop} : ∀ (l : List Cl) (b o : Nat), reps w ok l b o → reps w (fun b => ok b ∧ b < w.heap.size) l b o
  | [], _, _, _ => by simp only [reps]
  | c :: l, b, o, h => by
    simp only [reps] at h ⊢
    obtain ⟨⟨us, h1, h2⟩, h3⟩ := h
    exact ⟨⟨us, Cl.agg_real c us h1, h2⟩, reps_real l b (o + 8) h3⟩
end
theorem ClSl.below {w w' : World} {ok : Nat → Prop} {v : Value} {l : List Cl} (h : ClSl w ok v l) (hb : Below w.heap.size w w') : ClSl w' ok v l := by
  obtain ⟨A, c, h1, h2, h3, h4⟩ := h
  refine ⟨A, c, h1, h2, h3, fun hl => ?_⟩
  obtain ⟨b, o, e, hok, hr⟩ := h4 hl
  exact ⟨b, o, e, hok, reps_stand (ok := fun b => ok b ∧ b < w.heap.size) (fun b hb' => ⟨hb'.1, hb.block b hb'.2⟩) l b o ⟨hok, reps_lt l b o hl hr⟩ (reps_real l b o hr)⟩

def eqS : List ByteArray → List ByteArray → Bool
  | [], [] => true
  | a :: l, b :: m => (a.toList == b.toList) && eqS l m
  | _, _ => false
theorem eqS_len : ∀ (l m : List ByteArray), l.length ≠ m.length → eqS l m = false
  | [], [] => fun h => absurd rfl h
  | a :: l, b :: m => fun h => by rw [eqS, eqS_len l m (fun e => h (by simp [e])), Bool.and_false]
  | [], _ :: _ => fun _ => rfl
  | _ :: _, [] => fun _ => rfl
theorem eqS_drop (l m : List ByteArray) (k : Nat) (h1 : k < l.length) (h2 : k < m.length) : eqS (l.drop k) (m.drop k) = ((l[k].toList == m[k].toList) && eqS (l.drop (k + 1)) (m.drop (k + 1))) := by
  rw [List.drop_eq_getElem_cons h1, List.drop_eq_getElem_cons h2]; rfl
/-- Between two rounds of slices.Equal. -/
def EqRel (bv : Bool) (l m : List ByteArray) (w : World) (i : Value) (wr : World) : Prop :=
  ∃ k : Nat, k ≤ l.length ∧ i = .int .i64 k ∧ bv = eqS (l.drop k) (m.drop k) ∧ ∃ n, wr = w.drewN n

set_option maxHeartbeats 2000000 in
theorem c_slEqual (a b : Value) (l m : List ByteArray) (w : World) (ok ok' : Nat → Prop) (ha : StrSl w ok a l) (hb : StrSl w ok' b m) :
    Calls Tryz.prog 27 #[a, b] w fun e w' => e = .returned (.bool (eqS l m)) ∧ ∃ n, w' = w.drewN n := by
  obtain ⟨A, c, rfl, h2, h3, -⟩ := id ha
  obtain ⟨A', c', rfl, h2', h3', -⟩ := id hb
  unfold maxLen at h3 h3'
  have Ha := Lib.hid ha
  have Hb := Lib.hid hb
  clear ha hb
  by_cases hlen : l.length = m.length
  · have hl : (((l.length : Nat) : Int) != (m.length : Int)) = false := by rw [bne_eq_false_iff_eq]; omega
    have Hlen := Lib.hid hlen
    clear hlen
    obtain ⟨bv, hbv⟩ : ∃ b, b = eqS l m := ⟨_, rfl⟩
    rw [← hbv]
    go_enter Tryz.func27, Tryz.ntmps27
    go_wp2
    go_loopw [13] (fun i wr => EqRel bv l m w i wr) (fun i wr => l.length - (intOf i).toNat)
    case atStart => exact ⟨0, Nat.zero_le _, rfl, by rw [hbv]; rfl, 0, rfl⟩
    case round =>
      obtain ⟨k, hk, rfl, hbk, n, rfl⟩ := hrel
      clear hbv
      by_cases hlt : k < l.length
      · have hlt2 : k < m.length := by have := Hlen.out; omega
        obtain ⟨b1, o1, c1, e1, -, -, g0⟩ := Ha.out.at_ hlt
        obtain ⟨b2, o2, c2, e2, -, -, q0⟩ := Hb.out.at_ hlt2
        injection e1 with e1 _ e1'
        injection e2 with e2 _ e2'
        subst e1 e2 e1' e2'
        have hsd := eqS_drop l m k hlt hlt2
        rw [hsd] at hbk
        clear hsd
        have Hbk := Lib.hid hbk
        clear hbk
        generalize l[k] = ta at g0 Hbk
        generalize m[k] = tb at q0 Hbk
        by_cases d1 : ta.toList = tb.toList
        · have b1' : (ta.toList != tb.toList) = false := by rw [bne_eq_false_iff_eq]; exact d1
          have b1'' : (ta.toList == tb.toList) = true := by rw [beq_iff_eq]; exact d1
          have D1 := Lib.hid d1
          clear d1
          go_wp2
          go_quiet (fail)
          go_wp2
          exact ⟨⟨k + 1, by omega, by go_num, by rw [Hbk.out]; simp [D1.out], n + nq, rfl⟩, by simp [intOf]; omega⟩
        · have b1' : (ta.toList != tb.toList) = true := by rw [bne_iff_ne]; exact d1
          have b1'' : (ta.toList == tb.toList) = false := by rw [beq_eq_false_iff_ne]; exact d1
          have D1 := Lib.hid d1
          clear d1
          go_wp2
          go_quiet (fail)
          go_wp2
          go_ret
          exact ⟨ret_bool (by rw [Hbk.out]; simp [D1.out]), n + nq, by rw [World.drewN_drewN]⟩
      · have hb2 : bv = true := by
          rw [hbk, List.drop_of_length_le (by omega), List.drop_of_length_le (by have := Hlen.out; omega)]; rfl
        have Hb2 := Lib.hid hb2
        clear hb2 hbk
        go_wp2
        go_ret
        exact ⟨ret_bool Hb2.out.symm, n, rfl⟩
  · have hl : (((l.length : Nat) : Int) != (m.length : Int)) = true := by rw [bne_iff_ne]; omega
    rw [eqS_len l m hlen]
    clear hlen
    go_enter Tryz.func27, Tryz.ntmps27
    go_wp2
    go_ret
    exact ⟨rfl, 0, rfl⟩

mutual
/-- Whether two clauses are equal but for their offsets. -/
def Cl.same : Cl → Cl → Bool
  | .mk k ns d i a b its _, c => (k == c.kind) && (eqS ns c.names && ((d == c.dom) && ((i == c.idx) && ((a == c.a) && ((b == c.b) && sames its c.items)))))
def sames : List Cl → List Cl → Bool
  | [], [] => true
  | c :: l, d :: m => c.same d && sames l m
  | _, _ => false
end
theorem Cl.same_eq (c d : Cl) : c.same d = ((c.kind == d.kind) && (eqS c.names d.names && ((c.dom == d.dom) && ((c.idx == d.idx) && ((c.a == d.a) && ((c.b == d.b) && sames c.items d.items)))))) := by
  cases c; simp only [Cl.same, Cl.kind, Cl.names, Cl.dom, Cl.idx, Cl.a, Cl.b, Cl.items]
theorem sames_len : ∀ (l m : List Cl), l.length ≠ m.length → sames l m = false
  | [], [], h => absurd rfl h
  | a :: l, b :: m, h => by rw [sames, sames_len l m (fun e => h (by simp [e])), Bool.and_false]
  | [], _ :: _, _ => by simp only [sames]
  | _ :: _, [], _ => by simp only [sames]
theorem sames_drop (l m : List Cl) (k : Nat) (h1 : k < l.length) (h2 : k < m.length) : sames (l.drop k) (m.drop k) = (l[k].same m[k] && sames (l.drop (k + 1)) (m.drop (k + 1))) := by
  rw [List.drop_eq_getElem_cons h1, List.drop_eq_getElem_cons h2]; simp only [sames]
end Go.Proofs.YtplnnpkohdmiaaaGreatDoor

/- DERIVED. Plain: offsets do not matter to readers. -/
namespace Go.Proofs.YtplnnpkohdmiaaaGreatDoor
open Go.RowKit

def hT (g : Int → Int) (t : Tok) : Tok := { t with off := g t.off }
mutual
/-- The clause with other offsets. -/
def Cl.mo (g : Int → Int) : Cl → Cl
  | .mk k n d i a b its o => .mk k n d i a b (mos g its) (g o)
def mos (g : Int → Int) : List Cl → List Cl
  | [] => []
  | c :: l => Cl.mo g c :: mos g l
end
def Cl.mi (g : Int → Int) : Cl → Cl
  | .mk k n d i a b its o => .mk k n d i a b (mos g its) o
theorem mos_map (g : Int → Int) : ∀ l, mos g l = l.map (Cl.mo g)
  | [] => by simp only [mos, List.map_nil]
  | c :: l => by simp only [mos, List.map_cons, mos_map g l]
def mapRd {α : Type} (g : Int → Int) (φ : α → α) : Rd α → Rd α
  | .ok (x, r) => .ok (φ x, r.map (hT g))
  | .error r => .error (r.map (hT g))
/-- Other offsets in, other offsets out. -/
def Moves {α : Type} (g : Int → Int) (φ : α → α) (p : List Tok → Rd α) : Prop := ∀ l, p (l.map (hT g)) = mapRd g φ (p l)

theorem moves_next {g : Int → Int} {f : Tok → Bool} (hf : ∀ t, f (hT g t) = f t) : Moves g (hT g) (pNext f) := by
  intro l
  cases l with
  | nil => rfl
  | cons t l =>
    simp only [List.map_cons, pNext, hf]
    split <;> rfl
theorem moves_bind {α β : Type} {g : Int → Int} {p : List Tok → Rd α} {f : α → List Tok → Rd β} {φ : α → α} {ψ : β → β} (hp : Moves g φ p) (hf : ∀ a l, f (φ a) (l.map (hT g)) = mapRd g ψ (f a l)) :
    Moves g ψ (fun l => bindR (p l) f) := by
  intro l
  simp only
  rw [hp l]
  cases p l with
  | error r => rfl
  | ok x => exact hf x.1 x.2
theorem moves_bind2 {α β : Type} {g : Int → Int} {p : List Tok → Rd α} {f f' : α → List Tok → Rd β} {φ : α → α} {ψ : β → β} (hp : Moves g φ p) (hf : ∀ a l, f' (φ a) (l.map (hT g)) = mapRd g ψ (f a l)) :
    ∀ l, bindR (p (l.map (hT g))) f' = mapRd g ψ (bindR (p l) f) := by
  intro l
  rw [hp l]
  cases p l with
  | error r => rfl
  | ok x => exact hf x.1 x.2
theorem moves_many {α : Type} {g : Int → Int} {stop : List Tok → Bool} {p : List Tok → Rd α} {φ : α → α} (hs : ∀ l, stop (l.map (hT g)) = stop l) (hp : Moves g φ p) (ht : Takes p) : Moves g (List.map φ) (pMany stop p) := by
  suffices H : ∀ (n : Nat) (l : List Tok), l.length ≤ n → pMany stop p (l.map (hT g)) = mapRd g (List.map φ) (pMany stop p l) from fun l => H l.length l (Nat.le_refl _)
  intro n
  induction n with
  | zero =>
    intro l hl
    have : l = [] := List.eq_nil_of_length_eq_zero (by omega)
    subst this
    rw [List.map_nil, pMany_eq ht]
    by_cases hst : stop [] = true
    · rw [if_pos hst]; rfl
    · rw [if_neg hst]
      cases e : p [] with
      | error r => 
        have := hp []
        rw [List.map_nil, e] at this
        simp only [mapRd] at this
        injection this with this
        simp only [bindR, mapRd]
        rw [← this]
      | ok x => have := ht [] x.1 x.2 e; simp at this
  | succ n ih =>
    intro l hl
    rw [pMany_eq ht, pMany_eq ht l, hs]
    by_cases hst : stop l = true
    · rw [if_pos hst, if_pos hst]; rfl
    · rw [if_neg hst, if_neg hst, hp l]
      cases e : p l with
      | error r => rfl
      | ok x =>
        obtain ⟨x, r⟩ := x
        have := ht _ _ _ e
        simp only [mapRd, bindR]
        rw [ih r (by omega)]
        cases pMany stop p r with
        | error r => rfl
        | ok y => rfl

theorem moves_lit (g : Int → Int) (s : ByteArray) : Moves g id (pLit s) := moves_bind (moves_next fun t => rfl) fun a l => rfl
theorem moves_name (g : Int → Int) : Moves g id pName := moves_bind (moves_next fun t => rfl) fun a l => rfl
theorem moves_num (g : Int → Int) : Moves g id pNum := moves_bind (moves_next fun t => rfl) fun a l => rfl
theorem moves_scope (g : Int → Int) : Moves g id pScope := moves_bind (moves_next fun t => rfl) fun a l => rfl
theorem moves_area (g : Int → Int) : Moves g id pArea := moves_bind (moves_scope g) fun d => moves_bind (moves_num g) fun n l => rfl
theorem moves_counted (g : Int → Int) (k : Int) : Moves g (Cl.mi g) (pCounted k) := moves_bind (moves_num g) fun a => moves_bind (moves_lit g _) fun _ l => by simp only [mapRd, Cl.mi, mos, id]
theorem moves_window (g : Int → Int) : Moves g (Cl.mi g) pWindow := moves_bind (moves_area g) fun d => moves_bind (moves_lit g _) fun _ => moves_bind (moves_num g) fun a => moves_bind (moves_lit g _) fun _ => moves_bind (moves_num g) fun b => moves_bind (moves_lit g _) fun _ l => by simp only [mapRd, Cl.mi, mos, id]
theorem moves_approve (g : Int → Int) : Moves g (Cl.mi g) pApprove := moves_bind (moves_area g) fun d => moves_bind (moves_lit g _) fun _ l => by simp only [mapRd, Cl.mi, mos, id]
theorem moves_cap (g : Int → Int) : Moves g (Cl.mi g) pCap := moves_bind (moves_lit g _) fun _ => moves_bind (moves_num g) fun i => moves_bind (moves_lit g _) fun _ => moves_bind (moves_num g) fun a => moves_bind (moves_lit g _) fun _ l => by simp only [mapRd, Cl.mi, mos, id]
theorem moves_spread (g : Int → Int) : Moves g (Cl.mi g) pSpread := moves_bind (moves_num g) fun a => moves_bind (moves_lit g _) fun _ => moves_bind (moves_scope g) fun d => moves_bind (moves_lit g _) fun _ l => by simp only [mapRd, Cl.mi, mos, id]
theorem moves_other (g : Int → Int) : Moves g id pOther := moves_bind (moves_lit g _) fun _ => moves_name g
theorem front_mo (g : Int → Int) (s : ByteArray) (l : List Tok) : frontIs s (l.map (hT g)) = frontIs s l := by cases l <;> rfl
theorem moves_apart (g : Int → Int) : Moves g (Cl.mi g) pApart := moves_bind (moves_name g) fun n => moves_bind (moves_many (fun l => by rw [front_mo]) (moves_other g) takes_other) fun ns => moves_bind2 (moves_lit g _) fun _ l => by simp only [mapRd, Cl.mi, mos, id, List.map_id]
theorem moves_near (g : Int → Int) : Moves g (Cl.mi g) pNear := moves_bind (moves_name g) fun n => moves_bind (moves_lit g _) fun _ => moves_bind (moves_num g) fun a => moves_bind (moves_lit g _) fun _ l => by simp only [mapRd, Cl.mi, mos, id]
theorem moves_clause {g : Int → Int} {tab : List (ByteArray × (List Tok → Rd Cl))} (h : ∀ x ∈ tab, Moves g (Cl.mi g) x.2) : Moves g (Cl.mo g) (pClause tab) := by
  refine moves_bind (moves_next fun t => rfl) fun t => ?_
  cases e : assocB t.text tab with
  | none =>
    intro l
    simp only [hT, e, Option.getD]
    rfl
  | some p =>
    obtain ⟨k, hk⟩ := assocB_mem e
    simp only [hT, e, Option.getD]
    refine moves_bind2 (h _ hk) fun c l => ?_
    simp only [mapRd, Cl.withOff]
    cases c with
    | mk k n d i a b its o => simp only [Cl.mi, Cl.mo, Cl.kind, Cl.names, Cl.dom, Cl.idx, Cl.a, Cl.b, Cl.items]
theorem moves_item (g : Int → Int) : Moves g (Cl.mo g) pItem := moves_clause (by
  intro x hx
  simp only [itemTab, List.mem_cons, List.not_mem_nil, or_false] at hx
  rcases hx with rfl | rfl | rfl | rfl | rfl | rfl | rfl
  · exact moves_counted _ _
  · exact moves_counted _ _
  · exact moves_counted _ _
  · exact moves_spread _
  · exact moves_apart _
  · exact moves_near _
  · exact moves_counted _ _)
theorem moves_service (g : Int → Int) : Moves g (Cl.mi g) pService := moves_bind (moves_name g) fun n => moves_bind (moves_lit g _) fun _ => moves_bind (moves_many (fun l => front_mo g _ l) (moves_item g) takes_item) fun its => moves_bind2 (moves_lit g _) fun _ l => by simp only [mapRd, Cl.mi, mos_map, id]
theorem moves_cl (g : Int → Int) : Moves g (Cl.mo g) (pClause clauseTab) := moves_clause (by
  intro x hx
  simp only [clauseTab, List.mem_cons, List.not_mem_nil, or_false] at hx
  rcases hx with rfl | rfl | rfl | rfl | rfl
  · exact moves_service _
  · exact moves_window _
  · exact moves_approve _
  · exact moves_counted _ _
  · exact moves_cap _)
theorem moves_text (g : Int → Int) : Moves g (List.map (Cl.mo g)) pText := moves_many (fun l => by cases l <;> rfl) (moves_cl g) takes_cl

def zO : Int → Int := fun _ => 0
theorem eqS_refl : ∀ l, eqS l l = true
  | [] => rfl
  | a :: l => by simp [eqS, eqS_refl l]
mutual
theorem Cl.same_of : ∀ (c d : Cl), c.mo zO = d.mo zO → c.same d = true
  | .mk k n d i a b its o, .mk k' n' d' i' a' b' its' o', h => by
    simp only [Cl.mo] at h
    injection h with h1 h2 h3 h4 h5 h6 h7 h8
    subst h1 h2 h3 h4 h5 h6
    simp only [Cl.same, Cl.kind, Cl.names, Cl.dom, Cl.idx, Cl.a, Cl.b, Cl.items, eqS_refl, sames_of its its' h7, beq_self_eq_true, Bool.and_true]
theorem sames_of : ∀ (l m : List Cl), mos zO l = mos zO m → sames l m = true
  | [], [], _ => by simp only [sames]
  | c :: l, d :: m, h => by
    simp only [mos] at h
    injection h with h1 h2
    simp only [sames, Cl.same_of c d h1, sames_of l m h2, Bool.and_true]
  | [], d :: m, h => by simp only [mos] at h; cases h
  | c :: l, [], h => by simp only [mos] at h; cases h
end
end Go.Proofs.YtplnnpkohdmiaaaGreatDoor

/- DERIVED. The landed Same. -/
namespace Go.Proofs.YtplnnpkohdmiaaaGreatDoor
open Go.RowKit
set_option maxRecDepth 100000

theorem below_drewN (n : Nat) (w : World) (N : Nat) : Below N w (w.drewN n) := ⟨rfl, rfl, rfl, Nat.le_refl _, fun _ _ => rfl⟩

set_option maxHeartbeats 4000000 in
theorem c_Same1 (c d : Cl) (vn vi un ui : Value) (okc okd : Nat → Prop) (w : World) (hn : StrSl w okc vn c.names) (hm : StrSl w okd un d.names) (hi : ClSl w okc vi c.items) (hj : ClSl w okd ui d.items)
    (hS : ∀ W, Below w.heap.size w W → Calls Tryz.prog 11 #[vi, ui] W fun e w' => e = .returned (.bool (sames c.items d.items)) ∧ Below W.heap.size W w') :
    Calls Tryz.prog 26 #[.agg #[.int .u8 c.kind, vn, .int .u8 c.dom, .int .i64 c.idx, .int .i64 c.a, .int .i64 c.b, vi, .int .i64 c.off], .agg #[.int .u8 d.kind, un, .int .u8 d.dom, .int .i64 d.idx, .int .i64 d.a, .int .i64 d.b, ui, .int .i64 d.off]] w fun e w' => e = .returned (.bool (c.same d)) ∧ Below w.heap.size w w' := by
  obtain ⟨A1, p1, rfl, -⟩ := id hn
  obtain ⟨A2, p2, rfl, -⟩ := id hi
  obtain ⟨A3, p3, rfl, -⟩ := id hm
  obtain ⟨A4, p4, rfl, -⟩ := id hj
  rw [Cl.same_eq]
  have hE := fun W (hb : Below w.heap.size w W) => c_slEqual _ _ c.names d.names W okc okd (hn.below hb) (hm.below hb)
  have HE := Lib.hid hE
  have HS := Lib.hid hS
  have HB := Lib.hid (((Below.refl w.heap.size w).alloc (Nat.le_refl _) (.cells #[.int .u8 c.kind, .slice A1 c.names.length p1, .int .u8 c.dom, .int .i64 c.idx, .int .i64 c.a, .int .i64 c.b, .slice A2 c.items.length p2, .int .i64 c.off] 36)).alloc (by simp) (.cells #[.int .u8 d.kind, .slice A3 d.names.length p3, .int .u8 d.dom, .int .i64 d.idx, .int .i64 d.a, .int .i64 d.b, .slice A4 d.items.length p4, .int .i64 d.off] 36))
  clear hE hS hn hm hi hj
  cases h0 : (c.kind == d.kind) with
  | false =>
    simp only [Bool.false_and, Bool.true_and]
    have H1 := Lib.hid (rfl : (true : Bool) = true)
    go_enter Tryz.func26, Tryz.ntmps26
    go_wp2_with (first | (go_at_call 27; refine (HE.out _ HB.out).mono ?_; rintro e w1 ⟨rfl, nq, rfl⟩; rw [H1.out]) | (go_at_call 11; refine (HS.out _ (HB.out.trans (below_drewN _ _ _))).mono ?_; rintro e w2 ⟨rfl, b2⟩; have B2 := Lib.hid b2; clear b2))
    go_ret
    exact ⟨rfl, HB.out⟩
  | true =>
    cases h1 : (eqS c.names d.names) with
    | false =>
      simp only [Bool.false_and, Bool.true_and]
      have H1 := Lib.hid h1
      clear h1
      go_enter Tryz.func26, Tryz.ntmps26
      go_wp2_with (first | (go_at_call 27; refine (HE.out _ HB.out).mono ?_; rintro e w1 ⟨rfl, nq, rfl⟩; rw [H1.out]) | (go_at_call 11; refine (HS.out _ (HB.out.trans (below_drewN _ _ _))).mono ?_; rintro e w2 ⟨rfl, b2⟩; have B2 := Lib.hid b2; clear b2))
      go_ret
      exact ⟨rfl, HB.out.trans (below_drewN _ _ _)⟩
    | true =>
      cases h2 : (c.dom == d.dom) with
      | false =>
        simp only [Bool.false_and, Bool.true_and]
        have H1 := Lib.hid h1
        clear h1
        go_enter Tryz.func26, Tryz.ntmps26
        go_wp2_with (first | (go_at_call 27; refine (HE.out _ HB.out).mono ?_; rintro e w1 ⟨rfl, nq, rfl⟩; rw [H1.out]) | (go_at_call 11; refine (HS.out _ (HB.out.trans (below_drewN _ _ _))).mono ?_; rintro e w2 ⟨rfl, b2⟩; have B2 := Lib.hid b2; clear b2))
        go_ret
        exact ⟨rfl, HB.out.trans (below_drewN _ _ _)⟩
      | true =>
        cases h3 : (c.idx == d.idx) with
        | false =>
          simp only [Bool.false_and, Bool.true_and]
          have H1 := Lib.hid h1
          clear h1
          go_enter Tryz.func26, Tryz.ntmps26
          go_wp2_with (first | (go_at_call 27; refine (HE.out _ HB.out).mono ?_; rintro e w1 ⟨rfl, nq, rfl⟩; rw [H1.out]) | (go_at_call 11; refine (HS.out _ (HB.out.trans (below_drewN _ _ _))).mono ?_; rintro e w2 ⟨rfl, b2⟩; have B2 := Lib.hid b2; clear b2))
          go_ret
          exact ⟨rfl, HB.out.trans (below_drewN _ _ _)⟩
        | true =>
          cases h4 : (c.a == d.a) with
          | false =>
            simp only [Bool.false_and, Bool.true_and]
            have H1 := Lib.hid h1
            clear h1
            go_enter Tryz.func26, Tryz.ntmps26
            go_wp2_with (first | (go_at_call 27; refine (HE.out _ HB.out).mono ?_; rintro e w1 ⟨rfl, nq, rfl⟩; rw [H1.out]) | (go_at_call 11; refine (HS.out _ (HB.out.trans (below_drewN _ _ _))).mono ?_; rintro e w2 ⟨rfl, b2⟩; have B2 := Lib.hid b2; clear b2))
            go_ret
            exact ⟨rfl, HB.out.trans (below_drewN _ _ _)⟩
          | true =>
            cases h5 : (c.b == d.b) with
            | false =>
              simp only [Bool.false_and, Bool.true_and]
              have H1 := Lib.hid h1
              clear h1
              go_enter Tryz.func26, Tryz.ntmps26
              go_wp2_with (first | (go_at_call 27; refine (HE.out _ HB.out).mono ?_; rintro e w1 ⟨rfl, nq, rfl⟩; rw [H1.out]) | (go_at_call 11; refine (HS.out _ (HB.out.trans (below_drewN _ _ _))).mono ?_; rintro e w2 ⟨rfl, b2⟩; have B2 := Lib.hid b2; clear b2))
              go_ret
              exact ⟨rfl, HB.out.trans (below_drewN _ _ _)⟩
            | true =>
              simp only [Bool.true_and]
              have H1 := Lib.hid h1
              clear h1
              go_enter Tryz.func26, Tryz.ntmps26
              go_wp2_with (first | (go_at_call 27; refine (HE.out _ HB.out).mono ?_; rintro e w1 ⟨rfl, nq, rfl⟩; rw [H1.out]) | (go_at_call 11; refine (HS.out _ (HB.out.trans (below_drewN _ _ _))).mono ?_; rintro e w2 ⟨rfl, b2⟩; have B2 := Lib.hid b2; clear b2))
              go_ret
              exact ⟨rfl, (HB.out.trans (below_drewN _ _ _)).trans (B2.out.mono (by (try simp) <;> omega))⟩
end Go.Proofs.YtplnnpkohdmiaaaGreatDoor

/- DERIVED. The landed Same: slices.EqualFunc over clauses, and Same itself, by induction over the tree. -/
namespace Go.Proofs.YtplnnpkohdmiaaaGreatDoor
open Go.RowKit
set_option maxRecDepth 100000

/-- Between two rounds of slices.EqualFunc. -/
def EfRel (bv : Bool) (l m : List Cl) (w : World) (i : Value) (wr : World) : Prop :=
  ∃ k : Nat, k ≤ l.length ∧ i = .int .i64 k ∧ bv = sames (l.drop k) (m.drop k) ∧ Below w.heap.size w wr

/-- What Same says of the items of the clauses of l. -/
def SameOk (l : List Cl) : Prop := ∀ c ∈ l, ∀ (m : List Cl) (v u : Value) (ok ok' : Nat → Prop) (w : World), ClSl w ok v c.items → ClSl w ok' u m →
  Calls Tryz.prog 11 #[v, u] w fun e w' => e = .returned (.bool (sames c.items m)) ∧ Below w.heap.size w w'

set_option maxHeartbeats 4000000 in
theorem c_EqualFunc (l m : List Cl) (hS : SameOk l) (v u : Value) (ok ok' : Nat → Prop) (w : World) (ha : ClSl w ok v l) (hb : ClSl w ok' u m) :
    Calls Tryz.prog 25 #[v, u, .func (.func 26) #[] #[]] w fun e w' => e = .returned (.bool (sames l m)) ∧ Below w.heap.size w w' := by
  obtain ⟨A, c, rfl, h2, h3, -⟩ := id ha
  obtain ⟨A', c', rfl, h2', h3', -⟩ := id hb
  unfold maxLen at h3 h3'
  have Ha := Lib.hid ha
  have Hb := Lib.hid hb
  have HS := Lib.hid hS
  clear ha hb hS
  by_cases hlen : l.length = m.length
  · have hl : (((l.length : Nat) : Int) != (m.length : Int)) = false := by rw [bne_eq_false_iff_eq]; omega
    have Hlen := Lib.hid hlen
    clear hlen
    obtain ⟨bv, hbv⟩ : ∃ b, b = sames l m := ⟨_, rfl⟩
    rw [← hbv]
    go_enter Tryz.func25, Tryz.ntmps25
    go_wp2_with (fail)
    go_loopw [17] (fun i wr => EfRel bv l m w i wr) (fun i wr => l.length - (intOf i).toNat)
    case atStart => exact ⟨0, Nat.zero_le _, rfl, by rw [hbv]; rfl, Below.refl _ _⟩
    case round =>
      obtain ⟨k, hk, rfl, hbk, hbl⟩ := hrel
      clear hbv
      have HB := Lib.hid hbl
      by_cases hlt : k < l.length
      · have hlt2 : k < m.length := by have := Hlen.out; omega
        have hcin := List.getElem_mem hlt
        obtain ⟨b1, o1, c1, vn, vi, e1, -, -, -, hn1, hi1, q0, q1, q2, q3, q4, q5, q6, q7⟩ := (Ha.out.below hbl).at_ hlt
        obtain ⟨b2, o2, c2, un, ui, e2, -, -, -, hn2, hi2, p0, p1, p2, p3, p4, p5, p6, p7⟩ := (Hb.out.below hbl).at_ hlt2
        injection e1 with e1 _ e1'
        injection e2 with e2 _ e2'
        subst e1 e2 e1' e2'
        have hsd := sames_drop l m k hlt hlt2
        rw [hsd] at hbk
        clear hsd hbl
        have Hbk := Lib.hid hbk
        clear hbk
        obtain ⟨vA1, vn1, vc1, rfl⟩ := hn1.shape
        obtain ⟨vA2, vn2, vc2, rfl⟩ := hi1.shape
        obtain ⟨vA3, vn3, vc3, rfl⟩ := hn2.shape
        obtain ⟨vA4, vn4, vc4, rfl⟩ := hi2.shape
        generalize l[k] = x at q0 q1 q2 q3 q4 q5 q6 q7 hn1 hi1 Hbk hcin
        generalize m[k] = y at p0 p1 p2 p3 p4 p5 p6 p7 hn2 hi2 Hbk
        have lt1 := cell_lt' q0
        have lt2 := cell_lt' p0
        have hC := fun W (hW : Below wr.heap.size wr W) => c_Same1 x y _ _ _ _ ok ok' W (hn1.below hW) (hn2.below hW) (hi1.below hW) (hi2.below hW) (fun W2 hW2 => HS.out x hcin _ _ _ _ _ W2 ((hi1.below hW).below hW2) ((hi2.below hW).below hW2))
        have HC := Lib.hid hC
        clear hC hn1 hi1 hn2 hi2
        cases hxy : x.same y with
        | false =>
          have Hxy := Lib.hid hxy
          clear hxy
          go_wp2_with (go_at_call 26; refine (HC.out _ (((Below.refl _ _).alloc (Nat.le_refl _) _).alloc (by (try simp) <;> omega) _)).mono ?_; rintro e w2 ⟨rfl, b2⟩; rw [Hxy.out]; have B2 := Lib.hid b2; clear b2)
          go_ret
          exact ⟨ret_bool (by rw [Hbk.out, Hxy.out]; rfl), (((HB.out.alloc HB.out.size _).alloc (by (try simp) <;> have := HB.out.size <;> omega) _)).trans (B2.out.mono (by (try simp) <;> have := HB.out.size <;> omega))⟩
        | true =>
          have Hxy := Lib.hid hxy
          clear hxy
          go_wp2_with (go_at_call 26; refine (HC.out _ (((Below.refl _ _).alloc (Nat.le_refl _) _).alloc (by (try simp) <;> omega) _)).mono ?_; rintro e w2 ⟨rfl, b2⟩; rw [Hxy.out]; have B2 := Lib.hid b2; clear b2)
          exact ⟨⟨k + 1, by omega, by go_num, by rw [Hbk.out, Hxy.out]; rfl, (((HB.out.alloc HB.out.size _).alloc (by (try simp) <;> have := HB.out.size <;> omega) _)).trans (B2.out.mono (by (try simp) <;> have := HB.out.size <;> omega))⟩, by simp [intOf]; omega⟩
      · have hb2 : bv = true := by
          rw [hbk, List.drop_of_length_le (by omega), List.drop_of_length_le (by have := Hlen.out; omega)]
          simp only [sames]
        have Hb2 := Lib.hid hb2
        clear hb2 hbk
        go_wp2_with (fail)
        go_ret
        exact ⟨ret_bool Hb2.out.symm, HB.out⟩
  · have hl : (((l.length : Nat) : Int) != (m.length : Int)) = true := by rw [bne_iff_ne]; omega
    rw [sames_len l m hlen]
    clear hlen
    go_enter Tryz.func25, Tryz.ntmps25
    go_wp2_with (fail)
    go_ret
    exact ⟨rfl, Below.refl _ _⟩

theorem same_step (l m : List Cl) (hS : SameOk l) (v u : Value) (ok ok' : Nat → Prop) (w : World) (ha : ClSl w ok v l) (hb : ClSl w ok' u m) :
    Calls Tryz.prog 11 #[v, u] w fun e w' => e = .returned (.bool (sames l m)) ∧ Below w.heap.size w w' := by
  have H := Lib.hid (c_EqualFunc l m hS v u ok ok' w ha hb)
  obtain ⟨A, c, rfl, -⟩ := id ha
  obtain ⟨A', c', rfl, -⟩ := id hb
  clear ha hb hS
  go_enter Tryz.func11, Tryz.ntmps11
  go_wp2_with (go_at_call 25; refine H.out.mono ?_; rintro e w2 ⟨rfl, b2⟩; have B2 := Lib.hid b2; clear b2)
  go_ret
  exact ⟨rfl, B2.out⟩
theorem Cl.items_lt (c : Cl) : SizeOf.sizeOf c.items < SizeOf.sizeOf c := by cases c; simp [Cl.items]; omega
theorem same_ind : ∀ (n : Nat) (l : List Cl), SizeOf.sizeOf l < n → ∀ (m : List Cl) (v u : Value) (ok ok' : Nat → Prop) (w : World), ClSl w ok v l → ClSl w ok' u m →
    Calls Tryz.prog 11 #[v, u] w fun e w' => e = .returned (.bool (sames l m)) ∧ Below w.heap.size w w'
  | 0, _, h => absurd h (by omega)
  | n + 1, l, h => fun m v u ok ok' w ha hb => same_step l m (fun c hc m' v' u' ok1 ok2 w' h1 h2 => same_ind n c.items (by
      have h3 := List.sizeOf_lt_of_mem hc
      have h4 := c.items_lt
      omega) m' v' u' ok1 ok2 w' h1 h2) v u ok ok' w ha hb
/-- syntax.Same. -/
theorem c_Same (l m : List Cl) (v u : Value) (ok ok' : Nat → Prop) (w : World) (ha : ClSl w ok v l) (hb : ClSl w ok' u m) :
    Calls Tryz.prog 11 #[v, u] w fun e w' => e = .returned (.bool (sames l m)) ∧ Below w.heap.size w w' := same_ind (SizeOf.sizeOf l + 1) l (by omega) m v u ok ok' w ha hb
end Go.Proofs.YtplnnpkohdmiaaaGreatDoor
