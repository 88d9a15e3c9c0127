/-
  DERIVED. Wishes and worlds in plain words: which are valid, what runs, and how replicas come and go (stage 13; no program is named).
-/
import Derived.Test.YtplncglgolhfaaaAB
namespace Go.Proofs.Ytplncglgolhfaaa
set_option linter.unusedVariables false
set_option linter.unusedSimpArgs false

structure Hst where
  phase : Nat
  fw : Int
  deriving DecidableEq
structure Rep where
  svc : Int
  host : Int
  deriving DecidableEq
structure Nr where
  svc : Int
  lat : Int
structure Svc where
  cores : Int
  reps : Int
  least : Int
  dom : Nat
  spread : Int
  apart : List Int
  near : List Nr
  fw : Int
structure WorldD where
  hosts : List Hst
  reps : List Rep
/-- The elements of a list name other services, strictly ascending. -/
def othGo (own many : Int) : Int → List Int → Bool
  | _, [] => true
  | last, x :: l => if x ≤ last ∨ many ≤ x ∨ x = own then false else othGo own many x l
def othB (own many : Int) (l : List Int) : Bool := othGo own many (-1) l
theorem othGo_cons_ok {own many last x : Int} {l : List Int} (h : ¬ (x ≤ last ∨ many ≤ x ∨ x = own)) : othGo own many last (x :: l) = othGo own many x l := by
  rw [othGo, if_neg h]
theorem othGo_cons_no {own many last x : Int} {l : List Int} (h : x ≤ last ∨ many ≤ x ∨ x = own) : othGo own many last (x :: l) = false := by
  rw [othGo, if_pos h]
def nearBad (n : Nr) : Bool := !inB n.lat 0 1000000
def keepB (s : Svc) : Bool :=
  inB s.cores 1 1000 && (inB s.reps 0 24 && (inB s.least 0 s.reps && (inB s.fw 0 1000000 && (decide (s.dom ≤ 5) && (inB s.spread (if s.dom = 0 then 0 else 1) (if s.dom = 0 then 0 else 24) && !s.near.any nearBad)))))
def nameB (s : Svc) (own many : Int) : Bool := othB own many s.apart && othB own many (s.near.map (·.svc))
def svcB (s : Svc) (own many : Int) : Bool := keepB s && nameB s own many
def sumR (l : List Svc) : Int := (l.map (·.reps)).sum
/-- What a valid wish is. -/
def WishOk (l : List Svc) : Prop := l.length ≤ 8 ∧ (∀ (i : Nat) s, l[i]? = some s → svcB s i l.length = true) ∧ sumR l ≤ 24
theorem keepB_iff {s : Svc} : keepB s = true ↔ (1 ≤ s.cores ∧ s.cores ≤ 1000) ∧ (0 ≤ s.reps ∧ s.reps ≤ 24) ∧ (0 ≤ s.least ∧ s.least ≤ s.reps) ∧ (0 ≤ s.fw ∧ s.fw ≤ 1000000) ∧ s.dom ≤ 5 ∧ ((if s.dom = 0 then 0 else 1) ≤ s.spread ∧ s.spread ≤ (if s.dom = 0 then 0 else 24)) ∧ ∀ n ∈ s.near, 0 ≤ n.lat ∧ n.lat ≤ 1000000 := by
  unfold keepB
  simp only [Bool.and_eq_true, inB_iff, decide_eq_true_eq, Bool.not_eq_true', List.any_eq_false, nearBad]
  simp [inB_iff]
/-- The replicas are in order. -/
def lessR (a b : Rep) : Bool := decide (a.svc < b.svc) || (a.svc == b.svc && decide (a.host < b.host))
theorem lessR_iff {a b : Rep} : lessR a b = true ↔ a.svc < b.svc ∨ a.svc = b.svc ∧ a.host < b.host := by simp [lessR]
theorem lessR_trans {a b c : Rep} (h : lessR a b = true) (k : lessR b c = true) : lessR a c = true := by
  rw [lessR_iff] at *; omega
theorem lessR_irr {a : Rep} : lessR a a = false := by
  rw [Bool.eq_false_iff, Ne, lessR_iff]; omega
theorem lessR_tri {a b : Rep} (h : lessR a b = false) (k : lessR b a = false) : a = b := by
  rw [Bool.eq_false_iff, Ne, lessR_iff] at h k
  cases a; cases b
  simp only [Rep.mk.injEq] at *
  omega
def ascB : List Rep → Bool
  | a :: b :: l => lessR a b && ascB (b :: l)
  | _ => true
theorem ascB_iff {l : List Rep} : ascB l = true ↔ ∀ (i : Nat) a b, l[i]? = some a → l[i + 1]? = some b → lessR a b = true := by
  induction l with
  | nil => simp [ascB]
  | cons x l ih =>
    cases l with
    | nil => simp [ascB]
    | cons y l =>
      rw [ascB, Bool.and_eq_true, ih]
      constructor
      · rintro ⟨h0, h⟩ i a b ha hb
        cases i with
        | zero => simp at ha hb; subst ha hb; exact h0
        | succ i => exact h i a b (by simpa using ha) (by simpa using hb)
      · intro h
        exact ⟨h 0 x y rfl rfl, fun i a b ha hb => h (i + 1) a b (by simpa using ha) (by simpa using hb)⟩
def Asc (l : List Rep) : Prop := l.Pairwise (fun a b => lessR a b = true)
theorem asc_iff {l : List Rep} : ascB l = true ↔ Asc l := by
  unfold Asc
  induction l with
  | nil => simp [ascB]
  | cons x l ih =>
    cases l with
    | nil => simp [ascB]
    | cons y l =>
      rw [ascB, Bool.and_eq_true, ih, List.pairwise_cons (a := x)]
      constructor
      · rintro ⟨h0, h⟩
        refine ⟨fun z hz => ?_, h⟩
        rcases List.mem_cons.1 hz with rfl | hz
        · exact h0
        · exact lessR_trans h0 ((List.pairwise_cons.1 h).1 z hz)
      · rintro ⟨h0, h⟩
        exact ⟨h0 y (by simp), h⟩
/-- Two lists in order that have the same members are the same. -/
theorem asc_unique : ∀ {l m : List Rep}, Asc l → Asc m → (∀ x, x ∈ l ↔ x ∈ m) → l = m := by
  intro l
  induction l with
  | nil =>
    intro m _ _ h
    cases m with
    | nil => rfl
    | cons y m => exact absurd ((h y).2 (by simp)) (by simp)
  | cons x l ih =>
    intro m hl hm h
    cases m with
    | nil => exact absurd ((h x).1 (by simp)) (by simp)
    | cons y m =>
      have hl' := List.pairwise_cons.1 hl
      have hm' := List.pairwise_cons.1 hm
      have hxy : x = y := by
        rcases List.mem_cons.1 ((h x).1 (by simp)) with e | hx
        · exact e
        · rcases List.mem_cons.1 ((h y).2 (by simp)) with e | hy
          · exact e.symm
          · exact absurd (lessR_trans (hl'.1 y hy) (hm'.1 x hx)) (by rw [lessR_irr]; simp)
      subst hxy
      congr 1
      refine ih hl'.2 hm'.2 fun z => ⟨fun hz => ?_, fun hz => ?_⟩
      · rcases List.mem_cons.1 ((h z).1 (by simp [hz])) with e | hz'
        · subst e; exact absurd (hl'.1 z hz) (by rw [lessR_irr]; simp)
        · exact hz'
      · rcases List.mem_cons.1 ((h z).2 (by simp [hz])) with e | hz'
        · subst e; exact absurd (hm'.1 z hz) (by rw [lessR_irr]; simp)
        · exact hz'
/-- Where a replica stands, or would stand. -/
def plc : List Rep → Rep → Nat
  | [], _ => 0
  | x :: l, r => if lessR x r = true then plc l r + 1 else 0
theorem plc_le (l : List Rep) (r : Rep) : plc l r ≤ l.length := by
  induction l with
  | nil => simp [plc]
  | cons x l ih => rw [plc]; split <;> simp <;> omega
theorem plc_below : ∀ {l : List Rep} {r : Rep} {i : Nat} {x : Rep}, i < plc l r → l[i]? = some x → lessR x r = true := by
  intro l
  induction l with
  | nil => intro r i x h _; simp [plc] at h
  | cons y l ih =>
    intro r i x h hx
    rw [plc] at h
    split at h
    · rename_i h0
      cases i with
      | zero => simp at hx; subst hx; exact h0
      | succ i => have hx' : l[i]? = some x := by simpa using hx
                  exact ih (r := r) (i := i) (by omega) hx'
    · omega
theorem plc_above : ∀ {l : List Rep} {r : Rep} {i : Nat} {x : Rep}, Asc l → plc l r ≤ i → l[i]? = some x → lessR x r = false := by
  intro l
  induction l with
  | nil => intro r i x _ _ h; simp at h
  | cons y l ih =>
    intro r i x ha h hx
    have ha' := List.pairwise_cons.1 ha
    rw [plc] at h
    split at h
    · cases i with
      | zero => omega
      | succ i => have hx' : l[i]? = some x := by simpa using hx
                  exact ih (r := r) (i := i) ha'.2 (by omega) hx'
    · rename_i h0
      cases i with
      | zero => simp at hx; subst hx; simpa using h0
      | succ i =>
        have hx' : l[i]? = some x := by simpa using hx
        rw [Bool.eq_false_iff]
        intro h1
        exact h0 (lessR_trans (ha'.1 x (List.mem_of_getElem? hx')) h1)
theorem plc_there {l : List Rep} {r : Rep} (ha : Asc l) : r ∈ l ↔ l[plc l r]? = some r := by
  constructor
  · intro h
    obtain ⟨i, hi⟩ := List.getElem?_of_mem h
    have h1 : ¬ i < plc l r := fun h1 => by have := plc_below h1 hi; rw [lessR_irr] at this; cases this
    rcases Nat.lt_or_ge (plc l r) i with h2 | h2
    · have hlt : plc l r < l.length := by have := (List.getElem?_eq_some_iff.1 hi).1; omega
      have h3 := plc_above ha (Nat.le_refl _) (List.getElem?_eq_getElem hlt)
      have h4 : lessR l[plc l r] r = true := by
        have h5 := List.pairwise_iff_getElem.1 ha (plc l r) i hlt (by have := (List.getElem?_eq_some_iff.1 hi).1; omega) h2
        have h6 := (List.getElem?_eq_some_iff.1 hi).2
        rwa [h6] at h5
      rw [h3] at h4; cases h4
    · rwa [show plc l r = i by omega]
  · exact List.mem_of_getElem?
def startL (l : List Rep) (r : Rep) : List Rep := l.take (plc l r) ++ r :: l.drop (plc l r)
def stopL (l : List Rep) (r : Rep) : List Rep := l.take (plc l r) ++ l.drop (plc l r + 1)
theorem startL_mem {l : List Rep} {r x : Rep} : x ∈ startL l r ↔ x = r ∨ x ∈ l := by
  unfold startL
  rw [List.mem_append, List.mem_cons]
  conv => rhs; rw [← List.take_append_drop (plc l r) l, List.mem_append]
  constructor
  · rintro (h | h | h)
    · exact .inr (.inl h)
    · exact .inl h
    · exact .inr (.inr h)
  · rintro (h | h | h)
    · exact .inr (.inl h)
    · exact .inl h
    · exact .inr (.inr h)
theorem startL_asc {l : List Rep} {r : Rep} (ha : Asc l) (hn : r ∉ l) : Asc (startL l r) := by
  unfold startL Asc
  have h0 : l = l.take (plc l r) ++ l.drop (plc l r) := (List.take_append_drop _ _).symm
  have hb : ∀ x ∈ l.take (plc l r), lessR x r = true := by
    intro x hx
    obtain ⟨i, hi⟩ := List.getElem?_of_mem hx
    rw [List.getElem?_take] at hi
    split at hi
    · rename_i h1; exact plc_below h1 hi
    · cases hi
  have hc : ∀ x ∈ l.drop (plc l r), lessR r x = true := by
    intro x hx
    have hxl : x ∈ l := List.mem_of_mem_drop hx
    obtain ⟨i, hi⟩ := List.getElem?_of_mem hx
    rw [List.getElem?_drop] at hi
    have h1 := plc_above (r := r) ha (by omega) hi
    rcases h2 : lessR r x with _ | _
    · exact absurd hxl (by rw [lessR_tri h1 h2]; exact hn)
    · rfl
  have ha' := ha
  unfold Asc at ha'
  rw [h0, List.pairwise_append] at ha'
  rw [List.pairwise_append, List.pairwise_cons]
  refine ⟨ha'.1, ⟨hc, ha'.2.1⟩, fun x hx y hy => ?_⟩
  rcases List.mem_cons.1 hy with rfl | hy
  · exact hb x hx
  · exact ha'.2.2 x hx y hy
theorem stopL_filter {l : List Rep} {r : Rep} (ha : Asc l) (hr : r ∈ l) : l.filter (fun x => decide (x ≠ r)) = stopL l r := by
  have h1 := (plc_there ha).1 hr
  have hlt := (List.getElem?_eq_some_iff.1 h1).1
  have h0 : l = l.take (plc l r) ++ r :: l.drop (plc l r + 1) := by
    have e := List.drop_eq_getElem_cons hlt
    rw [(List.getElem?_eq_some_iff.1 h1).2] at e
    rw [← e, List.take_append_drop]
  have ha' := ha
  unfold Asc at ha'
  rw [h0, List.pairwise_append, List.pairwise_cons] at ha'
  unfold stopL
  conv => lhs; rw [h0]
  rw [List.filter_append, List.filter_cons]
  simp only [ne_eq, not_true_eq_false, decide_false, Bool.false_eq_true, if_false]
  congr 1
  · refine List.filter_eq_self.2 fun x hx => ?_
    have := ha'.2.2 x hx r (by simp)
    simp only [decide_eq_true_eq]
    rintro rfl
    rw [lessR_irr] at this; cases this
  · refine List.filter_eq_self.2 fun x hx => ?_
    have := ha'.2.1.1 x hx
    simp only [decide_eq_true_eq]
    rintro rfl
    rw [lessR_irr] at this; cases this
theorem stopL_mem {l : List Rep} {r x : Rep} (ha : Asc l) (hr : r ∈ l) : x ∈ stopL l r ↔ x ∈ l ∧ x ≠ r := by
  rw [← stopL_filter ha hr, List.mem_filter]; simp
theorem stopL_asc {l : List Rep} {r : Rep} (ha : Asc l) (hr : r ∈ l) : Asc (stopL l r) := by
  rw [← stopL_filter ha hr]; exact List.Pairwise.filter _ ha
theorem startL_len (l : List Rep) (r : Rep) : (startL l r).length = l.length + 1 := by
  have := plc_le l r
  simp [startL]; omega
theorem stopL_len {l : List Rep} {r : Rep} (ha : Asc l) (hr : r ∈ l) : (stopL l r).length + 1 = l.length := by
  have h1 := (List.getElem?_eq_some_iff.1 ((plc_there ha).1 hr)).1
  simp [stopL]; omega
theorem stop_start {l : List Rep} {r : Rep} (ha : Asc l) (hn : r ∉ l) : stopL (startL l r) r = l := by
  have h1 := startL_asc ha hn
  have h2 : r ∈ startL l r := startL_mem.2 (.inl rfl)
  refine asc_unique (stopL_asc h1 h2) ha fun x => ?_
  rw [stopL_mem h1 h2, startL_mem]
  constructor
  · rintro ⟨h | h, h3⟩
    · exact absurd h h3
    · exact h
  · intro h
    exact ⟨.inr h, fun e => hn (e ▸ h)⟩
theorem start_stop {l : List Rep} {r : Rep} (ha : Asc l) (hr : r ∈ l) : startL (stopL l r) r = l := by
  have h1 := stopL_asc ha hr
  have hn : r ∉ stopL l r := fun h => ((stopL_mem ha hr).1 h).2 rfl
  refine asc_unique (startL_asc h1 hn) ha fun x => ?_
  rw [startL_mem, stopL_mem ha hr]
  constructor
  · rintro (h | h)
    · exact h ▸ hr
    · exact h.1
  · intro h
    by_cases e : x = r
    · exact .inl e
    · exact .inr ⟨h, e⟩
theorem start_start {l : List Rep} {p q : Rep} (ha : Asc l) (hp : p ∉ l) (hq : q ∉ startL l p) (hq' : q ∉ l) (hp' : p ∉ startL l q) : startL (startL l p) q = startL (startL l q) p := by
  refine asc_unique (startL_asc (startL_asc ha hp) hq) (startL_asc (startL_asc ha hq') hp') fun x => ?_
  simp only [startL_mem]
  constructor
  · rintro (h | h | h)
    · exact .inr (.inl h)
    · exact .inl h
    · exact .inr (.inr h)
  · rintro (h | h | h)
    · exact .inr (.inl h)
    · exact .inl h
    · exact .inr (.inr h)
theorem stop_of_start {l : List Rep} {p q : Rep} (hpq : p ≠ q) (ha : Asc l) (hp : p ∉ l) (hq : q ∈ startL l p) (hq' : q ∈ l) (hp' : p ∉ stopL l q) : stopL (startL l p) q = startL (stopL l q) p := by
  refine asc_unique (stopL_asc (startL_asc ha hp) hq) (startL_asc (stopL_asc ha hq') hp') fun x => ?_
  rw [stopL_mem (startL_asc ha hp) hq, startL_mem, startL_mem, stopL_mem ha hq']
  constructor
  · rintro ⟨h | h, h2⟩
    · exact .inl h
    · exact .inr ⟨h, h2⟩
  · rintro (h | ⟨h, h2⟩)
    · exact ⟨.inl h, fun e => hpq (h ▸ e)⟩
    · exact ⟨.inr h, h2⟩
/-- The hosts of a service. -/
def whereD (l : List Rep) (s : Int) : List Int := (l.filter (fun r => r.svc == s)).map (·.host)
theorem where_snoc (l : List Rep) (r : Rep) (s : Int) : whereD (l ++ [r]) s = whereD l s ++ if r.svc == s then [r.host] else [] := by
  unfold whereD
  rw [List.filter_append, List.map_append]
  congr 1
  cases h : (r.svc == s) <;> simp [List.filter_cons, h]
def coresAt (ss : List Svc) (k : Int) : Int := ((ss[k.toNat]?).map (·.cores)).getD 0
/-- The cores in use: sums wrap around. -/
def usedStep (ss : List Svc) (host : Int) (acc : Int) (r : Rep) : Int := if (r.host == host && ixB r.svc ss.length) = true then IntKind.i64.wrap (acc + coresAt ss r.svc) else acc
def usedD (ss : List Svc) (l : List Rep) (host : Int) : Int := l.foldl (usedStep ss host) 0
theorem used_snoc (ss : List Svc) (l : List Rep) (r : Rep) (host : Int) : usedD ss (l ++ [r]) host = usedStep ss host (usedD ss l host) r := by
  unfold usedD; rw [List.foldl_append]; rfl
def hasB (l : List Rep) (r : Rep) : Bool := decide (r ∈ l)
/-- A valid world. -/
def hstOk (h : Hst) : Bool := decide (h.phase ≤ 4) && inB h.fw 0 1000000
def repOk (ns nh : Int) (r : Rep) : Bool := ixB r.svc ns && ixB r.host nh
def WorldOk (s : SiteD) (ss : List Svc) (w : WorldD) : Prop :=
  siteOk s = true ∧ WishOk ss ∧ w.hosts.length = s.hosts.length ∧ (∀ h ∈ w.hosts, hstOk h = true) ∧ w.reps.length ≤ 24 ∧ (∀ r ∈ w.reps, repOk ss.length s.hosts.length r = true) ∧ ascB w.reps = true
end Go.Proofs.Ytplncglgolhfaaa
