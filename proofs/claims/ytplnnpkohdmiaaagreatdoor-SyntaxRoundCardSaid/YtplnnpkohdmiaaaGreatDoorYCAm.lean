/-
  DERIVED. Several texts in one.
-/
import Derived.Test.YtplnnpkohdmiaaaGreatDoorYAm
set_option linter.unusedVariables false
set_option linter.unusedSimpArgs false

/- DERIVED. Plain: trees of clauses and the grammar as a reader of tokens from the front. No program's text. -/
namespace Go.Proofs.YtplnnpkohdmiaaaGreatDoor
open Go.RowKit

/-- A clause or an item. -/
inductive Cl where
  | mk (kind : Int) (names : List ByteArray) (dom idx a b : Int) (items : List Cl) (off : Int)

def Cl.kind : Cl → Int | .mk k _ _ _ _ _ _ _ => k
def Cl.names : Cl → List ByteArray | .mk _ n _ _ _ _ _ _ => n
def Cl.dom : Cl → Int | .mk _ _ d _ _ _ _ _ => d
def Cl.idx : Cl → Int | .mk _ _ _ i _ _ _ _ => i
def Cl.a : Cl → Int | .mk _ _ _ _ a _ _ _ => a
def Cl.b : Cl → Int | .mk _ _ _ _ _ b _ _ => b
def Cl.items : Cl → List Cl | .mk _ _ _ _ _ _ l _ => l
def Cl.off : Cl → Int | .mk _ _ _ _ _ _ _ o => o
def Cl.withOff (c : Cl) (o : Int) : Cl := .mk c.kind c.names c.dom c.idx c.a c.b c.items o

/-- What a reader of tokens answers: the tokens from the one on that no text can have there, or what it read and the tokens behind. -/
abbrev Rd (α : Type) := Except (List Tok) (α × List Tok)

def pNext (fits : Tok → Bool) : List Tok → Rd Tok
  | [] => .error []
  | t :: l => if fits t then .ok (t, l) else .error (t :: l)

def words : List (List UInt8) := [[115, 101, 114, 118, 105, 99, 101], [119, 105, 110, 100, 111, 119], [97, 112, 112, 114, 111, 118, 101], [98, 108, 97, 115, 116], [99, 97, 112], [99, 111, 114, 101, 115], [114, 101, 112, 108, 105, 99, 97, 115], [108, 101, 97, 115, 116], [115, 112, 114, 101, 97, 100], [97, 112, 97, 114, 116], [110, 101, 97, 114], [102, 105, 114, 109, 119, 97, 114, 101], [102, 114, 111, 109], [116, 111], [97, 116], [112, 101, 114], [119, 105, 116, 104, 105, 110], [104, 111, 115, 116], [114, 97, 99, 107], [114, 111, 119], [102, 101, 101, 100], [108, 111, 111, 112]]
def isWordB (s : ByteArray) : Bool := words.contains s.toList
/-- The domain of a word; 0: none. -/
def domB (s : ByteArray) : Int := if s.toList == [104, 111, 115, 116] then 1 else if s.toList == [114, 97, 99, 107] then 2 else if s.toList == [114, 111, 119] then 3 else if s.toList == [102, 101, 101, 100] then 4 else if s.toList == [108, 111, 111, 112] then 5 else 0

/-- The word of a domain. -/
def scB (d : Int) : ByteArray := if d = 1 then ⟨#[104, 111, 115, 116]⟩ else if d = 2 then ⟨#[114, 97, 99, 107]⟩ else if d = 3 then ⟨#[114, 111, 119]⟩ else if d = 4 then ⟨#[102, 101, 101, 100]⟩ else if d = 5 then ⟨#[108, 111, 111, 112]⟩ else ⟨#[]⟩

def fitLit (s : ByteArray) (t : Tok) : Bool := t.text.toList == s.toList
def fitName (t : Tok) : Bool := t.kind == 1 && !isWordB t.text
def fitNum (t : Tok) : Bool := t.kind == 2
def fitScope (t : Tok) : Bool := domB t.text != 0

def bindR {α β : Type} (x : Rd α) (f : α → List Tok → Rd β) : Rd β :=
  match x with
  | .error l => .error l
  | .ok (a, l) => f a l

def pLit (s : ByteArray) (l : List Tok) : Rd Unit := bindR (pNext (fitLit s) l) fun _ r => .ok ((), r)
def pName (l : List Tok) : Rd ByteArray := bindR (pNext fitName l) fun t r => .ok (t.text, r)
def pNum (l : List Tok) : Rd Int := bindR (pNext fitNum l) fun t r => .ok (t.num, r)
def pScope (l : List Tok) : Rd Int := bindR (pNext fitScope l) fun t r => .ok (domB t.text, r)
def pArea (l : List Tok) : Rd (Int × Int) := bindR (pScope l) fun d r => bindR (pNum r) fun n r => .ok ((d, n), r)

def pManyF {α : Type} (stop : List Tok → Bool) (p : List Tok → Rd α) : Nat → List Tok → Rd (List α)
  | 0, l => .error l
  | n + 1, l => if stop l then .ok ([], l) else bindR (p l) fun x r => bindR (pManyF stop p n r) fun xs r => .ok (x :: xs, r)
def pMany {α : Type} (stop : List Tok → Bool) (p : List Tok → Rd α) (l : List Tok) : Rd (List α) := pManyF stop p (l.length + 1) l

/-- A reader that takes at least one token where it does not fail. -/
def Takes {α : Type} (p : List Tok → Rd α) : Prop := ∀ l x r, p l = .ok (x, r) → r.length < l.length
/-- A reader that never gives tokens back. -/
def Falls {α : Type} (p : List Tok → Rd α) : Prop := ∀ l x r, p l = .ok (x, r) → r.length ≤ l.length

theorem Takes.falls {α : Type} {p : List Tok → Rd α} (h : Takes p) : Falls p := fun l x r e => Nat.le_of_lt (h l x r e)
theorem bindR_ok {α β : Type} {x : Rd α} {f : α → List Tok → Rd β} {b : β} {r : List Tok} (h : bindR x f = .ok (b, r)) : ∃ a l, x = .ok (a, l) ∧ f a l = .ok (b, r) := by
  match x, h with
  | .error l, h => cases h
  | .ok (a, l), h => exact ⟨a, l, rfl, h⟩
theorem takes_next (f : Tok → Bool) : Takes (pNext f) := by
  intro l x r h
  match l, h with
  | [], h => cases h
  | t :: l, h =>
    simp only [pNext] at h
    split at h
    · cases h; simp
    · cases h
theorem takes_bind {α β : Type} {p : List Tok → Rd α} {f : α → List Tok → Rd β} (hp : Takes p) (hf : ∀ a, Falls (f a)) : Takes (fun l => bindR (p l) f) := by
  intro l x r h
  obtain ⟨a, l', h1, h2⟩ := bindR_ok h
  exact Nat.lt_of_le_of_lt (hf a l' x r h2) (hp l a l' h1)
theorem falls_bind {α β : Type} {p : List Tok → Rd α} {f : α → List Tok → Rd β} (hp : Falls p) (hf : ∀ a, Falls (f a)) : Falls (fun l => bindR (p l) f) := by
  intro l x r h
  obtain ⟨a, l', h1, h2⟩ := bindR_ok h
  exact Nat.le_trans (hf a l' x r h2) (hp l a l' h1)
theorem falls_ok {α : Type} (a : α) : Falls (fun l => .ok (a, l)) := by
  intro l x r h
  cases h; exact Nat.le_refl _

theorem pManyF_more {α : Type} {stop : List Tok → Bool} {p : List Tok → Rd α} (hp : Takes p) : ∀ (n m : Nat) (l : List Tok), l.length < n → l.length < m → pManyF stop p n l = pManyF stop p m l
  | 0, _, _, h, _ => absurd h (by omega)
  | _, 0, _, _, h => absurd h (by omega)
  | n + 1, m + 1, l, h, k => by
    simp only [pManyF]
    split
    · rfl
    · cases e : p l with
      | error r => rfl
      | ok x =>
        obtain ⟨x, r⟩ := x
        have := hp l x r e
        simp only [bindR]
        rw [pManyF_more hp n m r (by omega) (by omega)]
theorem pMany_eq {α : Type} {stop : List Tok → Bool} {p : List Tok → Rd α} (hp : Takes p) (l : List Tok) :
    pMany stop p l = if stop l then .ok ([], l) else bindR (p l) fun x r => bindR (pMany stop p r) fun xs r => .ok (x :: xs, r) := by
  unfold pMany
  conv => lhs; rw [pManyF]
  split
  · rfl
  · cases e : p l with
    | error r => rfl
    | ok x =>
      obtain ⟨x, r⟩ := x
      have := hp l x r e
      simp only [bindR]
      rw [pManyF_more hp _ (r.length + 1) r (by omega) (by omega)]
theorem pManyF_falls {α : Type} {stop : List Tok → Bool} {p : List Tok → Rd α} (hp : Falls p) : ∀ n, Falls (pManyF stop p n)
  | 0 => fun l x r h => by cases h
  | n + 1 => fun l x r h => by
    simp only [pManyF] at h
    split at h
    · cases h; exact Nat.le_refl _
    · exact falls_bind hp (fun a => falls_bind (pManyF_falls hp n) (fun b => falls_ok (a :: b))) l x r h
theorem pMany_falls {α : Type} {stop : List Tok → Bool} {p : List Tok → Rd α} (hp : Falls p) : Falls (pMany stop p) := fun l x r h => pManyF_falls hp _ l x r h

def frontIs (s : ByteArray) : List Tok → Bool
  | [] => false
  | t :: _ => fitLit s t

def pCounted (k : Int) (l : List Tok) : Rd Cl := bindR (pNum l) fun a r => bindR (pLit ⟨#[59]⟩ r) fun _ r => .ok (.mk k [] 0 0 a 0 [] 0, r)
def pWindow (l : List Tok) : Rd Cl := bindR (pArea l) fun d r => bindR (pLit ⟨#[102, 114, 111, 109]⟩ r) fun _ r => bindR (pNum r) fun a r => bindR (pLit ⟨#[116, 111]⟩ r) fun _ r => bindR (pNum r) fun b r => bindR (pLit ⟨#[59]⟩ r) fun _ r => .ok (.mk 2 [] d.1 d.2 a b [] 0, r)
def pApprove (l : List Tok) : Rd Cl := bindR (pArea l) fun d r => bindR (pLit ⟨#[59]⟩ r) fun _ r => .ok (.mk 3 [] d.1 d.2 0 0 [] 0, r)
def pCap (l : List Tok) : Rd Cl := bindR (pLit ⟨#[102, 101, 101, 100]⟩ l) fun _ r => bindR (pNum r) fun i r => bindR (pLit ⟨#[97, 116]⟩ r) fun _ r => bindR (pNum r) fun a r => bindR (pLit ⟨#[59]⟩ r) fun _ r => .ok (.mk 5 [] 0 i a 0 [] 0, r)
def pSpread (l : List Tok) : Rd Cl := bindR (pNum l) fun a r => bindR (pLit ⟨#[112, 101, 114]⟩ r) fun _ r => bindR (pScope r) fun d r => bindR (pLit ⟨#[59]⟩ r) fun _ r => .ok (.mk 9 [] d 0 a 0 [] 0, r)
def pOther (l : List Tok) : Rd ByteArray := bindR (pLit ⟨#[44]⟩ l) fun _ r => pName r
def pApart (l : List Tok) : Rd Cl := bindR (pName l) fun n r => bindR (pMany (fun l => !frontIs ⟨#[44]⟩ l) pOther r) fun ns r => bindR (pLit ⟨#[59]⟩ r) fun _ r => .ok (.mk 10 (n :: ns) 0 0 0 0 [] 0, r)
def pNear (l : List Tok) : Rd Cl := bindR (pName l) fun n r => bindR (pLit ⟨#[119, 105, 116, 104, 105, 110]⟩ r) fun _ r => bindR (pNum r) fun a r => bindR (pLit ⟨#[59]⟩ r) fun _ r => .ok (.mk 11 [n] 0 0 a 0 [] 0, r)

/-- The first key that is s, and what stands beside it. -/
def assocB {α : Type} (s : ByteArray) : List (ByteArray × α) → Option α
  | [] => none
  | (k, x) :: l => if k.toList = s.toList then some x else assocB s l

def pClause (tab : List (ByteArray × (List Tok → Rd Cl))) (l : List Tok) : Rd Cl :=
  bindR (pNext (fun t => (assocB t.text tab).isSome) l) fun t r => bindR (((assocB t.text tab).getD (fun l => .error l)) r) fun c r => .ok (c.withOff t.off, r)

def itemTab : List (ByteArray × (List Tok → Rd Cl)) := [(⟨#[99, 111, 114, 101, 115]⟩, pCounted 6), (⟨#[114, 101, 112, 108, 105, 99, 97, 115]⟩, pCounted 7), (⟨#[108, 101, 97, 115, 116]⟩, pCounted 8), (⟨#[115, 112, 114, 101, 97, 100]⟩, pSpread), (⟨#[97, 112, 97, 114, 116]⟩, pApart), (⟨#[110, 101, 97, 114]⟩, pNear), (⟨#[102, 105, 114, 109, 119, 97, 114, 101]⟩, pCounted 12)]
def pItem : List Tok → Rd Cl := pClause itemTab
def pService (l : List Tok) : Rd Cl := bindR (pName l) fun n r => bindR (pLit ⟨#[123]⟩ r) fun _ r => bindR (pMany (frontIs ⟨#[125]⟩) pItem r) fun its r => bindR (pLit ⟨#[125]⟩ r) fun _ r => .ok (.mk 1 [n] 0 0 0 0 its 0, r)
def clauseTab : List (ByteArray × (List Tok → Rd Cl)) := [(⟨#[115, 101, 114, 118, 105, 99, 101]⟩, pService), (⟨#[119, 105, 110, 100, 111, 119]⟩, pWindow), (⟨#[97, 112, 112, 114, 111, 118, 101]⟩, pApprove), (⟨#[98, 108, 97, 115, 116]⟩, pCounted 4), (⟨#[99, 97, 112]⟩, pCap)]
def pText (l : List Tok) : Rd (List Cl) := pMany List.isEmpty (pClause clauseTab) l

theorem assocB_mem {α : Type} {s : ByteArray} {tab : List (ByteArray × α)} {x : α} (h : assocB s tab = some x) : ∃ k, (k, x) ∈ tab := by
  induction tab with
  | nil => cases h
  | cons a l ih =>
    obtain ⟨k, y⟩ := a
    simp only [assocB] at h
    split at h
    · cases h; exact ⟨k, List.mem_cons_self ..⟩
    · obtain ⟨k, hk⟩ := ih h; exact ⟨k, List.mem_cons_of_mem _ hk⟩

theorem falls_lit (s : ByteArray) : Falls (pLit s) := (takes_bind (takes_next _) (fun _ => falls_ok ())).falls
theorem takes_lit (s : ByteArray) : Takes (pLit s) := takes_bind (takes_next _) (fun _ => falls_ok ())
theorem falls_name : Falls pName := (takes_bind (takes_next _) (fun _ => falls_ok _)).falls
theorem falls_num : Falls pNum := (takes_bind (takes_next _) (fun _ => falls_ok _)).falls
theorem falls_scope : Falls pScope := (takes_bind (takes_next _) (fun _ => falls_ok _)).falls
theorem falls_area : Falls pArea := falls_bind falls_scope fun _ => falls_bind falls_num fun _ => falls_ok _
theorem falls_counted (k : Int) : Falls (pCounted k) := falls_bind falls_num fun _ => falls_bind (falls_lit _) fun _ => falls_ok _
theorem takes_other : Takes pOther := takes_bind (takes_lit _) fun _ => falls_name
theorem falls_apart : Falls pApart := falls_bind falls_name fun _ => falls_bind (pMany_falls takes_other.falls) fun _ => falls_bind (falls_lit _) fun _ => falls_ok _
theorem falls_near : Falls pNear := falls_bind falls_name fun _ => falls_bind (falls_lit _) fun _ => falls_bind falls_num fun _ => falls_bind (falls_lit _) fun _ => falls_ok _
theorem falls_spread : Falls pSpread := falls_bind falls_num fun _ => falls_bind (falls_lit _) fun _ => falls_bind falls_scope fun _ => falls_bind (falls_lit _) fun _ => falls_ok _
theorem falls_window : Falls pWindow := falls_bind falls_area fun _ => falls_bind (falls_lit _) fun _ => falls_bind falls_num fun _ => falls_bind (falls_lit _) fun _ => falls_bind falls_num fun _ => falls_bind (falls_lit _) fun _ => falls_ok _
theorem falls_approve : Falls pApprove := falls_bind falls_area fun _ => falls_bind (falls_lit _) fun _ => falls_ok _
theorem falls_cap : Falls pCap := falls_bind (falls_lit _) fun _ => falls_bind falls_num fun _ => falls_bind (falls_lit _) fun _ => falls_bind falls_num fun _ => falls_bind (falls_lit _) fun _ => falls_ok _

theorem takes_clause {tab : List (ByteArray × (List Tok → Rd Cl))} (h : ∀ x ∈ tab, Falls x.2) : Takes (pClause tab) := by
  refine takes_bind (takes_next _) fun t => falls_bind ?_ fun c => falls_ok _
  cases e : assocB t.text tab with
  | none => intro l x r h; cases h
  | some p => obtain ⟨k, hk⟩ := assocB_mem e; exact h _ hk
theorem takes_item : Takes pItem := takes_clause (by
  intro x hx
  simp only [itemTab, List.mem_cons, List.not_mem_nil, or_false] at hx
  rcases hx with rfl | rfl | rfl | rfl | rfl | rfl | rfl
  · exact falls_counted _
  · exact falls_counted _
  · exact falls_counted _
  · exact falls_spread
  · exact falls_apart
  · exact falls_near
  · exact falls_counted _)
theorem falls_service : Falls pService := falls_bind falls_name fun _ => falls_bind (falls_lit _) fun _ => falls_bind (pMany_falls takes_item.falls) fun _ => falls_bind (falls_lit _) fun _ => falls_ok _
theorem takes_cl : Takes (pClause clauseTab) := takes_clause (by
  intro x hx
  simp only [clauseTab, List.mem_cons, List.not_mem_nil, or_false] at hx
  rcases hx with rfl | rfl | rfl | rfl | rfl
  · exact falls_service
  · exact falls_window
  · exact falls_approve
  · exact falls_counted _
  · exact falls_cap)

/-- The offset of the first token, or the text's length. -/
def offOf (en : Int) : List Tok → Int
  | [] => en
  | t :: _ => t.off

def parseL (en : Int) (l : List Tok) : List Cl × Int × Int :=
  match pText l with
  | .error r => ([], offOf en r, 4)
  | .ok (x, _) => (x, 0, 0)
end Go.Proofs.YtplnnpkohdmiaaaGreatDoor

/- DERIVED. Plain: readers look one token ahead at most. -/
namespace Go.Proofs.YtplnnpkohdmiaaaGreatDoor
open Go.RowKit

/-- What a reader answers hangs on what it took and on the next token alone. -/
def Look {α : Type} (p : List Tok → Rd α) : Prop := ∀ l,
  (∀ x r, p l = .ok (x, r) → ∃ l0, l = l0 ++ r ∧ ∀ r', r'.head? = r.head? → p (l0 ++ r') = .ok (x, r')) ∧
  (∀ r, p l = .error r → ∃ l0, l = l0 ++ r ∧ ∀ r', r'.head? = r.head? → p (l0 ++ r') = .error r')
/-- Where it does not fail: on what it took alone, and it took some. -/
def Strong {α : Type} (p : List Tok → Rd α) : Prop := Look p ∧ ∀ l x r, p l = .ok (x, r) → ∃ l0, l = l0 ++ r ∧ l0 ≠ [] ∧ ∀ r', p (l0 ++ r') = .ok (x, r')

theorem head_app {l0 a b : List Tok} (h : a.head? = b.head?) : (l0 ++ a).head? = (l0 ++ b).head? := by
  cases l0 with
  | nil => exact h
  | cons t l => rfl
theorem bindR_er {α β : Type} {x : Rd α} {f : α → List Tok → Rd β} {r : List Tok} (h : bindR x f = .error r) : x = .error r ∨ ∃ a l, x = .ok (a, l) ∧ f a l = .error r := by
  match x, h with
  | .error l, h => cases h; exact Or.inl rfl
  | .ok (a, l), h => exact Or.inr ⟨a, l, rfl, h⟩
theorem look_ok {α : Type} (a : α) : Look (fun l => .ok (a, l)) := fun l => ⟨fun x r h => by cases h; exact ⟨[], rfl, fun r' _ => rfl⟩, fun r h => by cases h⟩
theorem strong_next (f : Tok → Bool) : Strong (pNext f) := by
  refine ⟨fun l => ⟨fun x r h => ?_, fun r h => ?_⟩, fun l x r h => ?_⟩
  · match l, h with
    | [], h => cases h
    | t :: l, h =>
      simp only [pNext] at h
      split at h
      · rename_i hf; cases h; exact ⟨[x], rfl, fun r' _ => by simp [pNext, hf]⟩
      · cases h
  · match l, h with
    | [], h => cases h; exact ⟨[], rfl, fun r' hr => by cases r' with | nil => rfl | cons a b => cases hr⟩
    | t :: l, h =>
      simp only [pNext] at h
      split at h
      · cases h
      · rename_i hf
        cases h
        refine ⟨[], rfl, fun r' hr => ?_⟩
        cases r' with
        | nil => cases hr
        | cons a b => simp at hr; subst hr; simp [pNext, hf]
  · match l, h with
    | [], h => cases h
    | t :: l, h =>
      simp only [pNext] at h
      split at h
      · rename_i hf; cases h; exact ⟨[x], rfl, by simp, fun r' => by simp [pNext, hf]⟩
      · cases h
theorem look_bind {α β : Type} {p : List Tok → Rd α} {f : α → List Tok → Rd β} (hp : Look p) (hf : ∀ a, Look (f a)) : Look (fun l => bindR (p l) f) := by
  intro l
  constructor
  · intro x r h
    obtain ⟨a, l1, h1, h2⟩ := bindR_ok h
    obtain ⟨l0, rfl, k1⟩ := (hp l).1 a l1 h1
    obtain ⟨l2, rfl, k2⟩ := (hf a l1).1 x r h2
    refine ⟨l0 ++ l2, by simp, fun r' hr => ?_⟩
    rw [List.append_assoc]
    simp only
    rw [k1 _ (head_app hr)]
    exact k2 r' hr
  · intro r h
    rcases bindR_er h with h1 | ⟨a, l1, h1, h2⟩
    · obtain ⟨l0, rfl, k1⟩ := (hp l).2 r h1
      refine ⟨l0, rfl, fun r' hr => ?_⟩
      simp only
      rw [k1 _ hr]; rfl
    · obtain ⟨l0, rfl, k1⟩ := (hp l).1 a l1 h1
      obtain ⟨l2, rfl, k2⟩ := (hf a l1).2 r h2
      refine ⟨l0 ++ l2, by simp, fun r' hr => ?_⟩
      rw [List.append_assoc]
      simp only
      rw [k1 _ (head_app hr)]
      exact k2 r' hr
theorem strong_bind {α β : Type} {p : List Tok → Rd α} {f : α → List Tok → Rd β} (hp : Look p) (hf : ∀ a, Strong (f a)) : Strong (fun l => bindR (p l) f) := by
  refine ⟨look_bind hp fun a => (hf a).1, fun l x r h => ?_⟩
  obtain ⟨a, l1, h1, h2⟩ := bindR_ok h
  obtain ⟨l0, rfl, k1⟩ := (hp l).1 a l1 h1
  obtain ⟨l2, rfl, hne, k2⟩ := (hf a).2 l1 x r h2
  refine ⟨l0 ++ l2, by simp, by simp [hne], fun r' => ?_⟩
  rw [List.append_assoc]
  simp only
  have hh : (l2 ++ r').head? = (l2 ++ r).head? := by cases l2 with | nil => exact absurd rfl hne | cons a b => rfl
  rw [k1 _ hh]
  exact k2 r'
theorem strong_map {α β : Type} {p : List Tok → Rd α} (g : α → β) (hp : Strong p) : Strong (fun l => bindR (p l) fun a r => .ok (g a, r)) := by
  refine ⟨look_bind hp.1 fun a => look_ok (g a), fun l x r h => ?_⟩
  obtain ⟨a, l1, h1, h2⟩ := bindR_ok h
  cases h2
  obtain ⟨l0, rfl, hne, k⟩ := hp.2 l a r h1
  refine ⟨l0, rfl, hne, fun r' => ?_⟩
  simp only
  rw [k r']; rfl
theorem strong_bind2 {α β : Type} {p : List Tok → Rd α} {f : α → List Tok → Rd β} (hp : Strong p) (hf : ∀ a, Strong (f a)) : Strong (fun l => bindR (p l) f) := strong_bind hp.1 hf
theorem look_many {α : Type} {stop : List Tok → Bool} {p : List Tok → Rd α} (hs : ∀ l m : List Tok, l.head? = m.head? → stop l = stop m) (hp : Look p) (ht : Takes p) : Look (pMany stop p) := by
  suffices H : ∀ (n : Nat) (l : List Tok), l.length ≤ n →
      (∀ x r, pMany stop p l = .ok (x, r) → ∃ l0, l = l0 ++ r ∧ ∀ r', r'.head? = r.head? → pMany stop p (l0 ++ r') = .ok (x, r')) ∧
      (∀ r, pMany stop p l = .error r → ∃ l0, l = l0 ++ r ∧ ∀ r', r'.head? = r.head? → pMany stop p (l0 ++ r') = .error r') from fun l => H l.length l (Nat.le_refl _)
  intro n
  induction n with
  | zero =>
    intro l hl
    have : l = [] := List.eq_nil_of_length_eq_zero (by omega)
    subst this
    have hnil : ∀ r' : List Tok, r'.head? = ([] : List Tok).head? → r' = [] := fun r' h => by cases r' with | nil => rfl | cons a b => cases h
    constructor
    · intro x r h
      rw [pMany_eq ht] at h
      by_cases hst : stop [] = true
      · rw [if_pos hst] at h; cases h
        exact ⟨[], rfl, fun r' hr => by rw [hnil r' hr, List.append_nil, pMany_eq ht, if_pos hst]⟩
      · rw [if_neg hst] at h
        obtain ⟨a, l1, h1, _⟩ := bindR_ok h
        have := ht _ _ _ h1
        simp at this
    · intro r h
      have h' := h
      rw [pMany_eq ht] at h
      by_cases hst : stop [] = true
      · rw [if_pos hst] at h; cases h
      · rw [if_neg hst] at h
        rcases bindR_er h with h1 | ⟨a, l1, h1, _⟩
        · obtain ⟨l0, e, _⟩ := (hp []).2 r h1
          have hr0 : r = [] := (List.append_eq_nil_iff.1 e.symm).2
          subst hr0
          exact ⟨[], rfl, fun r' hr => by rw [hnil r' hr]; exact h'⟩
        · have := ht _ _ _ h1
          simp at this
  | succ n ih =>
    intro l hl
    constructor
    · intro x r h
      rw [pMany_eq ht] at h
      by_cases hst : stop l = true
      · rw [if_pos hst] at h; cases h
        exact ⟨[], rfl, fun r' hr => by rw [List.nil_append, pMany_eq ht, hs r' l hr, if_pos hst]⟩
      · rw [if_neg hst] at h
        obtain ⟨a, l1, h1, h2⟩ := bindR_ok h
        obtain ⟨xs, l2, h3, h4⟩ := bindR_ok h2
        cases h4
        have hlt := ht _ _ _ h1
        obtain ⟨l0, rfl, k1⟩ := (hp l).1 a l1 h1
        obtain ⟨m0, rfl, k2⟩ := (ih l1 (by omega)).1 xs r h3
        refine ⟨l0 ++ m0, by simp, fun r' hr => ?_⟩
        rw [List.append_assoc, pMany_eq ht, hs _ _ (head_app (l0 := l0) (head_app (l0 := m0) hr)), if_neg hst, k1 _ (head_app hr)]
        simp only [bindR]
        rw [k2 r' hr]
    · intro r h
      rw [pMany_eq ht] at h
      by_cases hst : stop l = true
      · rw [if_pos hst] at h; cases h
      · rw [if_neg hst] at h
        rcases bindR_er h with h1 | ⟨a, l1, h1, h2⟩
        · obtain ⟨l0, rfl, k1⟩ := (hp l).2 r h1
          refine ⟨l0, rfl, fun r' hr => ?_⟩
          rw [pMany_eq ht, hs _ _ (head_app (l0 := l0) hr), if_neg hst, k1 _ hr]; rfl
        · rcases bindR_er h2 with h3 | ⟨b, l2, h3, h4⟩
          · have hlt := ht _ _ _ h1
            obtain ⟨l0, rfl, k1⟩ := (hp l).1 a l1 h1
            obtain ⟨m0, rfl, k2⟩ := (ih l1 (by omega)).2 r h3
            refine ⟨l0 ++ m0, by simp, fun r' hr => ?_⟩
            rw [List.append_assoc, pMany_eq ht, hs _ _ (head_app (l0 := l0) (head_app (l0 := m0) hr)), if_neg hst, k1 _ (head_app hr)]
            simp only [bindR]
            rw [k2 r' hr]
          · cases h4

theorem strong_lit (s : ByteArray) : Strong (pLit s) := strong_map (fun _ => ()) (strong_next _)
theorem strong_name : Strong pName := strong_map (fun t : Tok => t.text) (strong_next fitName)
theorem strong_num : Strong pNum := strong_map (fun t : Tok => t.num) (strong_next fitNum)
theorem strong_scope : Strong pScope := strong_map (fun t : Tok => domB t.text) (strong_next fitScope)
theorem look_area : Look pArea := look_bind strong_scope.1 fun _ => look_bind strong_num.1 fun _ => look_ok _
theorem strong_counted (k : Int) : Strong (pCounted k) := strong_bind strong_num.1 fun _ => strong_map _ (strong_lit _)
theorem strong_window : Strong pWindow := strong_bind look_area fun _ => strong_bind (strong_lit _).1 fun _ => strong_bind strong_num.1 fun _ => strong_bind (strong_lit _).1 fun _ => strong_bind strong_num.1 fun _ => strong_map _ (strong_lit _)
theorem strong_approve : Strong pApprove := strong_bind look_area fun _ => strong_map _ (strong_lit _)
theorem strong_cap : Strong pCap := strong_bind (strong_lit _).1 fun _ => strong_bind strong_num.1 fun _ => strong_bind (strong_lit _).1 fun _ => strong_bind strong_num.1 fun _ => strong_map _ (strong_lit _)
theorem strong_spread : Strong pSpread := strong_bind strong_num.1 fun _ => strong_bind (strong_lit _).1 fun _ => strong_bind strong_scope.1 fun _ => strong_map _ (strong_lit _)
theorem strong_other : Strong pOther := strong_bind (strong_lit _).1 fun _ => strong_name
theorem front_head (s : ByteArray) (l m : List Tok) (h : l.head? = m.head?) : frontIs s l = frontIs s m := by
  cases l <;> cases m <;> simp_all [frontIs]
theorem strong_apart : Strong pApart := strong_bind strong_name.1 fun _ => strong_bind (look_many (fun l m h => by rw [front_head _ l m h]) strong_other.1 takes_other) fun _ => strong_map _ (strong_lit _)
theorem strong_near : Strong pNear := strong_bind strong_name.1 fun _ => strong_bind (strong_lit _).1 fun _ => strong_bind strong_num.1 fun _ => strong_map _ (strong_lit _)
theorem strong_clause {tab : List (ByteArray × (List Tok → Rd Cl))} (h : ∀ x ∈ tab, Strong x.2) : Strong (pClause tab) := by
  refine ⟨fun l => ?_, fun l x r e => ?_⟩
  · constructor
    · intro x r e
      obtain ⟨t, l1, h1, h2⟩ := bindR_ok e
      obtain ⟨l0, rfl, k1⟩ := ((strong_next _).1 l).1 t l1 h1
      cases ea : assocB t.text tab with
      | none => rw [ea] at h2; cases h2
      | some p =>
        obtain ⟨k, hk⟩ := assocB_mem ea
        have hq := strong_map (fun c : Cl => c.withOff t.off) (h _ hk)
        rw [ea] at h2
        obtain ⟨m0, rfl, k2⟩ := (hq.1 l1).1 x r h2
        refine ⟨l0 ++ m0, by simp, fun r' hr => ?_⟩
        rw [List.append_assoc]
        unfold pClause
        rw [k1 _ (head_app hr)]
        simp only [bindR, ea]
        exact k2 r' hr
    · intro r e
      rcases bindR_er e with h1 | ⟨t, l1, h1, h2⟩
      · obtain ⟨l0, rfl, k1⟩ := ((strong_next _).1 l).2 r h1
        refine ⟨l0, rfl, fun r' hr => ?_⟩
        unfold pClause
        rw [k1 _ hr]; rfl
      · obtain ⟨l0, rfl, k1⟩ := ((strong_next _).1 l).1 t l1 h1
        cases ea : assocB t.text tab with
        | none =>
          exfalso
          obtain ⟨_, _, _⟩ : True ∧ True ∧ True := ⟨trivial, trivial, trivial⟩
          cases hl : l0 ++ l1 with
          | nil => rw [hl] at h1; cases h1
          | cons a b =>
            rw [hl] at h1
            simp only [pNext] at h1
            split at h1
            · rename_i hf; cases h1; rw [ea] at hf; cases hf
            · cases h1
        | some p =>
          obtain ⟨k, hk⟩ := assocB_mem ea
          have hq := strong_map (fun c : Cl => c.withOff t.off) (h _ hk)
          rw [ea] at h2
          obtain ⟨m0, rfl, k2⟩ := (hq.1 l1).2 r h2
          refine ⟨l0 ++ m0, by simp, fun r' hr => ?_⟩
          rw [List.append_assoc]
          unfold pClause
          rw [k1 _ (head_app hr)]
          simp only [bindR, ea]
          exact k2 r' hr
  · obtain ⟨t, l1, h1, h2⟩ := bindR_ok e
    obtain ⟨l0, rfl, hne, k1⟩ := (strong_next _).2 l t l1 h1
    cases ea : assocB t.text tab with
    | none => rw [ea] at h2; cases h2
    | some p =>
      obtain ⟨k, hk⟩ := assocB_mem ea
      have hq := strong_map (fun c : Cl => c.withOff t.off) (h _ hk)
      rw [ea] at h2
      obtain ⟨m0, rfl, _, k2⟩ := hq.2 l1 x r h2
      refine ⟨l0 ++ m0, by simp, by simp [hne], fun r' => ?_⟩
      rw [List.append_assoc]
      unfold pClause
      rw [k1 _]
      simp only [bindR, ea]
      exact k2 r'
theorem strong_item : Strong pItem := strong_clause (by
  intro x hx
  simp only [itemTab, List.mem_cons, List.not_mem_nil, or_false] at hx
  rcases hx with rfl | rfl | rfl | rfl | rfl | rfl | rfl
  · exact strong_counted _
  · exact strong_counted _
  · exact strong_counted _
  · exact strong_spread
  · exact strong_apart
  · exact strong_near
  · exact strong_counted _)
theorem strong_service : Strong pService := strong_bind strong_name.1 fun _ => strong_bind (strong_lit _).1 fun _ => strong_bind (look_many (fun l m h => front_head _ l m h) strong_item.1 takes_item) fun _ => strong_map _ (strong_lit _)
theorem strong_cl : Strong (pClause clauseTab) := strong_clause (by
  intro x hx
  simp only [clauseTab, List.mem_cons, List.not_mem_nil, or_false] at hx
  rcases hx with rfl | rfl | rfl | rfl | rfl
  · exact strong_service
  · exact strong_window
  · exact strong_approve
  · exact strong_counted _
  · exact strong_cap)

theorem pText_eq (l : List Tok) : pText l = if l.isEmpty then .ok ([], l) else bindR (pClause clauseTab l) fun x r => bindR (pText r) fun xs r => .ok (x :: xs, r) := pMany_eq takes_cl l
/-- A text's reader stops at the end alone. -/
theorem pText_end : ∀ (n : Nat) (l : List Tok), l.length ≤ n → ∀ x r, pText l = .ok (x, r) → r = [] := by
  intro n
  induction n with
  | zero =>
    intro l hl x r h
    have : l = [] := List.eq_nil_of_length_eq_zero (by omega)
    subst this
    cases h; rfl
  | succ n ih =>
    intro l hl x r h
    rw [pText_eq] at h
    cases l with
    | nil => cases h; rfl
    | cons t l =>
      simp only [List.isEmpty_cons, if_false, Bool.false_eq_true] at h
      obtain ⟨a, l1, h1, h2⟩ := bindR_ok h
      obtain ⟨xs, l2, h3, h4⟩ := bindR_ok h2
      cases h4
      exact ih l1 (by have := takes_cl _ _ _ h1; simp at this hl; omega) _ _ h3
/-- Two lists of tokens, one behind the other. -/
theorem pText_app (m : List Tok) : ∀ (n : Nat) (l : List Tok), l.length ≤ n →
    (∀ x r, pText l = .ok (x, r) → pText (l ++ m) = bindR (pText m) fun ys r => .ok (x ++ ys, r)) ∧
    (∀ t r, pText l = .error (t :: r) → pText (l ++ m) = .error (t :: r ++ m)) := by
  intro n
  induction n with
  | zero =>
    intro l hl
    have : l = [] := List.eq_nil_of_length_eq_zero (by omega)
    subst this
    constructor
    · intro x r h
      cases h
      rw [List.nil_append]
      cases pText m with
      | error r => rfl
      | ok y => rfl
    · intro t r h; cases h
  | succ n ih =>
    intro l hl
    cases l with
    | nil =>
      constructor
      · intro x r h
        cases h
        rw [List.nil_append]
        cases pText m with
        | error r => rfl
        | ok y => rfl
      · intro t r h; cases h
    | cons t0 l =>
      constructor
      · intro x r h
        rw [pText_eq] at h ⊢
        simp only [List.isEmpty_cons, List.cons_append, if_false, Bool.false_eq_true] at h ⊢
        obtain ⟨a, l1, h1, h2⟩ := bindR_ok h
        obtain ⟨xs, l2, h3, h4⟩ := bindR_ok h2
        cases h4
        have hlt := takes_cl _ _ _ h1
        obtain ⟨l0, e, _, k⟩ := strong_cl.2 _ _ _ h1
        have hk : pClause clauseTab (t0 :: (l ++ m)) = .ok (a, l1 ++ m) := by
          rw [← k (l1 ++ m), ← List.append_assoc, ← e]; rfl
        rw [hk]
        simp only [bindR_ok, bindR]
        rw [(ih l1 (by simp at hl hlt; omega)).1 xs r h3]
        cases pText m with
        | error r => rfl
        | ok y => rfl
      · intro t r h
        rw [pText_eq] at h ⊢
        simp only [List.isEmpty_cons, List.cons_append, if_false, Bool.false_eq_true] at h ⊢
        rcases bindR_er h with h1 | ⟨a, l1, h1, h2⟩
        · obtain ⟨l0, e, k⟩ := (strong_cl.1 _).2 _ h1
          have hk : pClause clauseTab (t0 :: (l ++ m)) = .error (t :: (r ++ m)) := by
            rw [← k (t :: (r ++ m)) rfl, ← List.cons_append, e, List.append_assoc]; rfl
          rw [hk]; rfl
        · rcases bindR_er h2 with h3 | ⟨b, l2, h3, h4⟩
          · have hlt := takes_cl _ _ _ h1
            obtain ⟨l0, e, _, k⟩ := strong_cl.2 _ _ _ h1
            have hk : pClause clauseTab (t0 :: (l ++ m)) = .ok (a, l1 ++ m) := by
              rw [← k (l1 ++ m), ← List.append_assoc, ← e]; rfl
            rw [hk]
            simp only [bindR]
            rw [(ih l1 (by simp at hl hlt; omega)).2 t r h3]
            rfl
          · cases h4
theorem look_text : Look pText := look_many (fun l m h => by cases l <;> cases m <;> simp_all) strong_cl.1 takes_cl
end Go.Proofs.YtplnnpkohdmiaaaGreatDoor
