/-
  DERIVED. Several texts in one.
-/
import Derived.Test.YtfpcdgmdangmaaaGreatDoorYCAm
import Derived.Test.YtfpcdgmdangmaaaGreatDoorYPDm
set_option linter.unusedVariables false
set_option linter.unusedSimpArgs false

/- DERIVED. The reference's parser in memory, its leaves: offset, fail, is, take. -/
namespace Go.Proofs.YtfpcdgmdangmaaaGreatDoor
open Go.RowKit
set_option maxRecDepth 100000

/-- The reference's parser in block rb. -/
def RSt (w : World) (rb : Nat) (L : List Tok) (en : Int) (s : QS) : Prop :=
  ∃ v, w.heap[rb]? = some (.cells #[v, .int .i64 s.at_, .int .i64 en, .int .i64 s.e, .int .i64 s.off] 51 (0, 0)) ∧ TokSl w rb v L
theorem five_cells {W : World} {b : Nat} {x0 x1 x2 x3 x4 : Value} {T : TypeId} (h : W.heap[b]? = some (.cells #[x0, x1, x2, x3, x4] T (0, 0))) :
    W.cell? ⟨b, 0, none⟩ = some x0 ∧ W.cell? ⟨b, 1, none⟩ = some x1 ∧ W.cell? ⟨b, 2, none⟩ = some x2 ∧ W.cell? ⟨b, 3, none⟩ = some x3 ∧ W.cell? ⟨b, 4, none⟩ = some x4 := by
  refine ⟨?_, ?_, ?_, ?_, ?_⟩ <;> simp [World.cell?, h]
theorem five_frozen {W : World} {b : Nat} {x0 x1 x2 x3 x4 : Value} {T : TypeId} (h : W.heap[b]? = some (.cells #[x0, x1, x2, x3, x4] T (0, 0))) :
    W.frozen? ⟨b, 0, none⟩ = false ∧ W.frozen? ⟨b, 1, none⟩ = false ∧ W.frozen? ⟨b, 2, none⟩ = false ∧ W.frozen? ⟨b, 3, none⟩ = false ∧ W.frozen? ⟨b, 4, none⟩ = false := by
  refine ⟨?_, ?_, ?_, ?_, ?_⟩ <;> simp [World.frozen?, h]
theorem RSt.lt {w : World} {rb : Nat} {L : List Tok} {en : Int} {s : QS} (h : RSt w rb L en s) : rb < w.heap.size := by
  obtain ⟨v, hv, _⟩ := h
  exact (Array.getElem?_eq_some_iff.1 hv).1
theorem RSt.stands {w w' : World} {rb : Nat} {L : List Tok} {en : Int} {s : QS} (h : RSt w rb L en s) (H : ∀ b, b ≤ rb → w'.heap[b]? = w.heap[b]?) : RSt w' rb L en s := by
  obtain ⟨v, hv, ht⟩ := h
  exact ⟨v, (H rb (Nat.le_refl _)).trans hv, ht.stands fun b hb => H b (by omega)⟩
theorem RSt.below {w w' : World} {rb : Nat} {L : List Tok} {en : Int} {s : QS} (h : RSt w rb L en s) (hb : Below w.heap.size w w') : RSt w' rb L en s :=
  h.stands fun b hbb => hb.block b (by have := h.lt; omega)
theorem RSt.drew {w : World} {rb : Nat} {L : List Tok} {en : Int} {s : QS} (h : RSt w rb L en s) : RSt w.drew rb L en s := h
theorem RSt.drewN {w : World} {rb : Nat} {L : List Tok} {en : Int} {s : QS} (h : RSt w rb L en s) (n : Nat) : RSt (w.drewN n) rb L en s := h
theorem RSt.new {w : World} {rb : Nat} {L : List Tok} {en : Int} {s : QS} (h : RSt w rb L en s) (o : Obj) : RSt (w.alloc o) rb L en s := h.below ((Below.refl _ _).alloc (Nat.le_refl _) _)
theorem set5 {w : World} {rb : Nat} {x0 x1 x2 x3 x4 : Value} {T : TypeId} (h : w.heap[rb]? = some (.cells #[x0, x1, x2, x3, x4] T (0, 0))) (v : Value) :
    (w.setCell ⟨rb, 1, none⟩ v).heap[rb]? = some (.cells #[x0, v, x2, x3, x4] T (0, 0)) ∧ (w.setCell ⟨rb, 3, none⟩ v).heap[rb]? = some (.cells #[x0, x1, x2, v, x4] T (0, 0)) ∧ (w.setCell ⟨rb, 4, none⟩ v).heap[rb]? = some (.cells #[x0, x1, x2, x3, v] T (0, 0)) := by
  have hlt := (Array.getElem?_eq_some_iff.1 h).1
  have hg := (Array.getElem?_eq_some_iff.1 h).2
  refine ⟨?_, ?_, ?_⟩ <;> simp [World.setCell, hlt, Array.getElem_modify, hg]
theorem RSt.setAt {w : World} {rb : Nat} {L : List Tok} {en : Int} {s : QS} (h : RSt w rb L en s) (n : Nat) : RSt (w.setCell ⟨rb, 1, none⟩ (.int .i64 n)) rb L en ⟨n, s.e, s.off⟩ := by
  obtain ⟨v, hv, ht⟩ := h
  exact ⟨v, (set5 hv _).1, ht.stands fun b hb => heap_setCell_ne _ _ (by omega)⟩
theorem RSt.setE {w : World} {rb : Nat} {L : List Tok} {en : Int} {s : QS} (h : RSt w rb L en s) (n : Int) : RSt (w.setCell ⟨rb, 3, none⟩ (.int .i64 n)) rb L en ⟨s.at_, n, s.off⟩ := by
  obtain ⟨v, hv, ht⟩ := h
  exact ⟨v, (set5 hv _).2.1, ht.stands fun b hb => heap_setCell_ne _ _ (by omega)⟩
theorem RSt.setOff {w : World} {rb : Nat} {L : List Tok} {en : Int} {s : QS} (h : RSt w rb L en s) (n : Int) : RSt (w.setCell ⟨rb, 4, none⟩ (.int .i64 n)) rb L en ⟨s.at_, s.e, n⟩ := by
  obtain ⟨v, hv, ht⟩ := h
  exact ⟨v, (set5 hv _).2.2, ht.stands fun b hb => heap_setCell_ne _ _ (by omega)⟩
/-- The parser's cells. -/
theorem RSt.cells {w : World} {rb : Nat} {L : List Tok} {en : Int} {s : QS} (h : RSt w rb L en s) : ∃ A c, L.length ≤ c ∧ c ≤ maxLen ∧ TokSl w rb (.slice A L.length c) L ∧
    w.cell? ⟨rb, 0, none⟩ = some (.slice A L.length c) ∧ w.cell? ⟨rb, 1, none⟩ = some (.int .i64 s.at_) ∧ w.cell? ⟨rb, 2, none⟩ = some (.int .i64 en) ∧ w.cell? ⟨rb, 3, none⟩ = some (.int .i64 s.e) ∧ w.cell? ⟨rb, 4, none⟩ = some (.int .i64 s.off) ∧
    w.frozen? ⟨rb, 1, none⟩ = false ∧ w.frozen? ⟨rb, 3, none⟩ = false ∧ w.frozen? ⟨rb, 4, none⟩ = false := by
  obtain ⟨v, hv, ht⟩ := h
  obtain ⟨A, c, rfl, h2, h3, _⟩ := id ht
  obtain ⟨k0, k1, k2, k3, k4⟩ := five_cells hv
  obtain ⟨f0, f1, f2, f3, f4⟩ := five_frozen hv
  exact ⟨A, c, h2, h3, ht, k0, k1, k2, k3, k4, f1, f3, f4⟩
/-- At a token that there is: its cells too. -/
theorem RSt.tok {w : World} {rb : Nat} {L : List Tok} {en : Int} {s : QS} (h : RSt w rb L en s) (hs : s.at_ < L.length) : ∃ b o c, L.length ≤ c ∧ c ≤ maxLen ∧ b < rb ∧
    w.cell? ⟨rb, 0, none⟩ = some (.slice (some ⟨b, o, none⟩) L.length c) ∧
    w.cell? ⟨b, o + s.at_ * 4, none⟩ = some (.int .u8 L[s.at_].kind) ∧ w.cell? ⟨b, o + s.at_ * 4 + 1, none⟩ = some (.string L[s.at_].text) ∧ w.cell? ⟨b, o + s.at_ * 4 + 2, none⟩ = some (.int .i64 L[s.at_].num) ∧ w.cell? ⟨b, o + s.at_ * 4 + 3, none⟩ = some (.int .i64 L[s.at_].off) := by
  obtain ⟨v, hv, ht⟩ := h
  obtain ⟨b, o, c, rfl, hb, hc, hm, q0, q1, q2, q3⟩ := ht.at_ hs
  exact ⟨b, o, c, hc, hm, hb, (five_cells hv).1, q0, q1, q2, q3⟩
theorem offOf_drop {en : Int} {L : List Tok} {n : Nat} : offOf en (L.drop n) = (match L[n]? with | some t => t.off | none => en) := by
  cases hL : L[n]? with
  | none =>
    have hd : L.drop n = [] := List.drop_of_length_le (by simpa using hL)
    rw [hd]; rfl
  | some t =>
    obtain ⟨hlt, ht⟩ := List.getElem?_eq_some_iff.1 hL
    rw [← List.getElem_cons_drop hlt, ht]; rfl

/-- What a call that only reads leaves. -/
def Reads (v : Value) (w : World) (e : Ending) (w' : World) : Prop := ∃ n, e = .returned v ∧ w' = w.drewN n

set_option maxHeartbeats 4000000 in
theorem q_offset (rb : Nat) (L : List Tok) (en : Int) (s : QS) (w : World) (h : RSt w rb L en s) :
    Calls Tryz.prog 44 #[.pointer (some ⟨rb, 0, none⟩)] w (Reads (.int .i64 (offOf en (L.drop s.at_))) w) := by
  have hfm : Tryz.prog.follows Departure.mixedOrders = true := by kernel_rfl
  rw [offOf_drop]
  by_cases hlt : s.at_ < L.length
  · rw [List.getElem?_eq_getElem hlt]
    obtain ⟨b, o, c, hc, hm, hb, k0, q0, q1, q2, q3⟩ := h.tok hlt
    obtain ⟨_, _, -, -, -, -, k1, k2, k3, k4, -⟩ := h.cells
    unfold maxLen at hm
    have h1 : decide (s.at_ < L.length) = true := decide_eq_true hlt
    have i0 : (0 : Int) ≤ (s.at_ : Int) := Int.natCast_nonneg _
    have i1 : (s.at_ : Int) < (L.length : Int) := by omega
    simp only
    generalize L[s.at_] = t at q0 q1 q2 q3 ⊢
    clear h
    go_enter Tryz.func44, Tryz.ntmps44
    go_wp2_with (fail)
    go_quiet (fail)
    go_wp2_with (fail)
    go_quiet (fail)
    go_wp2_with (fail)
    go_ret
    exact ⟨_, rfl, by rw [World.drewN_drewN]⟩
  · have hn : L[s.at_]? = none := List.getElem?_eq_none (by omega)
    rw [hn]
    obtain ⟨A, c, hc, hm, -, k0, k1, k2, k3, k4, -⟩ := h.cells
    unfold maxLen at hm
    have h1 : decide (s.at_ < L.length) = false := decide_eq_false hlt
    have hge : (L.length : Int) ≤ (s.at_ : Int) := by omega
    clear h hn
    go_enter Tryz.func44, Tryz.ntmps44
    go_wp2_with (fail)
    go_quiet (fail)
    go_wp2_with (fail)
    go_ret
    exact ⟨_, rfl, rfl⟩

/-- What a call leaves that takes tokens: the parser's new state; all other blocks stand. -/
def Moved (v : Value) (rb : Nat) (L : List Tok) (en : Int) (s : QS) (w : World) (e : Ending) (w' : World) : Prop := e = .returned v ∧ RSt w' rb L en s ∧ KB w.heap.size rb w w'
theorem KB.drew {n rb : Nat} {a b : World} (h : KB n rb a b) : KB n rb a b.drew := ⟨h.os, h.tape, h.output, h.size, h.block⟩
theorem KB.drewN {n rb : Nat} {a b : World} (h : KB n rb a b) (k : Nat) : KB n rb a (b.drewN k) := ⟨h.os, h.tape, h.output, h.size, h.block⟩

set_option maxHeartbeats 4000000 in
theorem q_fail (rb : Nat) (L : List Tok) (en : Int) (s : QS) (w : World) (h : RSt w rb L en s) :
    Calls Tryz.prog 49 #[.pointer (some ⟨rb, 0, none⟩)] w (Moved (.tuple #[]) rb L en (qFail L en s) w) := by
  obtain ⟨A, c, hc, hm, -, k0, k1, k2, k3, k4, f1, f3, f4⟩ := h.cells
  by_cases he : s.e = 0
  · rw [qFail_ok he]
    have hb : (s.e == 0) = true := by rw [beq_iff_eq]; exact he
    have H := Lib.hid (h.setE 4)
    have hlt := h.lt
    clear h he
    go_enter Tryz.func49, Tryz.ntmps49
    go_wp2_with (go_at_call 44; refine (q_offset rb L en _ _ H.out).mono ?_; rintro e w1 ⟨n, rfl, rfl⟩)
    go_end0
    exact ⟨rfl, (H.out.drewN n).setOff _, ((((KB.refl _ _ _).setP _).drewN n).setP _)⟩
  · rw [qFail_ne he]
    have hb : (s.e == 0) = false := by rw [beq_eq_false_iff_ne]; exact he
    have H := Lib.hid h
    clear h he
    go_enter Tryz.func49, Tryz.ntmps49
    go_wp2_with (fail)
    go_end0
    exact ⟨rfl, H.out, KB.refl _ _ _⟩

theorem ret_bool2 {a b : Bool} (h : a = b) : Ending.returned (.bool a) = .returned (.bool b) := by rw [h]
set_option maxHeartbeats 4000000 in
theorem q_is (rb : Nat) (t : ByteArray) (L : List Tok) (en : Int) (s : QS) (w : World) (h : RSt w rb L en s) :
    Calls Tryz.prog 83 #[.pointer (some ⟨rb, 0, none⟩), .string t] w (Reads (.bool (qIs L (fitLit t) s)) w) := by
  have hfm : Tryz.prog.follows Departure.mixedOrders = true := by kernel_rfl
  unfold qIs
  by_cases he : s.e = 0
  · have hb : (s.e == 0) = true := by rw [beq_iff_eq]; exact he
    rw [hb]
    clear he
    by_cases hlt : s.at_ < L.length
    · rw [List.getElem?_eq_getElem hlt]
      obtain ⟨b, o, c, hc, hm, hbb, k0, q0, q1, q2, q3⟩ := h.tok hlt
      obtain ⟨_, _, -, -, -, -, k1, k2, k3, k4, -⟩ := h.cells
      unfold maxLen at hm
      have h1 : decide (s.at_ < L.length) = true := decide_eq_true hlt
      have i0 : (0 : Int) ≤ (s.at_ : Int) := Int.natCast_nonneg _
      have i1 : (s.at_ : Int) < (L.length : Int) := by omega
      simp only
      generalize L[s.at_] = tk at q0 q1 q2 q3 ⊢
      clear h
      unfold fitLit
      cases hx : (tk.text.toList == t.toList) with
      | true =>
        have hx' : tk.text.toList = t.toList := by simpa using hx
        have HX := Lib.hid hx'
        clear hx'
        go_enter Tryz.func83, Tryz.ntmps83
        go_wp2_with (fail)
        go_quiet (fail)
        go_wp2_with (fail)
        go_ret
        exact ⟨_, rfl, rfl⟩
      | false =>
        go_enter Tryz.func83, Tryz.ntmps83
        go_wp2_with (fail)
        go_quiet (fail)
        go_wp2_with (fail)
        go_ret
        exact ⟨_, rfl, rfl⟩
    · have hn : L[s.at_]? = none := List.getElem?_eq_none (by omega)
      rw [hn]
      obtain ⟨A, c, hc, hm, -, k0, k1, k2, k3, k4, -⟩ := h.cells
      unfold maxLen at hm
      have h1 : decide (s.at_ < L.length) = false := decide_eq_false hlt
      have hge : (L.length : Int) ≤ (s.at_ : Int) := by omega
      clear h hn
      go_enter Tryz.func83, Tryz.ntmps83
      go_wp2_with (fail)
      go_quiet (fail)
      go_wp2_with (fail)
      go_ret
      exact ⟨_, rfl, rfl⟩
  · have hb : (s.e == 0) = false := by rw [beq_eq_false_iff_ne]; exact he
    rw [hb]
    simp only [Bool.false_and]
    obtain ⟨A, c, hc, hm, -, k0, k1, k2, k3, k4, -⟩ := h.cells
    clear h he
    go_enter Tryz.func83, Tryz.ntmps83
    go_wp2_with (fail)
    go_quiet (fail)
    go_wp2_with (fail)
    go_ret
    exact ⟨_, rfl, rfl⟩

theorem qGet_eq {α : Type} (L : List Tok) (en : Int) (f : Tok → Bool) (g : Tok → α) (d : α) (s : QS) : (qIs L f s = false → qGet L en f g d s = (d, qFail L en s)) ∧
    (qIs L f s = true → s.e = 0 ∧ ∃ h : s.at_ < L.length, f L[s.at_] = true ∧ qGet L en f g d s = (g L[s.at_], ⟨s.at_ + 1, s.e, s.off⟩)) := by
  unfold qIs qGet
  constructor
  · intro h
    cases hL : L[s.at_]? with
    | none => rfl
    | some t =>
      rw [hL] at h
      simp only [Bool.and_eq_false_iff] at h
      simp only
      rw [if_neg]
      rintro ⟨h1, h2⟩
      rcases h with h | h
      · rw [h1] at h; simp at h
      · rw [h2] at h; cases h
  · intro h
    cases hL : L[s.at_]? with
    | none => rw [hL] at h; simp at h
    | some t =>
      rw [hL] at h
      simp only [Bool.and_eq_true, beq_iff_eq] at h
      obtain ⟨hlt, ht⟩ := List.getElem?_eq_some_iff.1 hL
      exact ⟨h.1, hlt, by rw [ht]; exact h.2, by rw [ht]; simp only; rw [if_pos h]⟩

set_option maxHeartbeats 4000000 in
theorem q_take (rb : Nat) (t : ByteArray) (L : List Tok) (hL : L.length ≤ 5000) (en : Int) (s : QS) (w : World) (h : RSt w rb L en s) :
    Calls Tryz.prog 48 #[.pointer (some ⟨rb, 0, none⟩), .string t] w (Moved (.tuple #[]) rb L en (qTake L en t s) w) := by
  have hq := qGet_eq L en (fitLit t) (fun _ => ()) () s
  unfold qTake
  have H := Lib.hid h
  have HI := Lib.hid (q_is rb t L en s w h)
  cases hi : qIs L (fitLit t) s with
  | false =>
    rw [hq.1 hi]
    clear hq h
    have Hi := Lib.hid hi
    clear hi
    go_enter Tryz.func48, Tryz.ntmps48
    go_wp2_with (first | (go_at_call 83; refine HI.out.mono ?_; rintro e w1 ⟨n, rfl, rfl⟩; rw [Hi.out]) | (go_at_call 49; refine (q_fail rb L en s _ (H.out.drewN _)).mono ?_; rintro e w2 ⟨rfl, h2, b2⟩))
    go_end0
    exact ⟨rfl, h2, ((KB.refl _ _ _).drewN _).trans b2⟩
  | true =>
    obtain ⟨he, hlt, -, hq2⟩ := hq.2 hi
    rw [hq2]
    obtain ⟨A, c, hc, hm, -, k0, k1, k2, k3, k4, f1, f3, f4⟩ := h.cells
    clear hq h hq2 he
    have Hi := Lib.hid hi
    clear hi
    go_enter Tryz.func48, Tryz.ntmps48
    go_wp2_with (first | (go_at_call 83; refine HI.out.mono ?_; rintro e w1 ⟨n, rfl, rfl⟩; rw [Hi.out]))
    go_end0
    exact ⟨rfl, by simpa using (H.out.drewN n).setAt (s.at_ + 1), ((KB.refl _ _ _).drewN _).setP _⟩
end Go.Proofs.YtfpcdgmdangmaaaGreatDoor

/- DERIVED. The reference's parser: number. -/
namespace Go.Proofs.YtfpcdgmdangmaaaGreatDoor
open Go.RowKit
set_option maxRecDepth 100000

theorem q_Word (s : ByteArray) (w : World) :
    Calls Tryz.prog 94 #[.string s] w fun e w' => e = .returned (.bool (isWordB s)) ∧ w' = w := by
  go_enter Tryz.func94, Tryz.ntmps94
  go_wp2
  all_goals go_ret
  all_goals refine ⟨ret_bool ?_, rfl⟩
  all_goals simp_all [isWordB, words]
theorem q_Scope (s : ByteArray) (w : World) :
    Calls Tryz.prog 85 #[.string s] w fun e w' => e = .returned (.int .u8 (domB s)) ∧ w' = w := by
  go_enter Tryz.func85, Tryz.ntmps85
  go_wp2
  all_goals go_ret
  all_goals refine ⟨?_, rfl⟩
  all_goals simp_all [domB]

theorem qGet_at {α : Type} (L : List Tok) (en : Int) (f : Tok → Bool) (g : Tok → α) (d : α) (s : QS) (he : s.e = 0) (hlt : s.at_ < L.length) : qGet L en f g d s = if f L[s.at_] = true then (g L[s.at_], ⟨s.at_ + 1, s.e, s.off⟩) else (d, qFail L en s) := by
  unfold qGet
  rw [List.getElem?_eq_getElem hlt]
  simp only [he, true_and]
theorem qGet_no {α : Type} (L : List Tok) (en : Int) (f : Tok → Bool) (g : Tok → α) (d : α) (s : QS) (h : s.e ≠ 0 ∨ L.length ≤ s.at_) : qGet L en f g d s = (d, qFail L en s) := by
  unfold qGet
  rcases h with h | h
  · cases L[s.at_]? with
    | none => rfl
    | some t => simp only; rw [if_neg (fun c => h c.1)]
  · rw [List.getElem?_eq_none h]
/-- At a token that there is. -/
theorem RSt.at1 {w : World} {rb : Nat} {L : List Tok} {en : Int} {s : QS} (h : RSt w rb L en s) (n : Nat) : RSt ((w.drewN n).setCell ⟨rb, 1, none⟩ (.int .i64 (s.at_ + 1))) rb L en ⟨s.at_ + 1, s.e, s.off⟩ := by
  simpa using (h.drewN n).setAt (s.at_ + 1)

set_option maxHeartbeats 8000000 in
theorem q_number (rb : Nat) (L : List Tok) (hL : L.length ≤ 5000) (en : Int) (s : QS) (w : World) (h : RSt w rb L en s) :
    Calls Tryz.prog 47 #[.pointer (some ⟨rb, 0, none⟩)] w (Moved (.int .i64 (qNum L en s).1) rb L en (qNum L en s).2 w) := by
  have hfm : Tryz.prog.follows Departure.mixedOrders = true := by kernel_rfl
  unfold qNum
  have H := Lib.hid h
  have hrl := h.lt
  by_cases he : s.e = 0
  · have hb : (s.e != 0) = false := by rw [bne_eq_false_iff_eq]; exact he
    by_cases hlt : s.at_ < L.length
    · rw [qGet_at L en fitNum _ _ s he hlt]
      obtain ⟨b, o, c, hc, hm, hbb, k0, q0, q1, q2, q3⟩ := h.tok hlt
      obtain ⟨_, _, -, -, -, -, k1, k2, k3, k4, f1, f3, f4⟩ := h.cells
      have hnr : b ≠ rb := by omega
      unfold maxLen at hm
      have h1 : decide (L.length ≤ s.at_) = false := decide_eq_false (by omega)
      have i0 : (0 : Int) ≤ (s.at_ : Int) := Int.natCast_nonneg _
      have i1 : (s.at_ : Int) < (L.length : Int) := by omega
      clear h he
      generalize L[s.at_] = tk at q0 q1 q2 q3 ⊢
      cases hf : fitNum tk with
      | true =>
        rw [if_pos rfl]
        simp only
        have hf1 : (tk.kind == 2) = true := hf
        have hf2 : (tk.kind != 2) = false := by rw [bne, hf1]; rfl
        clear hf
        go_enter Tryz.func47, Tryz.ntmps47
        go_wp2_with (fail)
        go_quiet (fail)
        go_wp2_with (fail)
        go_quiet (fail)
        go_wp2_with (fail)
        go_ret
        exact ⟨rfl, (H.out.at1 _).drewN _, ((((KB.refl _ _ _).drewN _).setP _).drewN _)⟩
      | false =>
        rw [if_neg (by decide)]
        simp only
        have hf1 : (tk.kind == 2) = false := hf
        have hf2 : (tk.kind != 2) = true := by rw [bne, hf1]; rfl
        clear hf
        go_enter Tryz.func47, Tryz.ntmps47
        go_wp2_with (fail)
        go_quiet (fail)
        go_wp2_with (go_at_call 49; refine (q_fail rb L en s _ (H.out.drewN _)).mono ?_; rintro e w2 ⟨rfl, h2, b2⟩)
        go_ret
        exact ⟨rfl, h2, ((KB.refl _ _ _).drewN _).trans b2⟩
    · rw [qGet_no L en fitNum _ _ s (.inr (by omega))]
      obtain ⟨A, c, hc, hm, -, k0, k1, k2, k3, k4, f1, f3, f4⟩ := h.cells
      unfold maxLen at hm
      have h1 : decide (L.length ≤ s.at_) = true := decide_eq_true (by omega)
      have hge : (L.length : Int) ≤ (s.at_ : Int) := by omega
      clear h he
      go_enter Tryz.func47, Tryz.ntmps47
      go_wp2_with (fail)
      go_quiet (fail)
      go_wp2_with (go_at_call 49; refine (q_fail rb L en s _ (H.out.drewN _)).mono ?_; rintro e w2 ⟨rfl, h2, b2⟩)
      go_ret
      exact ⟨rfl, h2, ((KB.refl _ _ _).drewN _).trans b2⟩
  · have hb : (s.e != 0) = true := by rw [bne_iff_ne]; exact he
    rw [qGet_no L en fitNum _ _ s (.inl he)]
    obtain ⟨A, c, hc, hm, -, k0, k1, k2, k3, k4, f1, f3, f4⟩ := h.cells
    clear h he
    go_enter Tryz.func47, Tryz.ntmps47
    go_wp2_with (fail)
    go_quiet (fail)
    go_wp2_with (go_at_call 49; refine (q_fail rb L en s _ (H.out.drewN _)).mono ?_; rintro e w2 ⟨rfl, h2, b2⟩)
    go_ret
    exact ⟨rfl, h2, ((KB.refl _ _ _).drewN _).trans b2⟩

set_option maxHeartbeats 8000000 in
theorem q_scope (rb : Nat) (L : List Tok) (hL : L.length ≤ 5000) (en : Int) (s : QS) (w : World) (h : RSt w rb L en s) :
    Calls Tryz.prog 46 #[.pointer (some ⟨rb, 0, none⟩)] w (Moved (.int .u8 (qScope L en s).1) rb L en (qScope L en s).2 w) := by
  have hfm : Tryz.prog.follows Departure.mixedOrders = true := by kernel_rfl
  unfold qScope
  have H := Lib.hid h
  have hrl := h.lt
  by_cases he : s.e = 0
  · have hb : (s.e != 0) = false := by rw [bne_eq_false_iff_eq]; exact he
    by_cases hlt : s.at_ < L.length
    · rw [qGet_at L en fitScope _ _ s he hlt]
      obtain ⟨b, o, c, hc, hm, hbb, k0, q0, q1, q2, q3⟩ := h.tok hlt
      obtain ⟨_, _, -, -, -, -, k1, k2, k3, k4, f1, f3, f4⟩ := h.cells
      have hnr : b ≠ rb := by omega
      unfold maxLen at hm
      have h1 : decide (L.length ≤ s.at_) = false := decide_eq_false (by omega)
      have i0 : (0 : Int) ≤ (s.at_ : Int) := Int.natCast_nonneg _
      have i1 : (s.at_ : Int) < (L.length : Int) := by omega
      clear h he
      generalize L[s.at_] = tk at q0 q1 q2 q3 ⊢
      cases hf : fitScope tk with
      | true =>
        rw [if_pos rfl]
        simp only
        have hf1 : (domB tk.text != 0) = true := hf
        have hf2 : (domB tk.text == 0) = false := by rw [bne, Bool.not_eq_true'] at hf1; exact hf1
        clear hf
        go_enter Tryz.func46, Tryz.ntmps46
        go_wp2_with (fail)
        go_quiet ((go_at_call 85; exact Calls.quiet_of_same (q_Scope _ _)))
        go_wp2_with (fail)
        go_quiet ((go_at_call 85; exact Calls.quiet_of_same (q_Scope _ _)))
        go_wp2_with (fail)
        go_ret
        exact ⟨rfl, (H.out.at1 _).drewN _, ((((KB.refl _ _ _).drewN _).setP _).drewN _)⟩
      | false =>
        rw [if_neg (by decide)]
        simp only
        have hf1 : (domB tk.text != 0) = false := hf
        have hf2 : (domB tk.text == 0) = true := by rw [bne, Bool.not_eq_false'] at hf1; exact hf1
        clear hf
        go_enter Tryz.func46, Tryz.ntmps46
        go_wp2_with (fail)
        go_quiet ((go_at_call 85; exact Calls.quiet_of_same (q_Scope _ _)))
        go_wp2_with (go_at_call 49; refine (q_fail rb L en s _ (H.out.drewN _)).mono ?_; rintro e w2 ⟨rfl, h2, b2⟩)
        go_ret
        exact ⟨rfl, h2, ((KB.refl _ _ _).drewN _).trans b2⟩
    · rw [qGet_no L en fitScope _ _ s (.inr (by omega))]
      obtain ⟨A, c, hc, hm, -, k0, k1, k2, k3, k4, f1, f3, f4⟩ := h.cells
      unfold maxLen at hm
      have h1 : decide (L.length ≤ s.at_) = true := decide_eq_true (by omega)
      have hge : (L.length : Int) ≤ (s.at_ : Int) := by omega
      clear h he
      go_enter Tryz.func46, Tryz.ntmps46
      go_wp2_with (fail)
      go_quiet ((go_at_call 85; exact Calls.quiet_of_same (q_Scope _ _)))
      go_wp2_with (go_at_call 49; refine (q_fail rb L en s _ (H.out.drewN _)).mono ?_; rintro e w2 ⟨rfl, h2, b2⟩)
      go_ret
      exact ⟨rfl, h2, ((KB.refl _ _ _).drewN _).trans b2⟩
  · have hb : (s.e != 0) = true := by rw [bne_iff_ne]; exact he
    rw [qGet_no L en fitScope _ _ s (.inl he)]
    obtain ⟨A, c, hc, hm, -, k0, k1, k2, k3, k4, f1, f3, f4⟩ := h.cells
    clear h he
    go_enter Tryz.func46, Tryz.ntmps46
    go_wp2_with (fail)
    go_quiet ((go_at_call 85; exact Calls.quiet_of_same (q_Scope _ _)))
    go_wp2_with (go_at_call 49; refine (q_fail rb L en s _ (H.out.drewN _)).mono ?_; rintro e w2 ⟨rfl, h2, b2⟩)
    go_ret
    exact ⟨rfl, h2, ((KB.refl _ _ _).drewN _).trans b2⟩

set_option maxHeartbeats 8000000 in
theorem q_name (rb : Nat) (L : List Tok) (hL : L.length ≤ 5000) (en : Int) (s : QS) (w : World) (h : RSt w rb L en s) :
    Calls Tryz.prog 82 #[.pointer (some ⟨rb, 0, none⟩)] w (Moved (.string (qName L en s).1) rb L en (qName L en s).2 w) := by
  have hfm : Tryz.prog.follows Departure.mixedOrders = true := by kernel_rfl
  unfold qName
  have H := Lib.hid h
  have hrl := h.lt
  by_cases he : s.e = 0
  · have hb : (s.e != 0) = false := by rw [bne_eq_false_iff_eq]; exact he
    by_cases hlt : s.at_ < L.length
    · rw [qGet_at L en fitName _ _ s he hlt]
      obtain ⟨b, o, c, hc, hm, hbb, k0, q0, q1, q2, q3⟩ := h.tok hlt
      obtain ⟨_, _, -, -, -, -, k1, k2, k3, k4, f1, f3, f4⟩ := h.cells
      have hnr : b ≠ rb := by omega
      unfold maxLen at hm
      have h1 : decide (L.length ≤ s.at_) = false := decide_eq_false (by omega)
      have i0 : (0 : Int) ≤ (s.at_ : Int) := Int.natCast_nonneg _
      have i1 : (s.at_ : Int) < (L.length : Int) := by omega
      clear h he
      generalize L[s.at_] = tk at q0 q1 q2 q3 ⊢
      cases hf : fitName tk with
      | true =>
        rw [if_pos rfl]
        simp only
        have hf0 : (tk.kind == 1 && !isWordB tk.text) = true := hf
        rw [Bool.and_eq_true, Bool.not_eq_true'] at hf0
        obtain ⟨hf1, hf3⟩ := hf0
        have hf2 : (tk.kind != 1) = false := by rw [bne, hf1]; rfl
        clear hf
        go_enter Tryz.func82, Tryz.ntmps82
        go_wp2_with (fail)
        go_quiet ((go_at_call 94; exact Calls.quiet_of_same (q_Word _ _)))
        go_wp2_with (fail)
        go_quiet (fail)
        go_wp2_with (fail)
        go_ret
        exact ⟨rfl, (H.out.at1 _).drewN _, ((((KB.refl _ _ _).drewN _).setP _).drewN _)⟩
      | false =>
        rw [if_neg (by decide)]
        simp only
        have hf0 : (tk.kind == 1 && !isWordB tk.text) = false := hf
        clear hf
        cases hf : (tk.kind == 1) with
        | true =>
          rw [hf, Bool.true_and, Bool.not_eq_false'] at hf0
          have hf2 : (tk.kind != 1) = false := by rw [bne, hf]; rfl
          go_enter Tryz.func82, Tryz.ntmps82
          go_wp2_with (fail)
          go_quiet ((go_at_call 94; exact Calls.quiet_of_same (q_Word _ _)))
          go_wp2_with (go_at_call 49; refine (q_fail rb L en s _ (H.out.drewN _)).mono ?_; rintro e w2 ⟨rfl, h2, b2⟩)
          go_ret
          exact ⟨rfl, h2, ((KB.refl _ _ _).drewN _).trans b2⟩
        | false =>
          clear hf0
          have hf2 : (tk.kind != 1) = true := by rw [bne, hf]; rfl
          go_enter Tryz.func82, Tryz.ntmps82
          go_wp2_with (fail)
          go_quiet ((go_at_call 94; exact Calls.quiet_of_same (q_Word _ _)))
          go_wp2_with (go_at_call 49; refine (q_fail rb L en s _ (H.out.drewN _)).mono ?_; rintro e w2 ⟨rfl, h2, b2⟩)
          go_ret
          exact ⟨rfl, h2, ((KB.refl _ _ _).drewN _).trans b2⟩
    · rw [qGet_no L en fitName _ _ s (.inr (by omega))]
      obtain ⟨A, c, hc, hm, -, k0, k1, k2, k3, k4, f1, f3, f4⟩ := h.cells
      unfold maxLen at hm
      have h1 : decide (L.length ≤ s.at_) = true := decide_eq_true (by omega)
      have hge : (L.length : Int) ≤ (s.at_ : Int) := by omega
      clear h he
      go_enter Tryz.func82, Tryz.ntmps82
      go_wp2_with (fail)
      go_quiet ((go_at_call 94; exact Calls.quiet_of_same (q_Word _ _)))
      go_wp2_with (go_at_call 49; refine (q_fail rb L en s _ (H.out.drewN _)).mono ?_; rintro e w2 ⟨rfl, h2, b2⟩)
      go_ret
      exact ⟨rfl, h2, ((KB.refl _ _ _).drewN _).trans b2⟩
  · have hb : (s.e != 0) = true := by rw [bne_iff_ne]; exact he
    rw [qGet_no L en fitName _ _ s (.inl he)]
    obtain ⟨A, c, hc, hm, -, k0, k1, k2, k3, k4, f1, f3, f4⟩ := h.cells
    clear h he
    go_enter Tryz.func82, Tryz.ntmps82
    go_wp2_with (fail)
    go_quiet ((go_at_call 94; exact Calls.quiet_of_same (q_Word _ _)))
    go_wp2_with (go_at_call 49; refine (q_fail rb L en s _ (H.out.drewN _)).mono ?_; rintro e w2 ⟨rfl, h2, b2⟩)
    go_ret
    exact ⟨rfl, h2, ((KB.refl _ _ _).drewN _).trans b2⟩
end Go.Proofs.YtfpcdgmdangmaaaGreatDoor
