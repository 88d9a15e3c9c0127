/-
  DERIVED. Several texts in one.
-/
import Derived.Test.YtplnnpkohdmiaaaGreatDoorYMm
set_option linter.unusedVariables false
set_option linter.unusedSimpArgs false

/- DERIVED. The landed parser's next, at each of the closures that it is asked with; name, number, literal, scope, area. -/
namespace Go.Proofs.YtplnnpkohdmiaaaGreatDoor
open Go.RowKit
set_option maxRecDepth 100000

/-- What a reader of the landed parser leaves: what it read as a value, or a panic at the token in front. -/
def RdPost {α : Type} (pb : Nat) (en : Int) (w : World) (val : α → World → Value → Prop) (r : Rd α) (e : Ending) (w' : World) : Prop :=
  KB w.heap.size pb w w' ∧
  match r with
  | .ok (x, l) => PSt w' pb l en ∧ ∃ v, e = .returned v ∧ val x w' v
  | .error l => PSt w' pb l en ∧ e = .panicked [{ v := .iface 25 (.int .i64 4), recovered := false }]

theorem PSt.below {w w' : World} {pb : Nat} {l : List Tok} {en : Int} (h : PSt w pb l en) (hb : Below w.heap.size w w') : PSt w' pb l en := by
  have hlt := h.lt
  obtain ⟨v, hv, ht⟩ := h
  exact ⟨v, (hb.block pb hlt).trans hv, ht.stands fun b hb' => hb.block b (by omega)⟩
theorem PSt.cell {w : World} {pb : Nat} {l : List Tok} {en : Int} (h : PSt w pb l en) : ∃ A c, w.cell? ⟨pb, 0, none⟩ = some (.slice A l.length c) ∧ w.frozen? ⟨pb, 0, none⟩ = false ∧ w.cell? ⟨pb, 1, none⟩ = some (.int .i64 en) ∧ TokSl w pb (.slice A l.length c) l ∧ l.length ≤ c ∧ c ≤ maxLen := by
  obtain ⟨v, hv, ht⟩ := h
  obtain ⟨A, c, rfl, h2, h3, h4⟩ := id ht
  exact ⟨A, c, by simp [World.cell?, hv], by simp [World.frozen?, hv], by simp [World.cell?, hv], ht, h2, h3⟩
theorem heap_setCell_ne (w : World) {b k j : Nat} (v : Value) (h : k ≠ b) : (w.setCell ⟨b, j, none⟩ v).heap[k]? = w.heap[k]? := by
  simp only [World.setCell, Array.getElem?_modify]
  rw [if_neg (by omega)]
theorem PSt.set {w : World} {pb : Nat} {l m : List Tok} {en : Int} {v : Value} (h : PSt w pb l en) (hv : TokSl w pb v m) : PSt (w.setCell ⟨pb, 0, none⟩ v) pb m en := by
  obtain ⟨u, hu, _⟩ := h
  refine ⟨v, ?_, hv.stands fun k hk => heap_setCell_ne w v (by omega)⟩
  simp only [World.setCell, Array.getElem?_modify, if_pos trivial, hu]
  simp
theorem PSt.setNew {w : World} {pb B j : Nat} {l : List Tok} {en : Int} (h : PSt w pb l en) (hB : pb < B) (v : Value) : PSt (w.setCell ⟨B, j, none⟩ v) pb l en := by
  obtain ⟨u, hu, ht⟩ := h
  exact ⟨u, (heap_setCell_ne w v (by omega)).trans hu, ht.stands fun k hk => heap_setCell_ne w v (by omega)⟩
theorem KB.setNew {n pb B j : Nat} {a b : World} (h : KB n pb a b) (hB : n ≤ B) (v : Value) : KB n pb a (b.setCell ⟨B, j, none⟩ v) :=
  ⟨h.os, h.tape, h.output, by simpa using h.size, fun i hi hp => by rw [← h.block i hi hp]; exact heap_setCell_ne b v (by omega)⟩
theorem TokSl.last {w : World} {B : Nat} {A : Option Addr} {n c : Nat} {t : Tok} {l : List Tok} (h : TokSl w B (.slice A n c) (t :: l)) (hc : c = 1) : TokSl w B (.slice A l.length 0) l := by
  obtain ⟨b, o, rfl, h1, h2, _⟩ := h.tail
  have hl : l = [] := List.eq_nil_of_length_eq_zero (by omega)
  subst hl
  exact ⟨_, 0, rfl, Nat.le_refl _, Nat.zero_le _, fun h => absurd h (by decide)⟩

theorem four_cells {W : World} {b : Nat} {x0 x1 x2 x3 : Value} {T : TypeId} (h : W.heap[b]? = some (.cells #[x0, x1, x2, x3] T (0, 0))) :
    W.cell? ⟨b, 0, none⟩ = some x0 ∧ W.cell? ⟨b, 1, none⟩ = some x1 ∧ W.cell? ⟨b, 2, none⟩ = some x2 ∧ W.cell? ⟨b, 3, none⟩ = some x3 := by simp [World.cell?, h]
theorem four_frozen {W : World} {b : Nat} {x0 x1 x2 x3 : Value} {T : TypeId} (h : W.heap[b]? = some (.cells #[x0, x1, x2, x3] T (0, 0))) :
    W.frozen? ⟨b, 0, none⟩ = false ∧ W.frozen? ⟨b, 1, none⟩ = false ∧ W.frozen? ⟨b, 2, none⟩ = false ∧ W.frozen? ⟨b, 3, none⟩ = false := by simp [World.frozen?, h]
theorem four_new {w w' : World} {o : Obj} (h : Below (w.alloc o).heap.size (w.alloc o) w') : w'.heap[w.heap.size]? = some o :=
  (h.block _ (by simp)).trans (World.alloc_heap_new w o)
theorem four_old {w w1 w2 : World} {o o' : Obj} (h1 : Below (w.alloc o).heap.size (w.alloc o) w1) (h2 : Below (w1.alloc o').heap.size (w1.alloc o') w2) : w2.heap[w.heap.size]? = some o := by
  have hz := h1.size
  simp at hz
  refine (h2.block _ (by simp; omega)).trans (((Below.refl w1.heap.size w1).alloc (Nat.le_refl _) o').block _ (by omega) |>.trans (four_new h1))

set_option maxHeartbeats 1000000 in
theorem c_next_lit (pb : Nat) (l : List Tok) (en : Int) (w : World) (cb : Nat) (h : PSt w pb l en) (fits : Tok → Bool) (hz : fits (frontTok en []) = false)
    (hc : ∀ t w1, Below w.heap.size w w1 → Calls Tryz.prog 99 #[t.val, .pointer (some ⟨cb, 0, none⟩)] w1 fun e w' => e = .returned (.bool (fits t)) ∧ Below w1.heap.size w1 w') :
    Calls Tryz.prog 69 #[.pointer (some ⟨pb, 0, none⟩), .func (.func 99) #[] #[.pointer (some ⟨cb, 0, none⟩)]] w (RdPost pb en w (fun t _ v => v = Tok.val t) (pNext fits l)) := by
  have hlt := h.lt
  have P1 := Lib.hid (h.kept (World.grownBy_alloc w (.cells #[.int .u8 0, .string ⟨#[]⟩, .int .i64 0, .int .i64 0] 62) none) (by simp))
  obtain ⟨t, ht⟩ : ∃ t, t = frontTok en l := ⟨_, rfl⟩
  cases hf : fits t with
  | false =>
    have hp : pNext fits l = .error l := by
      cases l with
      | nil => rfl
      | cons a l =>
        have : t = a := ht
        subst this
        simp [pNext, hf]
    rw [hp]
    have H := Lib.hid h
    have Hc := Lib.hid (hc t)
    have Hf := Lib.hid hf
    have hfr := c_front pb l en _ P1.out
    rw [← ht] at hfr
    have Hfr := Lib.hid hfr
    clear h hc hf hp hfr hz ht
    obtain ⟨kd, tx, nm, off⟩ := t
    go_enter Tryz.func69, Tryz.ntmps69
    go_wp2_with (first | (go_at_call 30; refine Hfr.out.mono ?_; rintro e w1 ⟨rfl, b1⟩; have B1 := Lib.hid b1; have hz1 := b1.size; simp at hz1; clear b1; unfold Tok.val) | (go_at_call 99; refine (Hc.out _ ((((Below.refl _ _).alloc (Nat.le_refl _) _).trans (B1.out.mono (by simp))).alloc (by omega) _)).mono ?_; rintro e w2 ⟨rfl, b2⟩; rw [Hf.out]; have B2 := Lib.hid b2; have hz2 := b2.size; simp at hz2; clear b2))
    have hB : Below w.heap.size w w2 := ((((Below.refl _ _).alloc (Nat.le_refl _) _).trans (B1.out.mono (by simp))).alloc (by omega) _).trans (B2.out.mono (by simp; omega))
    exact ⟨rfl, KB.of_below hB, H.out.below hB, rfl⟩
  | true =>
    cases l with
    | nil =>
      have : t = frontTok en [] := ht
      rw [this, hz] at hf
      cases hf
    | cons a l =>
      have hta : t = a := ht
      subst hta
      have hp : pNext fits (t :: l) = .ok (t, l) := by simp [pNext, hf]
      rw [hp]
      have H := Lib.hid h
      have Hc := Lib.hid (hc t)
      have Hf := Lib.hid hf
      have hfr := c_front pb (t :: l) en _ P1.out
      have Hfr := Lib.hid hfr
      clear h hc hf hp hfr hz ht P1
      obtain ⟨kd, tx, nm, off⟩ := t
      go_enter Tryz.func69, Tryz.ntmps69
      go_wp2_with (first | (go_at_call 30; refine Hfr.out.mono ?_; rintro e w1 ⟨rfl, b1⟩; have B1 := Lib.hid b1; have hz1 := b1.size; simp at hz1; clear b1; unfold frontTok Tok.val) | (go_at_call 99; refine (Hc.out _ ((((Below.refl _ _).alloc (Nat.le_refl _) _).trans (B1.out.mono (by simp))).alloc (by omega) _)).mono ?_; rintro e w2 ⟨rfl, b2⟩; rw [Hf.out]; have B2 := Lib.hid b2; have hz2 := b2.size; simp at hz2; clear b2; have hB : Below w.heap.size w w2 := ((((Below.refl _ _).alloc (Nat.le_refl _) _).trans (B1.out.mono (by simp))).alloc (by omega) _).trans (B2.out.mono (by simp; omega)); have hP := H.out.below hB; obtain ⟨A, cc, hc0, hfz, -, hts, hcl, hcm⟩ := hP.cell; have Hcell := Lib.hid hc0; obtain ⟨b, o, rfl, -, -, -, -, -, -⟩ := hts.tail; have HB := Lib.hid hB; have HP := Lib.hid hP; clear hB hP; unfold maxLen at hcm; obtain ⟨t0, t1, t2, t3⟩ := four_cells (four_new B2.out); obtain ⟨r0, r1, r2, r3⟩ := four_cells (four_old B1.out B2.out); obtain ⟨f0, f1, f2, f3⟩ := four_frozen (four_old B1.out B2.out)))
      all_goals refine bodyPost_ret (v := .agg #[.int .u8 kd, .string tx, .int .i64 nm, .int .i64 off]) (by simp [results, Tryz.results69, go_sem, r0, r1, r2, r3]) rfl ?_
      · have htl := hts.last h
        exact ⟨(((((KB.of_below HB.out).setP _).setNew (Nat.le_refl _) _).setNew (Nat.le_refl _) _).setNew (Nat.le_refl _) _).setNew (Nat.le_refl _) _,
          ((((HP.out.set htl).setNew hlt _).setNew hlt _).setNew hlt _).setNew hlt _, _, rfl, rfl⟩
      · obtain ⟨b', o', e, -, -, -, -, htl, -⟩ := hts.tail
        cases e
        exact ⟨(((((KB.of_below HB.out).setP _).setNew (Nat.le_refl _) _).setNew (Nat.le_refl _) _).setNew (Nat.le_refl _) _).setNew (Nat.le_refl _) _,
          ((((HP.out.set htl).setNew hlt _).setNew hlt _).setNew hlt _).setNew hlt _, _, rfl, rfl⟩

set_option maxHeartbeats 1000000 in
theorem c_next_name (pb : Nat) (l : List Tok) (en : Int) (w : World) (h : PSt w pb l en) (fits : Tok → Bool) (hz : fits (frontTok en []) = false)
    (hc : ∀ t w1, Below w.heap.size w w1 → Calls Tryz.prog 98 #[t.val] w1 fun e w' => e = .returned (.bool (fits t)) ∧ Below w1.heap.size w1 w') :
    Calls Tryz.prog 69 #[.pointer (some ⟨pb, 0, none⟩), .func (.func 98) #[] #[]] w (RdPost pb en w (fun t _ v => v = Tok.val t) (pNext fits l)) := by
  have hlt := h.lt
  have P1 := Lib.hid (h.kept (World.grownBy_alloc w (.cells #[.int .u8 0, .string ⟨#[]⟩, .int .i64 0, .int .i64 0] 62) none) (by simp))
  obtain ⟨t, ht⟩ : ∃ t, t = frontTok en l := ⟨_, rfl⟩
  cases hf : fits t with
  | false =>
    have hp : pNext fits l = .error l := by
      cases l with
      | nil => rfl
      | cons a l =>
        have : t = a := ht
        subst this
        simp [pNext, hf]
    rw [hp]
    have H := Lib.hid h
    have Hc := Lib.hid (hc t)
    have Hf := Lib.hid hf
    have hfr := c_front pb l en _ P1.out
    rw [← ht] at hfr
    have Hfr := Lib.hid hfr
    clear h hc hf hp hfr hz ht
    obtain ⟨kd, tx, nm, off⟩ := t
    go_enter Tryz.func69, Tryz.ntmps69
    go_wp2_with (first | (go_at_call 30; refine Hfr.out.mono ?_; rintro e w1 ⟨rfl, b1⟩; have B1 := Lib.hid b1; have hz1 := b1.size; simp at hz1; clear b1; unfold Tok.val) | (go_at_call 98; refine (Hc.out _ ((((Below.refl _ _).alloc (Nat.le_refl _) _).trans (B1.out.mono (by simp))).alloc (by omega) _)).mono ?_; rintro e w2 ⟨rfl, b2⟩; rw [Hf.out]; have B2 := Lib.hid b2; have hz2 := b2.size; simp at hz2; clear b2))
    have hB : Below w.heap.size w w2 := ((((Below.refl _ _).alloc (Nat.le_refl _) _).trans (B1.out.mono (by simp))).alloc (by omega) _).trans (B2.out.mono (by simp; omega))
    exact ⟨rfl, KB.of_below hB, H.out.below hB, rfl⟩
  | true =>
    cases l with
    | nil =>
      have : t = frontTok en [] := ht
      rw [this, hz] at hf
      cases hf
    | cons a l =>
      have hta : t = a := ht
      subst hta
      have hp : pNext fits (t :: l) = .ok (t, l) := by simp [pNext, hf]
      rw [hp]
      have H := Lib.hid h
      have Hc := Lib.hid (hc t)
      have Hf := Lib.hid hf
      have hfr := c_front pb (t :: l) en _ P1.out
      have Hfr := Lib.hid hfr
      clear h hc hf hp hfr hz ht P1
      obtain ⟨kd, tx, nm, off⟩ := t
      go_enter Tryz.func69, Tryz.ntmps69
      go_wp2_with (first | (go_at_call 30; refine Hfr.out.mono ?_; rintro e w1 ⟨rfl, b1⟩; have B1 := Lib.hid b1; have hz1 := b1.size; simp at hz1; clear b1; unfold frontTok Tok.val) | (go_at_call 98; refine (Hc.out _ ((((Below.refl _ _).alloc (Nat.le_refl _) _).trans (B1.out.mono (by simp))).alloc (by omega) _)).mono ?_; rintro e w2 ⟨rfl, b2⟩; rw [Hf.out]; have B2 := Lib.hid b2; have hz2 := b2.size; simp at hz2; clear b2; have hB : Below w.heap.size w w2 := ((((Below.refl _ _).alloc (Nat.le_refl _) _).trans (B1.out.mono (by simp))).alloc (by omega) _).trans (B2.out.mono (by simp; omega)); have hP := H.out.below hB; obtain ⟨A, cc, hc0, hfz, -, hts, hcl, hcm⟩ := hP.cell; have Hcell := Lib.hid hc0; obtain ⟨b, o, rfl, -, -, -, -, -, -⟩ := hts.tail; have HB := Lib.hid hB; have HP := Lib.hid hP; clear hB hP; unfold maxLen at hcm; obtain ⟨t0, t1, t2, t3⟩ := four_cells (four_new B2.out); obtain ⟨r0, r1, r2, r3⟩ := four_cells (four_old B1.out B2.out); obtain ⟨f0, f1, f2, f3⟩ := four_frozen (four_old B1.out B2.out)))
      all_goals refine bodyPost_ret (v := .agg #[.int .u8 kd, .string tx, .int .i64 nm, .int .i64 off]) (by simp [results, Tryz.results69, go_sem, r0, r1, r2, r3]) rfl ?_
      · have htl := hts.last h
        exact ⟨(((((KB.of_below HB.out).setP _).setNew (Nat.le_refl _) _).setNew (Nat.le_refl _) _).setNew (Nat.le_refl _) _).setNew (Nat.le_refl _) _,
          ((((HP.out.set htl).setNew hlt _).setNew hlt _).setNew hlt _).setNew hlt _, _, rfl, rfl⟩
      · obtain ⟨b', o', e, -, -, -, -, htl, -⟩ := hts.tail
        cases e
        exact ⟨(((((KB.of_below HB.out).setP _).setNew (Nat.le_refl _) _).setNew (Nat.le_refl _) _).setNew (Nat.le_refl _) _).setNew (Nat.le_refl _) _,
          ((((HP.out.set htl).setNew hlt _).setNew hlt _).setNew hlt _).setNew hlt _, _, rfl, rfl⟩

set_option maxHeartbeats 1000000 in
theorem c_next_num (pb : Nat) (l : List Tok) (en : Int) (w : World) (h : PSt w pb l en) (fits : Tok → Bool) (hz : fits (frontTok en []) = false)
    (hc : ∀ t w1, Below w.heap.size w w1 → Calls Tryz.prog 108 #[t.val] w1 fun e w' => e = .returned (.bool (fits t)) ∧ Below w1.heap.size w1 w') :
    Calls Tryz.prog 69 #[.pointer (some ⟨pb, 0, none⟩), .func (.func 108) #[] #[]] w (RdPost pb en w (fun t _ v => v = Tok.val t) (pNext fits l)) := by
  have hlt := h.lt
  have P1 := Lib.hid (h.kept (World.grownBy_alloc w (.cells #[.int .u8 0, .string ⟨#[]⟩, .int .i64 0, .int .i64 0] 62) none) (by simp))
  obtain ⟨t, ht⟩ : ∃ t, t = frontTok en l := ⟨_, rfl⟩
  cases hf : fits t with
  | false =>
    have hp : pNext fits l = .error l := by
      cases l with
      | nil => rfl
      | cons a l =>
        have : t = a := ht
        subst this
        simp [pNext, hf]
    rw [hp]
    have H := Lib.hid h
    have Hc := Lib.hid (hc t)
    have Hf := Lib.hid hf
    have hfr := c_front pb l en _ P1.out
    rw [← ht] at hfr
    have Hfr := Lib.hid hfr
    clear h hc hf hp hfr hz ht
    obtain ⟨kd, tx, nm, off⟩ := t
    go_enter Tryz.func69, Tryz.ntmps69
    go_wp2_with (first | (go_at_call 30; refine Hfr.out.mono ?_; rintro e w1 ⟨rfl, b1⟩; have B1 := Lib.hid b1; have hz1 := b1.size; simp at hz1; clear b1; unfold Tok.val) | (go_at_call 108; refine (Hc.out _ ((((Below.refl _ _).alloc (Nat.le_refl _) _).trans (B1.out.mono (by simp))).alloc (by omega) _)).mono ?_; rintro e w2 ⟨rfl, b2⟩; rw [Hf.out]; have B2 := Lib.hid b2; have hz2 := b2.size; simp at hz2; clear b2))
    have hB : Below w.heap.size w w2 := ((((Below.refl _ _).alloc (Nat.le_refl _) _).trans (B1.out.mono (by simp))).alloc (by omega) _).trans (B2.out.mono (by simp; omega))
    exact ⟨rfl, KB.of_below hB, H.out.below hB, rfl⟩
  | true =>
    cases l with
    | nil =>
      have : t = frontTok en [] := ht
      rw [this, hz] at hf
      cases hf
    | cons a l =>
      have hta : t = a := ht
      subst hta
      have hp : pNext fits (t :: l) = .ok (t, l) := by simp [pNext, hf]
      rw [hp]
      have H := Lib.hid h
      have Hc := Lib.hid (hc t)
      have Hf := Lib.hid hf
      have hfr := c_front pb (t :: l) en _ P1.out
      have Hfr := Lib.hid hfr
      clear h hc hf hp hfr hz ht P1
      obtain ⟨kd, tx, nm, off⟩ := t
      go_enter Tryz.func69, Tryz.ntmps69
      go_wp2_with (first | (go_at_call 30; refine Hfr.out.mono ?_; rintro e w1 ⟨rfl, b1⟩; have B1 := Lib.hid b1; have hz1 := b1.size; simp at hz1; clear b1; unfold frontTok Tok.val) | (go_at_call 108; refine (Hc.out _ ((((Below.refl _ _).alloc (Nat.le_refl _) _).trans (B1.out.mono (by simp))).alloc (by omega) _)).mono ?_; rintro e w2 ⟨rfl, b2⟩; rw [Hf.out]; have B2 := Lib.hid b2; have hz2 := b2.size; simp at hz2; clear b2; have hB : Below w.heap.size w w2 := ((((Below.refl _ _).alloc (Nat.le_refl _) _).trans (B1.out.mono (by simp))).alloc (by omega) _).trans (B2.out.mono (by simp; omega)); have hP := H.out.below hB; obtain ⟨A, cc, hc0, hfz, -, hts, hcl, hcm⟩ := hP.cell; have Hcell := Lib.hid hc0; obtain ⟨b, o, rfl, -, -, -, -, -, -⟩ := hts.tail; have HB := Lib.hid hB; have HP := Lib.hid hP; clear hB hP; unfold maxLen at hcm; obtain ⟨t0, t1, t2, t3⟩ := four_cells (four_new B2.out); obtain ⟨r0, r1, r2, r3⟩ := four_cells (four_old B1.out B2.out); obtain ⟨f0, f1, f2, f3⟩ := four_frozen (four_old B1.out B2.out)))
      all_goals refine bodyPost_ret (v := .agg #[.int .u8 kd, .string tx, .int .i64 nm, .int .i64 off]) (by simp [results, Tryz.results69, go_sem, r0, r1, r2, r3]) rfl ?_
      · have htl := hts.last h
        exact ⟨(((((KB.of_below HB.out).setP _).setNew (Nat.le_refl _) _).setNew (Nat.le_refl _) _).setNew (Nat.le_refl _) _).setNew (Nat.le_refl _) _,
          ((((HP.out.set htl).setNew hlt _).setNew hlt _).setNew hlt _).setNew hlt _, _, rfl, rfl⟩
      · obtain ⟨b', o', e, -, -, -, -, htl, -⟩ := hts.tail
        cases e
        exact ⟨(((((KB.of_below HB.out).setP _).setNew (Nat.le_refl _) _).setNew (Nat.le_refl _) _).setNew (Nat.le_refl _) _).setNew (Nat.le_refl _) _,
          ((((HP.out.set htl).setNew hlt _).setNew hlt _).setNew hlt _).setNew hlt _, _, rfl, rfl⟩

set_option maxHeartbeats 1000000 in
theorem c_next_clause (pb : Nat) (l : List Tok) (en : Int) (w : World) (cb : Nat) (h : PSt w pb l en) (fits : Tok → Bool) (hz : fits (frontTok en []) = false)
    (hc : ∀ t w1, Below w.heap.size w w1 → Calls Tryz.prog 70 #[t.val, .pointer (some ⟨cb, 0, none⟩)] w1 fun e w' => e = .returned (.bool (fits t)) ∧ Below w1.heap.size w1 w') :
    Calls Tryz.prog 69 #[.pointer (some ⟨pb, 0, none⟩), .func (.func 70) #[] #[.pointer (some ⟨cb, 0, none⟩)]] w (RdPost pb en w (fun t _ v => v = Tok.val t) (pNext fits l)) := by
  have hlt := h.lt
  have P1 := Lib.hid (h.kept (World.grownBy_alloc w (.cells #[.int .u8 0, .string ⟨#[]⟩, .int .i64 0, .int .i64 0] 62) none) (by simp))
  obtain ⟨t, ht⟩ : ∃ t, t = frontTok en l := ⟨_, rfl⟩
  cases hf : fits t with
  | false =>
    have hp : pNext fits l = .error l := by
      cases l with
      | nil => rfl
      | cons a l =>
        have : t = a := ht
        subst this
        simp [pNext, hf]
    rw [hp]
    have H := Lib.hid h
    have Hc := Lib.hid (hc t)
    have Hf := Lib.hid hf
    have hfr := c_front pb l en _ P1.out
    rw [← ht] at hfr
    have Hfr := Lib.hid hfr
    clear h hc hf hp hfr hz ht
    obtain ⟨kd, tx, nm, off⟩ := t
    go_enter Tryz.func69, Tryz.ntmps69
    go_wp2_with (first | (go_at_call 30; refine Hfr.out.mono ?_; rintro e w1 ⟨rfl, b1⟩; have B1 := Lib.hid b1; have hz1 := b1.size; simp at hz1; clear b1; unfold Tok.val) | (go_at_call 70; refine (Hc.out _ ((((Below.refl _ _).alloc (Nat.le_refl _) _).trans (B1.out.mono (by simp))).alloc (by omega) _)).mono ?_; rintro e w2 ⟨rfl, b2⟩; rw [Hf.out]; have B2 := Lib.hid b2; have hz2 := b2.size; simp at hz2; clear b2))
    have hB : Below w.heap.size w w2 := ((((Below.refl _ _).alloc (Nat.le_refl _) _).trans (B1.out.mono (by simp))).alloc (by omega) _).trans (B2.out.mono (by simp; omega))
    exact ⟨rfl, KB.of_below hB, H.out.below hB, rfl⟩
  | true =>
    cases l with
    | nil =>
      have : t = frontTok en [] := ht
      rw [this, hz] at hf
      cases hf
    | cons a l =>
      have hta : t = a := ht
      subst hta
      have hp : pNext fits (t :: l) = .ok (t, l) := by simp [pNext, hf]
      rw [hp]
      have H := Lib.hid h
      have Hc := Lib.hid (hc t)
      have Hf := Lib.hid hf
      have hfr := c_front pb (t :: l) en _ P1.out
      have Hfr := Lib.hid hfr
      clear h hc hf hp hfr hz ht P1
      obtain ⟨kd, tx, nm, off⟩ := t
      go_enter Tryz.func69, Tryz.ntmps69
      go_wp2_with (first | (go_at_call 30; refine Hfr.out.mono ?_; rintro e w1 ⟨rfl, b1⟩; have B1 := Lib.hid b1; have hz1 := b1.size; simp at hz1; clear b1; unfold frontTok Tok.val) | (go_at_call 70; refine (Hc.out _ ((((Below.refl _ _).alloc (Nat.le_refl _) _).trans (B1.out.mono (by simp))).alloc (by omega) _)).mono ?_; rintro e w2 ⟨rfl, b2⟩; rw [Hf.out]; have B2 := Lib.hid b2; have hz2 := b2.size; simp at hz2; clear b2; have hB : Below w.heap.size w w2 := ((((Below.refl _ _).alloc (Nat.le_refl _) _).trans (B1.out.mono (by simp))).alloc (by omega) _).trans (B2.out.mono (by simp; omega)); have hP := H.out.below hB; obtain ⟨A, cc, hc0, hfz, -, hts, hcl, hcm⟩ := hP.cell; have Hcell := Lib.hid hc0; obtain ⟨b, o, rfl, -, -, -, -, -, -⟩ := hts.tail; have HB := Lib.hid hB; have HP := Lib.hid hP; clear hB hP; unfold maxLen at hcm; obtain ⟨t0, t1, t2, t3⟩ := four_cells (four_new B2.out); obtain ⟨r0, r1, r2, r3⟩ := four_cells (four_old B1.out B2.out); obtain ⟨f0, f1, f2, f3⟩ := four_frozen (four_old B1.out B2.out)))
      all_goals refine bodyPost_ret (v := .agg #[.int .u8 kd, .string tx, .int .i64 nm, .int .i64 off]) (by simp [results, Tryz.results69, go_sem, r0, r1, r2, r3]) rfl ?_
      · have htl := hts.last h
        exact ⟨(((((KB.of_below HB.out).setP _).setNew (Nat.le_refl _) _).setNew (Nat.le_refl _) _).setNew (Nat.le_refl _) _).setNew (Nat.le_refl _) _,
          ((((HP.out.set htl).setNew hlt _).setNew hlt _).setNew hlt _).setNew hlt _, _, rfl, rfl⟩
      · obtain ⟨b', o', e, -, -, -, -, htl, -⟩ := hts.tail
        cases e
        exact ⟨(((((KB.of_below HB.out).setP _).setNew (Nat.le_refl _) _).setNew (Nat.le_refl _) _).setNew (Nat.le_refl _) _).setNew (Nat.le_refl _) _,
          ((((HP.out.set htl).setNew hlt _).setNew hlt _).setNew hlt _).setNew hlt _, _, rfl, rfl⟩

end Go.Proofs.YtplnnpkohdmiaaaGreatDoor

/- DERIVED. The landed parser's next at the closure of scope; name, number, literal, scope, area. -/
namespace Go.Proofs.YtplnnpkohdmiaaaGreatDoor
open Go.RowKit
set_option maxRecDepth 100000

theorem PSt.stands {w w' : World} {pb : Nat} {l : List Tok} {en : Int} (h : PSt w pb l en) (H : ∀ b, b ≤ pb → w'.heap[b]? = w.heap[b]?) : PSt w' pb l en := by
  obtain ⟨v, hv, ht⟩ := h
  exact ⟨v, (H pb (Nat.le_refl _)).trans hv, ht.stands fun b hb => H b (by omega)⟩
theorem one_cell {W : World} {b : Nat} {x0 : Value} {T : TypeId} (h : W.heap[b]? = some (.cells #[x0] T (0, 0))) : W.cell? ⟨b, 0, none⟩ = some x0 := by simp [World.cell?, h]
theorem one_frozen {W : World} {b : Nat} {x0 : Value} {T : TypeId} (h : W.heap[b]? = some (.cells #[x0] T (0, 0))) : W.frozen? ⟨b, 0, none⟩ = false := by simp [World.frozen?, h]
theorem one_set {W : World} {b : Nat} {x0 : Value} {T : TypeId} (h : W.heap[b]? = some (.cells #[x0] T (0, 0))) (v : Value) : (W.setCell ⟨b, 0, none⟩ v).heap[b]? = some (.cells #[v] T (0, 0)) := by
  simp [World.setCell, Array.getElem?_modify, h]

theorem c_scope1 (t : Tok) (db : Nat) (d0 : Int) (w : World) (h : w.heap[db]? = some (.cells #[.int .u8 d0] 34 (0, 0))) :
    Calls Tryz.prog 110 #[t.val, .pointer (some ⟨db, 0, none⟩)] w fun e w' => e = .returned (.bool (fitScope t)) ∧ KB w.heap.size db w w' ∧ w'.heap[db]? = some (.cells #[.int .u8 (domB t.text)] 34 (0, 0)) := by
  obtain ⟨kd, tx, nm, off⟩ := t
  dsimp only [Tok.val]
  have h0 := one_cell h
  have h1 := one_frozen h
  have hb := cell_lt' h0
  have H := Lib.hid h
  clear h
  go_enter Tryz.func110, Tryz.ntmps110
  go_wp2_with (go_at_call 111; refine (c_domainOf _ _).mono ?_; rintro e w' ⟨rfl, rfl⟩)
  go_ret
  refine ⟨rfl, ((KB.refl _ _ w).setP _).alloc _ (by simp), ?_⟩
  exact (((Below.refl w.heap.size (w.setCell ⟨db, 0, none⟩ (.int .u8 (domB tx)))).alloc (by simp) _).block db hb).trans (one_set H.out _)

theorem KB.old {n db : Nat} {a b c : World} (h : KB n db b c) (k : Below db a b) (hn : db ≤ n) : Below db a c :=
  k.trans ((h.mono hn).below (Nat.le_refl _))
theorem four_new' {w w' : World} {o : Obj} {db : Nat} (h : KB (w.alloc o).heap.size db (w.alloc o) w') (hd : db < w.heap.size) : w'.heap[w.heap.size]? = some o :=
  (h.block _ (by simp) (by omega)).trans (World.alloc_heap_new w o)
theorem four_old' {w w1 w2 : World} {o o' : Obj} {db : Nat} (h1 : Below (w.alloc o).heap.size (w.alloc o) w1) (h2 : KB (w1.alloc o').heap.size db (w1.alloc o') w2) (hd : db < w.heap.size) : w2.heap[w.heap.size]? = some o := by
  have hz := h1.size
  simp at hz
  refine (h2.block _ (by simp; omega) (by omega)).trans (((Below.refl w1.heap.size w1).alloc (Nat.le_refl _) o').block _ (by omega) |>.trans (four_new h1))

set_option maxHeartbeats 1000000 in
theorem c_next_scope (pb db : Nat) (d0 : Int) (l : List Tok) (en : Int) (w : World) (h : PSt w pb l en) (hd : w.heap[db]? = some (.cells #[.int .u8 d0] 34 (0, 0))) (hpd : pb < db) :
    Calls Tryz.prog 69 #[.pointer (some ⟨pb, 0, none⟩), .func (.func 110) #[] #[.pointer (some ⟨db, 0, none⟩)]] w fun e w' => KB db pb w w' ∧
      match pNext fitScope l with
      | .ok (t, l') => PSt w' pb l' en ∧ e = .returned t.val ∧ w'.heap[db]? = some (.cells #[.int .u8 (domB t.text)] 34 (0, 0))
      | .error l' => PSt w' pb l' en ∧ e = .panicked [{ v := .iface 25 (.int .i64 4), recovered := false }] := by
  have hlt := h.lt
  have hdl : db < w.heap.size := cell_lt' (one_cell hd)
  have P1 := Lib.hid (h.kept (World.grownBy_alloc w (.cells #[.int .u8 0, .string ⟨#[]⟩, .int .i64 0, .int .i64 0] 62) none) (by simp))
  obtain ⟨t, ht⟩ : ∃ t, t = frontTok en l := ⟨_, rfl⟩
  have HD := Lib.hid hd
  clear hd
  cases hf : fitScope t with
  | false =>
    have hp : pNext fitScope l = .error l := by
      cases l with
      | nil => rfl
      | cons a l =>
        have : t = a := ht
        subst this
        simp [pNext, hf]
    rw [hp]
    have H := Lib.hid h
    have Hf := Lib.hid hf
    have hfr := c_front pb l en _ P1.out
    rw [← ht] at hfr
    have Hfr := Lib.hid hfr
    clear h hf hp hfr ht
    obtain ⟨kd, tx, nm, off⟩ := t
    go_enter Tryz.func69, Tryz.ntmps69
    go_wp2_with (first | (go_at_call 30; refine Hfr.out.mono ?_; rintro e w1 ⟨rfl, b1⟩; have B1 := Lib.hid b1; have hz1 := b1.size; simp at hz1; clear b1; unfold Tok.val) | (go_at_call 110; refine (c_scope1 ⟨kd, tx, nm, off⟩ db d0 _ ((((((Below.refl _ _).alloc (Nat.le_refl _) _).trans (B1.out.mono (by simp))).alloc (by omega) _).block _ hdl).trans HD.out)).mono ?_; rintro e w2 ⟨rfl, b2, hd2⟩; rw [Hf.out]; have B2 := Lib.hid b2; have hz2 := b2.size; simp at hz2; clear b2))
    have hB : Below db w w2 := KB.old B2.out (((((Below.refl _ _).alloc (Nat.le_refl _) _).trans (B1.out.mono (by simp))).alloc (by omega) _).mono (Nat.le_of_lt hdl)) (by simp; omega)
    exact ⟨rfl, KB.of_below hB, H.out.stands (fun b hb => hB.block b (by omega)), rfl⟩
  | true =>
    cases l with
    | nil =>
      have : t = frontTok en [] := ht
      rw [this] at hf
      simp [fitScope, frontTok, domB, go_sem] at hf
    | cons a l =>
      have hta : t = a := ht
      subst hta
      have hp : pNext fitScope (t :: l) = .ok (t, l) := by simp [pNext, hf]
      rw [hp]
      have H := Lib.hid h
      have Hf := Lib.hid hf
      have hfr := c_front pb (t :: l) en _ P1.out
      have Hfr := Lib.hid hfr
      clear h hf hp hfr ht P1
      obtain ⟨kd, tx, nm, off⟩ := t
      go_enter Tryz.func69, Tryz.ntmps69
      go_wp2_with (first | (go_at_call 30; refine Hfr.out.mono ?_; rintro e w1 ⟨rfl, b1⟩; have B1 := Lib.hid b1; have hz1 := b1.size; simp at hz1; clear b1; unfold frontTok Tok.val) | (go_at_call 110; refine (c_scope1 ⟨kd, tx, nm, off⟩ db d0 _ ((((((Below.refl _ _).alloc (Nat.le_refl _) _).trans (B1.out.mono (by simp))).alloc (by omega) _).block _ hdl).trans HD.out)).mono ?_; rintro e w2 ⟨rfl, b2, hd2⟩; rw [Hf.out]; have B2 := Lib.hid b2; have hz2 := b2.size; simp at hz2; clear b2; have HD2 := Lib.hid hd2; clear hd2; have hB : Below db w w2 := KB.old B2.out (((((Below.refl _ _).alloc (Nat.le_refl _) _).trans (B1.out.mono (by simp))).alloc (by omega) _).mono (Nat.le_of_lt hdl)) (by simp; omega); have hP := H.out.stands (fun b hb => hB.block b (by omega)); obtain ⟨A, cc, hc0, hfz, -, hts, hcl, hcm⟩ := hP.cell; have Hcell := Lib.hid hc0; obtain ⟨b, o, rfl, -, -, -, -, -, -⟩ := hts.tail; have HB := Lib.hid hB; have HP := Lib.hid hP; clear hB hP; unfold maxLen at hcm; obtain ⟨t0, t1, t2, t3⟩ := four_cells (four_new' B2.out (by omega)); obtain ⟨r0, r1, r2, r3⟩ := four_cells (four_old' B1.out B2.out hdl); obtain ⟨f0, f1, f2, f3⟩ := four_frozen (four_old' B1.out B2.out hdl)))
      all_goals refine bodyPost_ret (v := .agg #[.int .u8 kd, .string tx, .int .i64 nm, .int .i64 off]) (by simp [results, Tryz.results69, go_sem, r0, r1, r2, r3]) rfl ?_
      · have htl := hts.last h
        exact ⟨(((((KB.of_below HB.out).setP _).setNew (Nat.le_of_lt hdl) _).setNew (Nat.le_of_lt hdl) _).setNew (Nat.le_of_lt hdl) _).setNew (Nat.le_of_lt hdl) _,
          ((((HP.out.set htl).setNew hlt _).setNew hlt _).setNew hlt _).setNew hlt _, rfl,
          (heap_setCell_ne _ _ (by omega)).trans ((heap_setCell_ne _ _ (by omega)).trans ((heap_setCell_ne _ _ (by omega)).trans ((heap_setCell_ne _ _ (by omega)).trans ((heap_setCell_ne _ _ (by omega)).trans HD2.out))))⟩
      · obtain ⟨b', o', e, -, -, -, -, htl, -⟩ := hts.tail
        cases e
        exact ⟨(((((KB.of_below HB.out).setP _).setNew (Nat.le_of_lt hdl) _).setNew (Nat.le_of_lt hdl) _).setNew (Nat.le_of_lt hdl) _).setNew (Nat.le_of_lt hdl) _,
          ((((HP.out.set htl).setNew hlt _).setNew hlt _).setNew hlt _).setNew hlt _, rfl,
          (heap_setCell_ne _ _ (by omega)).trans ((heap_setCell_ne _ _ (by omega)).trans ((heap_setCell_ne _ _ (by omega)).trans ((heap_setCell_ne _ _ (by omega)).trans ((heap_setCell_ne _ _ (by omega)).trans HD2.out))))⟩

theorem tok_field1 (kd : Int) (tx : ByteArray) (nm off : Int) (w : World) : (Instr.field 62 (.agg #[.int .u8 kd, .string tx, .int .i64 nm, .int .i64 off]) 1).run Tryz.prog w = .ok (.string tx) w := by kernel_rfl
theorem tok_field2 (kd : Int) (tx : ByteArray) (nm off : Int) (w : World) : (Instr.field 62 (.agg #[.int .u8 kd, .string tx, .int .i64 nm, .int .i64 off]) 2).run Tryz.prog w = .ok (.int .i64 nm) w := by kernel_rfl
theorem tok_field3 (kd : Int) (tx : ByteArray) (nm off : Int) (w : World) : (Instr.field 62 (.agg #[.int .u8 kd, .string tx, .int .i64 nm, .int .i64 off]) 3).run Tryz.prog w = .ok (.int .i64 off) w := by kernel_rfl

theorem RdPost.ok {α : Type} {pb : Nat} {en : Int} {w w' : World} {val : α → World → Value → Prop} {x : α} {l : List Tok} {e : Ending} (h : RdPost pb en w val (.ok (x, l)) e w') :
    KB w.heap.size pb w w' ∧ PSt w' pb l en ∧ ∃ v, e = .returned v ∧ val x w' v := h
theorem RdPost.error {α : Type} {pb : Nat} {en : Int} {w w' : World} {val : α → World → Value → Prop} {l : List Tok} {e : Ending} (h : RdPost pb en w val (.error l) e w') :
    KB w.heap.size pb w w' ∧ PSt w' pb l en ∧ e = .panicked [{ v := .iface 25 (.int .i64 4), recovered := false }] := h

theorem cp_num (pb : Nat) (l : List Tok) (en : Int) (w : World) (h : PSt w pb l en) :
    Calls Tryz.prog 88 #[.pointer (some ⟨pb, 0, none⟩)] w (RdPost pb en w (fun n _ v => v = .int .i64 n) (pNum l)) := by
  have hN := c_next_num pb l en w h fitNum rfl (fun t w1 _ => c_num1 t w1)
  have HN := Lib.hid hN
  clear hN h
  unfold pNum
  cases hp : pNext fitNum l with
  | error r =>
    rw [hp] at HN
    clear hp
    go_enter Tryz.func88, Tryz.ntmps88
    go_wp2_with (go_at_call 69; refine HN.out.mono ?_; rintro e w' h; obtain ⟨k, P, rfl⟩ := h.error; have K := Lib.hid k; have HP := Lib.hid P; clear k P h)
    exact ⟨rfl, K.out, HP.out, rfl⟩
  | ok x =>
    obtain ⟨⟨kd, tx, nm, off⟩, r⟩ := x
    rw [hp] at HN
    clear hp
    have hfd := tok_field2 kd tx nm off
    go_enter Tryz.func88, Tryz.ntmps88
    go_wp2_with (go_at_call 69; refine HN.out.mono ?_; rintro e w' h; obtain ⟨k, P, v, rfl, rfl⟩ := h.ok; have K := Lib.hid k; have HP := Lib.hid P; clear k P h; unfold Tok.val)
    go_ret
    exact ⟨K.out, HP.out, _, rfl, rfl⟩

theorem cp_name (pb : Nat) (l : List Tok) (en : Int) (w : World) (h : PSt w pb l en) :
    Calls Tryz.prog 84 #[.pointer (some ⟨pb, 0, none⟩)] w (RdPost pb en w (fun n _ v => v = .string n) (pName l)) := by
  have hN := c_next_name pb l en w h fitName rfl (fun t w1 _ => c_name1 t w1)
  have HN := Lib.hid hN
  clear hN h
  unfold pName
  cases hp : pNext fitName l with
  | error r =>
    rw [hp] at HN
    clear hp
    go_enter Tryz.func84, Tryz.ntmps84
    go_wp2_with (go_at_call 69; refine HN.out.mono ?_; rintro e w' h; obtain ⟨k, P, rfl⟩ := h.error; have K := Lib.hid k; have HP := Lib.hid P; clear k P h)
    exact ⟨rfl, K.out, HP.out, rfl⟩
  | ok x =>
    obtain ⟨⟨kd, tx, nm, off⟩, r⟩ := x
    rw [hp] at HN
    clear hp
    have hfd := tok_field1 kd tx nm off
    go_enter Tryz.func84, Tryz.ntmps84
    go_wp2_with (go_at_call 69; refine HN.out.mono ?_; rintro e w' h; obtain ⟨k, P, v, rfl, rfl⟩ := h.ok; have K := Lib.hid k; have HP := Lib.hid P; clear k P h; unfold Tok.val)
    go_ret
    exact ⟨K.out, HP.out, _, rfl, rfl⟩

theorem lit_zero (s : ByteArray) (hs : s.toList ≠ []) (en : Int) : fitLit s (frontTok en []) = false := by
  unfold fitLit frontTok
  rw [beq_eq_false_iff_ne]
  intro h
  apply hs
  rw [← h]
  simp [go_sem]

theorem KB.unalloc {n pb : Nat} {a b : World} {o : Obj} (h : KB n pb (a.alloc o) b) (hn : n ≤ a.heap.size) : KB n pb a b :=
  (KB.of_below ((Below.refl n a).alloc hn o)).trans h

theorem cp_lit (pb : Nat) (s : ByteArray) (hs : s.toList ≠ []) (l : List Tok) (en : Int) (w : World) (h : PSt w pb l en) :
    Calls Tryz.prog 85 #[.pointer (some ⟨pb, 0, none⟩), .string s] w (RdPost pb en w (fun _ _ v => v = .tuple #[]) (pLit s l)) := by
  have hlt := h.lt
  have hP := h.kept (World.grownBy_alloc w (.cells #[.string s] 9) none) (by simp)
  have hN := c_next_lit pb l en _ w.heap.size hP (fitLit s) (lit_zero s hs en) (fun t w1 hb => c_lit1 s t w.heap.size w1 (by
    have := hb.block w.heap.size (by simp)
    have h2 := World.alloc_heap_new w (.cells #[.string s] 9)
    rw [h2] at this
    exact one_cell this))
  have HN := Lib.hid hN
  clear hN h hP
  unfold pLit
  cases hp : pNext (fitLit s) l with
  | error r =>
    rw [hp] at HN
    clear hp
    go_enter Tryz.func85, Tryz.ntmps85
    go_wp2_with (go_at_call 69; refine HN.out.mono ?_; rintro e w' h; obtain ⟨k, P, rfl⟩ := h.error; have K := Lib.hid k; have HP := Lib.hid P; clear k P h)
    exact ⟨rfl, (K.out.mono (by simp)).unalloc (Nat.le_refl _), HP.out, rfl⟩
  | ok x =>
    obtain ⟨⟨kd, tx, nm, off⟩, r⟩ := x
    rw [hp] at HN
    clear hp
    go_enter Tryz.func85, Tryz.ntmps85
    go_wp2_with (go_at_call 69; refine HN.out.mono ?_; rintro e w' h; obtain ⟨k, P, v, rfl, rfl⟩ := h.ok; have K := Lib.hid k; have HP := Lib.hid P; clear k P h; unfold Tok.val)
    go_end0
    exact ⟨(K.out.mono (by simp)).unalloc (Nat.le_refl _), HP.out, _, rfl, rfl⟩

theorem cp_scope (pb : Nat) (l : List Tok) (en : Int) (w : World) (h : PSt w pb l en) :
    Calls Tryz.prog 107 #[.pointer (some ⟨pb, 0, none⟩)] w (RdPost pb en w (fun n _ v => v = .int .u8 n) (pScope l)) := by
  have hlt := h.lt
  have hP := h.kept (World.grownBy_alloc w (.cells #[.int .u8 0] 34) none) (by simp)
  have hN := c_next_scope pb w.heap.size 0 l en _ hP (World.alloc_heap_new w _) hlt
  have HN := Lib.hid hN
  clear hN h hP
  unfold pScope
  cases hp : pNext fitScope l with
  | error r =>
    rw [hp] at HN
    clear hp
    go_enter Tryz.func107, Tryz.ntmps107
    go_wp2_with (go_at_call 69; refine HN.out.mono ?_; rintro e w' ⟨k, P, rfl⟩; have K := Lib.hid k; have HP := Lib.hid P; clear k P)
    exact ⟨rfl, K.out.unalloc (Nat.le_refl _), HP.out, rfl⟩
  | ok x =>
    obtain ⟨⟨kd, tx, nm, off⟩, r⟩ := x
    rw [hp] at HN
    clear hp
    go_enter Tryz.func107, Tryz.ntmps107
    go_wp2_with (go_at_call 69; refine HN.out.mono ?_; rintro e w' ⟨k, P, rfl, hd⟩; have K := Lib.hid k; have HP := Lib.hid P; have hdc := one_cell hd; clear k P hd; unfold Tok.val)
    go_ret
    exact ⟨K.out.unalloc (Nat.le_refl _), HP.out, _, rfl, rfl⟩

theorem cp_area (pb : Nat) (l : List Tok) (en : Int) (w : World) (h : PSt w pb l en) :
    Calls Tryz.prog 87 #[.pointer (some ⟨pb, 0, none⟩)] w (RdPost pb en w (fun x _ v => v = .tuple #[.int .u8 x.1, .int .i64 x.2]) (pArea l)) := by
  have hN := cp_scope pb l en w h
  have HN := Lib.hid hN
  clear hN h
  unfold pArea
  cases hp : pScope l with
  | error r =>
    rw [hp] at HN
    clear hp
    go_enter Tryz.func87, Tryz.ntmps87
    go_wp2_with (go_at_call 107; refine HN.out.mono ?_; rintro e w' h; obtain ⟨k, P, rfl⟩ := h.error; have K := Lib.hid k; have HP := Lib.hid P; clear k P h)
    exact ⟨rfl, K.out, HP.out, rfl⟩
  | ok x =>
    obtain ⟨d, r⟩ := x
    rw [hp] at HN
    clear hp
    simp only [bindR]
    cases hq : pNum r with
    | error r2 =>
      go_enter Tryz.func87, Tryz.ntmps87
      go_wp2_with (first | (go_at_call 107; refine HN.out.mono ?_; rintro e w' h; obtain ⟨k, P, v, rfl, rfl⟩ := h.ok; have K := Lib.hid k; have HP := Lib.hid P; clear k P h) | (go_at_call 88; refine (cp_num pb r en _ HP.out).mono ?_; rw [hq]; rintro e w2 h; obtain ⟨k, P, rfl⟩ := h.error; have K2 := Lib.hid k; have HP2 := Lib.hid P; clear k P h))
      exact ⟨rfl, K.out.trans (K2.out.mono K.out.size), HP2.out, rfl⟩
    | ok y =>
      obtain ⟨n, r2⟩ := y
      go_enter Tryz.func87, Tryz.ntmps87
      go_wp2_with (first | (go_at_call 107; refine HN.out.mono ?_; rintro e w' h; obtain ⟨k, P, v, rfl, rfl⟩ := h.ok; have K := Lib.hid k; have HP := Lib.hid P; clear k P h) | (go_at_call 88; refine (cp_num pb r en _ HP.out).mono ?_; rw [hq]; rintro e w2 h; obtain ⟨k, P, v, rfl, rfl⟩ := h.ok; have K2 := Lib.hid k; have HP2 := Lib.hid P; clear k P h))
      go_ret2
      exact ⟨K.out.trans (K2.out.mono K.out.size), HP2.out, _, rfl, rfl⟩

end Go.Proofs.YtplnnpkohdmiaaaGreatDoor
