/-
  DERIVED. Several texts in one.
-/
import Derived.Test.YtplnnpkohdmiaaaGreatDoorFC1
import Derived.Test.YtplnnpkohdmiaaaGreatDoorFC2
import Derived.Test.YtplnnpkohdmiaaaGreatDoorFC3
import Derived.Test.YtplnnpkohdmiaaaGreatDoorFC4
import Derived.Test.YtplnnpkohdmiaaaGreatDoorFC5
import Derived.Test.YtplnnpkohdmiaaaGreatDoorYSAm
import Derived.Test.YtplnnpkohdmiaaaGreatDoorYPMm
import Derived.Test.YtplnnpkohdmiaaaGreatDoorYWEm
set_option linter.unusedVariables false
set_option linter.unusedSimpArgs false

/- DERIVED. The landed Formed. -/
namespace Go.Proofs.YtplnnpkohdmiaaaGreatDoor
open Go.RowKit
set_option maxRecDepth 100000

theorem c_fits (s : Shp) (c : Cl) (hc : c.own) (vn vi : Value) (ok : Nat → Prop) (w : World) (ht : Tab w) (hn : StrSl w ok vn c.names) (hi : ClSl w ok vi c.items) :
    Calls Tryz.prog 22 #[s.val, .agg #[.int .u8 c.kind, vn, .int .u8 c.dom, .int .i64 c.idx, .int .i64 c.a, .int .i64 c.b, vi, .int .i64 c.off]] w fun e w' => e = .returned (.bool (fitsB s c)) ∧ Below w.heap.size w w' := by
  cases l1 : decide ((c.names.length : Int) ≤ s.names) with
  | false =>
    exact fitsP1 s c hc vn vi ok w ht hn hi l1
  | true =>
    cases l2 : decide (min 1 s.names ≤ (c.names.length : Int)) with
    | false =>
      exact fitsP2 s c hc vn vi ok w ht hn hi l1 l2
    | true =>
      cases aa : c.names.all isNameB with
      | false =>
        exact fitsP3 s c hc vn vi ok w ht hn hi l1 l2 aa
      | true =>
        cases dd : (scB c.dom).toList.isEmpty with
        | false =>
          cases sd : s.dom with
          | false =>
            exact fitsP4b s c hc vn vi ok w ht hn hi l1 l2 aa dd sd
          | true =>
            cases n1 : fitNumB c.idx s.idx with
            | false =>
              exact fitsP6a s c hc vn vi ok w ht hn hi l1 l2 aa dd sd n1
            | true =>
              cases n2 : fitNumB c.a s.a with
              | false =>
                exact fitsP7a s c hc vn vi ok w ht hn hi l1 l2 aa dd sd n1 n2
              | true =>
                cases n3 : fitNumB c.b s.b with
                | false =>
                  exact fitsP8a s c hc vn vi ok w ht hn hi l1 l2 aa dd sd n1 n2 n3
                | true =>
                  cases st : s.items with
                  | false =>
                    cases ii : ((c.items.length : Int) == 0) with
                    | false =>
                      exact fitsP10a s c hc vn vi ok w ht hn hi l1 l2 aa dd sd n1 n2 n3 st ii
                    | true =>
                      exact fitsP11a s c hc vn vi ok w ht hn hi l1 l2 aa dd sd n1 n2 n3 st ii
                  | true =>
                    exact fitsP9a s c hc vn vi ok w ht hn hi l1 l2 aa dd sd n1 n2 n3 st
        | true =>
          cases sd : s.dom with
          | false =>
            cases ee : (c.dom == 0) with
            | false =>
              exact fitsP5 s c hc vn vi ok w ht hn hi l1 l2 aa dd sd ee
            | true =>
              cases n1 : fitNumB c.idx s.idx with
              | false =>
                exact fitsP6b s c hc vn vi ok w ht hn hi l1 l2 aa dd sd ee n1
              | true =>
                cases n2 : fitNumB c.a s.a with
                | false =>
                  exact fitsP7b s c hc vn vi ok w ht hn hi l1 l2 aa dd sd ee n1 n2
                | true =>
                  cases n3 : fitNumB c.b s.b with
                  | false =>
                    exact fitsP8b s c hc vn vi ok w ht hn hi l1 l2 aa dd sd ee n1 n2 n3
                  | true =>
                    cases st : s.items with
                    | false =>
                      cases ii : ((c.items.length : Int) == 0) with
                      | false =>
                        exact fitsP10b s c hc vn vi ok w ht hn hi l1 l2 aa dd sd ee n1 n2 n3 st ii
                      | true =>
                        exact fitsP11b s c hc vn vi ok w ht hn hi l1 l2 aa dd sd ee n1 n2 n3 st ii
                    | true =>
                      exact fitsP9b s c hc vn vi ok w ht hn hi l1 l2 aa dd sd ee n1 n2 n3 st
          | true =>
            exact fitsP4a s c hc vn vi ok w ht hn hi l1 l2 aa dd sd

def itemB (c : Cl) : Bool := match assocI c.kind itemSh with | some s => fitsB s c | none => false
def clauseB (c : Cl) : Bool := match assocI c.kind clauseSh with | some s => fitsB s c && c.items.all itemB | none => false

set_option maxHeartbeats 4000000 in
theorem c_F11 (c : Cl) (hc : c.own) (vn vi : Value) (ok : Nat → Prop) (ib mb : Nat) (w : World) (ht : Tab w) (hn : StrSl w ok vn c.names) (hi : ClSl w ok vi c.items) (h0 : w.cell? ⟨ib, 0, none⟩ = some (.map (some mb))) (hm : MapSh w mb itemSh) :
    Calls Tryz.prog 23 #[.agg #[.int .u8 c.kind, vn, .int .u8 c.dom, .int .i64 c.idx, .int .i64 c.a, .int .i64 c.b, vi, .int .i64 c.off], .pointer (some ⟨ib, 0, none⟩)] w fun e w' => e = .returned (.bool (itemB c)) ∧ Below w.heap.size w w' := by
  obtain ⟨A1, m1, p1, rfl⟩ := hn.shape
  obtain ⟨A2, m2, p2, rfl⟩ := hi.shape
  have hlt := cell_lt' h0
  have hm1 := hm.keep (row_alloc_eq w (.cells #[.int .u8 c.kind, .slice A1 m1 p1, .int .u8 c.dom, .int .i64 c.idx, .int .i64 c.a, .int .i64 c.b, .slice A2 m2 p2, .int .i64 c.off] 36) hm.lt)
  have hlk := run_lookI Tryz.underlying44 Tryz.underlying32 (zeroSh _) hm1 c.kind
  have hF := fun s W (hb : Below w.heap.size w W) => c_fits s c hc _ _ ok W (ht.on hb) (hn.below hb) (hi.below hb)
  have HF := Lib.hid hF
  clear hF hn hi ht hm hm1
  unfold itemB
  cases e : assocI c.kind itemSh with
  | none =>
    rw [e] at hlk
    dsimp only [Option.getD, Option.isSome, shp0, Shp.val] at hlk
    clear e
    go_enter Tryz.func23, Tryz.ntmps23
    go_wp2_with (fail)
    go_ret
    exact ⟨rfl, by repeat (first | with_reducible exact Below.refl _ _ | with_reducible refine Below.alloc ?_ (by (try simp) <;> omega) _)⟩
  | some s =>
    rw [e] at hlk
    obtain ⟨sn, sd, si, sa, sb, st⟩ := s
    dsimp only [Option.getD, Option.isSome, Shp.val] at hlk
    clear e
    go_enter Tryz.func23, Tryz.ntmps23
    go_wp2_with (go_at_call 22; refine (HF.out ⟨sn, sd, si, sa, sb, st⟩ _ ?_).mono ?_; (repeat (first | with_reducible exact Below.refl _ _ | with_reducible refine Below.alloc ?_ (by (try simp) <;> omega) _)); rintro e w1 ⟨rfl, b1⟩; have B1 := Lib.hid b1; clear b1)
    go_ret
    refine ⟨rfl, Below.trans ?_ (B1.out.mono (B' := w.heap.size) (by (try simp) <;> omega))⟩
    repeat (first | with_reducible exact Below.refl _ _ | with_reducible refine Below.alloc ?_ (by (try simp) <;> omega) _)

/-- Between two rounds of all over clauses. -/
def AllCl (f : Cl → Bool) (l : List Cl) (bv : Bool) (w : World) (i : Value) (wr : World) : Prop :=
  ∃ k : Nat, k ≤ l.length ∧ i = .int .i64 k ∧ bv = (l.drop k).all f ∧ Below w.heap.size w wr

set_option maxHeartbeats 4000000 in
theorem c_allItems (ib : Nat) (l : List Cl) (v : Value) (ok : Nat → Prop) (w : World) (h : ClSl w ok v l)
    (hF : ∀ c ∈ l, ∀ (vn vi : Value) (W : World), Below w.heap.size w W → StrSl W ok vn c.names → ClSl W ok vi c.items → Calls Tryz.prog 23 #[.agg #[.int .u8 c.kind, vn, .int .u8 c.dom, .int .i64 c.idx, .int .i64 c.a, .int .i64 c.b, vi, .int .i64 c.off], .pointer (some ⟨ib, 0, none⟩)] W fun e w' => e = .returned (.bool (itemB c)) ∧ Below W.heap.size W w') :
    Calls Tryz.prog 20 #[v, .func (.func 23) #[] #[.pointer (some ⟨ib, 0, none⟩)]] w fun e w' => e = .returned (.bool (l.all itemB)) ∧ Below w.heap.size w w' := by
  obtain ⟨A, c0, rfl, h2, h3, -⟩ := id h
  have H := Lib.hid h
  have HF := Lib.hid hF
  unfold maxLen at h3
  clear h hF
  obtain ⟨bv, hbv⟩ : ∃ b, b = l.all itemB := ⟨_, rfl⟩
  rw [← hbv]
  have Hbv := Lib.hid hbv
  clear hbv
  go_enter Tryz.func20, Tryz.ntmps20
  go_wp2_with (fail)
  go_loopw [9] (fun i wr => AllCl itemB l bv w i wr) (fun i wr => l.length - (intOf i).toNat)
  case atStart => exact ⟨0, Nat.zero_le _, rfl, by rw [Hbv.out]; rfl, Below.refl _ _⟩
  case round =>
    obtain ⟨k, hk, rfl, hbk, hbl⟩ := hrel
    have HB := Lib.hid hbl
    have hsz := hbl.size
    by_cases hlt : k < l.length
    · have hcin := List.getElem_mem hlt
      obtain ⟨b1, o1, c1, vn, vi, e1, -, -, -, hn1, hi1, q0, q1, q2, q3, q4, q5, q6, q7⟩ := (H.out.below hbl).at_ hlt
      injection e1 with e1 _ e1'
      subst e1 e1'
      have hd : (l.drop k).all itemB = (itemB l[k] && (l.drop (k + 1)).all itemB) := by rw [List.drop_eq_getElem_cons hlt]; rfl
      rw [hd] at hbk
      have Hbk := Lib.hid hbk
      clear hbk hd hbl
      obtain ⟨vA1, vn1, vc1, rfl⟩ := hn1.shape
      obtain ⟨vA2, vn2, vc2, rfl⟩ := hi1.shape
      generalize l[k] = x at q0 q1 q2 q3 q4 q5 q6 q7 hn1 hi1 Hbk hcin
      have lt1 := cell_lt' q0
      have hC := fun W (hW : Below wr.heap.size wr W) => HF.out x hcin _ _ W (HB.out.trans (hW.mono hsz)) (hn1.below hW) (hi1.below hW)
      have HC := Lib.hid hC
      clear hC hn1 hi1
      cases hx : itemB x with
      | false =>
        have Hx := Lib.hid hx
        clear hx
        go_wp2_with (go_at_call 23; refine (HC.out _ ((Below.refl _ _).alloc (Nat.le_refl _) _)).mono ?_; rintro e w2 ⟨rfl, b2⟩; rw [Hx.out]; have B2 := Lib.hid b2; clear b2)
        go_ret
        exact ⟨ret_bool (by rw [Hbk.out, Hx.out]; rfl), (HB.out.alloc hsz _).trans (B2.out.mono (by (try simp) <;> omega))⟩
      | true =>
        have Hx := Lib.hid hx
        clear hx
        go_wp2_with (go_at_call 23; refine (HC.out _ ((Below.refl _ _).alloc (Nat.le_refl _) _)).mono ?_; rintro e w2 ⟨rfl, b2⟩; rw [Hx.out]; have B2 := Lib.hid b2; clear b2)
        exact ⟨⟨k + 1, by omega, by go_num, by rw [Hbk.out, Hx.out]; rfl, (HB.out.alloc hsz _).trans (B2.out.mono (by (try simp) <;> omega))⟩, by simp [intOf]; omega⟩
    · have hb2 : bv = true := by
        rw [hbk, List.drop_of_length_le (by omega)]; rfl
      have Hb2 := Lib.hid hb2
      clear hb2 hbk
      go_wp2_with (fail)
      go_ret
      exact ⟨ret_bool Hb2.out.symm, HB.out⟩

set_option maxHeartbeats 4000000 in
theorem c_allClauses (kb ib : Nat) (l : List Cl) (v : Value) (ok : Nat → Prop) (w : World) (h : ClSl w ok v l)
    (hF : ∀ c ∈ l, ∀ (vn vi : Value) (W : World), Below w.heap.size w W → StrSl W ok vn c.names → ClSl W ok vi c.items → Calls Tryz.prog 21 #[.agg #[.int .u8 c.kind, vn, .int .u8 c.dom, .int .i64 c.idx, .int .i64 c.a, .int .i64 c.b, vi, .int .i64 c.off], .pointer (some ⟨kb, 0, none⟩), .pointer (some ⟨ib, 0, none⟩)] W fun e w' => e = .returned (.bool (clauseB c)) ∧ Below W.heap.size W w') :
    Calls Tryz.prog 20 #[v, .func (.func 21) #[] #[.pointer (some ⟨kb, 0, none⟩), .pointer (some ⟨ib, 0, none⟩)]] w fun e w' => e = .returned (.bool (l.all clauseB)) ∧ Below w.heap.size w w' := by
  obtain ⟨A, c0, rfl, h2, h3, -⟩ := id h
  have H := Lib.hid h
  have HF := Lib.hid hF
  unfold maxLen at h3
  clear h hF
  obtain ⟨bv, hbv⟩ : ∃ b, b = l.all clauseB := ⟨_, rfl⟩
  rw [← hbv]
  have Hbv := Lib.hid hbv
  clear hbv
  go_enter Tryz.func20, Tryz.ntmps20
  go_wp2_with (fail)
  go_loopw [9] (fun i wr => AllCl clauseB l bv w i wr) (fun i wr => l.length - (intOf i).toNat)
  case atStart => exact ⟨0, Nat.zero_le _, rfl, by rw [Hbv.out]; rfl, Below.refl _ _⟩
  case round =>
    obtain ⟨k, hk, rfl, hbk, hbl⟩ := hrel
    have HB := Lib.hid hbl
    have hsz := hbl.size
    by_cases hlt : k < l.length
    · have hcin := List.getElem_mem hlt
      obtain ⟨b1, o1, c1, vn, vi, e1, -, -, -, hn1, hi1, q0, q1, q2, q3, q4, q5, q6, q7⟩ := (H.out.below hbl).at_ hlt
      injection e1 with e1 _ e1'
      subst e1 e1'
      have hd : (l.drop k).all clauseB = (clauseB l[k] && (l.drop (k + 1)).all clauseB) := by rw [List.drop_eq_getElem_cons hlt]; rfl
      rw [hd] at hbk
      have Hbk := Lib.hid hbk
      clear hbk hd hbl
      obtain ⟨vA1, vn1, vc1, rfl⟩ := hn1.shape
      obtain ⟨vA2, vn2, vc2, rfl⟩ := hi1.shape
      generalize l[k] = x at q0 q1 q2 q3 q4 q5 q6 q7 hn1 hi1 Hbk hcin
      have lt1 := cell_lt' q0
      have hC := fun W (hW : Below wr.heap.size wr W) => HF.out x hcin _ _ W (HB.out.trans (hW.mono hsz)) (hn1.below hW) (hi1.below hW)
      have HC := Lib.hid hC
      clear hC hn1 hi1
      cases hx : clauseB x with
      | false =>
        have Hx := Lib.hid hx
        clear hx
        go_wp2_with (go_at_call 21; refine (HC.out _ ((Below.refl _ _).alloc (Nat.le_refl _) _)).mono ?_; rintro e w2 ⟨rfl, b2⟩; rw [Hx.out]; have B2 := Lib.hid b2; clear b2)
        go_ret
        exact ⟨ret_bool (by rw [Hbk.out, Hx.out]; rfl), (HB.out.alloc hsz _).trans (B2.out.mono (by (try simp) <;> omega))⟩
      | true =>
        have Hx := Lib.hid hx
        clear hx
        go_wp2_with (go_at_call 21; refine (HC.out _ ((Below.refl _ _).alloc (Nat.le_refl _) _)).mono ?_; rintro e w2 ⟨rfl, b2⟩; rw [Hx.out]; have B2 := Lib.hid b2; clear b2)
        exact ⟨⟨k + 1, by omega, by go_num, by rw [Hbk.out, Hx.out]; rfl, (HB.out.alloc hsz _).trans (B2.out.mono (by (try simp) <;> omega))⟩, by simp [intOf]; omega⟩
    · have hb2 : bv = true := by
        rw [hbk, List.drop_of_length_le (by omega)]; rfl
      have Hb2 := Lib.hid hb2
      clear hb2 hbk
      go_wp2_with (fail)
      go_ret
      exact ⟨ret_bool Hb2.out.symm, HB.out⟩

/-- A clause whose fields, and whose items' fields, are values of their types. -/
def Cl.own2 (c : Cl) : Prop := c.own ∧ ∀ i ∈ c.items, i.own

set_option maxHeartbeats 4000000 in
theorem c_F1 (c : Cl) (hc : c.own2) (vn vi : Value) (ok : Nat → Prop) (kb ib mk mb : Nat) (w : World) (ht : Tab w) (hn : StrSl w ok vn c.names) (hi : ClSl w ok vi c.items) (h0 : w.cell? ⟨kb, 0, none⟩ = some (.map (some mk))) (hmk : MapSh w mk clauseSh)
    (h1 : w.cell? ⟨ib, 0, none⟩ = some (.map (some mb))) (hm : MapSh w mb itemSh) :
    Calls Tryz.prog 21 #[.agg #[.int .u8 c.kind, vn, .int .u8 c.dom, .int .i64 c.idx, .int .i64 c.a, .int .i64 c.b, vi, .int .i64 c.off], .pointer (some ⟨kb, 0, none⟩), .pointer (some ⟨ib, 0, none⟩)] w fun e w' => e = .returned (.bool (clauseB c)) ∧ Below w.heap.size w w' := by
  have hlt := cell_lt' h0
  have hlt1 := cell_lt' h1
  have hA := fun W (hb : Below w.heap.size w W) => c_allItems ib c.items vi ok W (hi.below hb) (fun i hii vn' vi' W2 hb2 g1 g2 => c_F11 i (hc.2 i hii) vn' vi' ok ib mb W2 ((ht.on hb).on hb2) g1 g2
    ((hb2.cell (p := ⟨ib, 0, none⟩) (by have := hb.size; show ib < _; omega)).trans ((hb.cell (p := ⟨ib, 0, none⟩) hlt1).trans h1)) ((hm.below hb (Nat.le_refl _)).below hb2 (Nat.le_refl _)))
  obtain ⟨A1, m1, p1, rfl⟩ := hn.shape
  obtain ⟨A2, m2, p2, rfl⟩ := hi.shape
  have hm1 := hmk.keep (row_alloc_eq w (.cells #[.int .u8 c.kind, .slice A1 m1 p1, .int .u8 c.dom, .int .i64 c.idx, .int .i64 c.a, .int .i64 c.b, .slice A2 m2 p2, .int .i64 c.off] 36) hmk.lt)
  have hlk := run_lookI Tryz.underlying44 Tryz.underlying32 (zeroSh _) hm1 c.kind
  have hF := fun s W (hb : Below w.heap.size w W) => c_fits s c hc.1 _ _ ok W (ht.on hb) (hn.below hb) (hi.below hb)
  have HF := Lib.hid hF
  have HA := Lib.hid hA
  clear hF hA hn hi ht hm hmk hm1
  unfold clauseB
  cases e : assocI c.kind clauseSh with
  | none =>
    rw [e] at hlk
    dsimp only [Option.getD, Option.isSome, shp0, Shp.val] at hlk
    clear e
    go_enter Tryz.func21, Tryz.ntmps21
    go_wp2_with (fail)
    go_ret
    exact ⟨rfl, by repeat (first | with_reducible exact Below.refl _ _ | with_reducible refine Below.alloc ?_ (by (try simp) <;> omega) _)⟩
  | some s =>
    rw [e] at hlk
    obtain ⟨sn, sd, si, sa, sb, st⟩ := s
    dsimp only [Option.getD, Option.isSome, Shp.val] at hlk
    clear e
    dsimp only
    cases hf : fitsB ⟨sn, sd, si, sa, sb, st⟩ c with
    | false =>
      have Hf := Lib.hid hf
      clear hf
      go_enter Tryz.func21, Tryz.ntmps21
      go_wp2_with (go_at_call 22; refine (HF.out ⟨sn, sd, si, sa, sb, st⟩ _ ?_).mono ?_; (repeat (first | with_reducible exact Below.refl _ _ | with_reducible refine Below.alloc ?_ (by (try simp) <;> omega) _)); rintro e w1 ⟨rfl, b1⟩; rw [Hf.out]; have B1 := Lib.hid b1; clear b1)
      go_ret
      refine ⟨rfl, Below.trans ?_ (B1.out.mono (B' := w.heap.size) (by (try simp) <;> omega))⟩
      repeat (first | with_reducible exact Below.refl _ _ | with_reducible refine Below.alloc ?_ (by (try simp) <;> omega) _)
    | true =>
      have Hf := Lib.hid hf
      clear hf
      simp only [Bool.true_and]
      have hmf : ∀ (fn : Fn) (first cap : Array Value) (w : World), (Instr.makeFunc fn first cap).run Tryz.prog w = .ok (.func fn first cap) w := fun _ _ _ _ => rfl
      go_enter Tryz.func21, Tryz.ntmps21
      go_wp2_with (first | (go_at_call 22; refine (HF.out ⟨sn, sd, si, sa, sb, st⟩ _ ?_).mono ?_; (repeat (first | with_reducible exact Below.refl _ _ | with_reducible refine Below.alloc ?_ (by (try simp) <;> omega) _)); rintro e w1 ⟨rfl, b1⟩; rw [Hf.out]; have kc := (b1.block w.heap.size (by (try simp) <;> omega)).trans (row_alloc (row_new _ _ _ rfl) _); obtain ⟨y0, y1, y2, y3, y4, y5, y6, y7⟩ := eight_cells kc; have hw1 : Below w.heap.size w w1 := (Below.trans (((Below.refl w.heap.size w).alloc (Nat.le_refl _) _).alloc (by simp) _) (b1.mono (by (try simp) <;> omega))); have B1 := Lib.hid hw1; clear b1 kc hw1) | (go_at_call 20; refine (HA.out _ B1.out).mono ?_; rintro e w2 ⟨rfl, b2⟩; have B2 := Lib.hid b2; clear b2))
      go_ret
      exact ⟨rfl, B1.out.trans (B2.out.mono B1.out.size)⟩

/-- syntax.Formed, of clauses whose fields are values of their types. -/
def formedB (l : List Cl) : Bool := l.all clauseB
set_option maxHeartbeats 4000000 in
theorem c_Formed (l : List Cl) (hl : ∀ c ∈ l, c.own2) (v : Value) (ok : Nat → Prop) (w : World) (ht : Tab w) (h : ClSl w ok v l) :
    Calls Tryz.prog 9 #[v] w fun e w' => e = .returned (.bool (formedB l)) ∧ Below w.heap.size w w' := by
  have hmf : ∀ (fn : Fn) (first cap : Array Value) (w : World), (Instr.makeFunc fn first cap).run Tryz.prog w = .ok (.func fn first cap) w := fun _ _ _ _ => rfl
  have H := Lib.hid h
  have HT := Lib.hid ht
  obtain ⟨A, m, p, rfl⟩ := h.shape
  clear h ht
  go_enter Tryz.func9, Tryz.ntmps9
  go_wp2_with (first | (go_at_call 18; refine (c_clauseShapes _).mono ?_; rintro e w1 ⟨rfl, hm1, b1⟩; have Hm1 := Lib.hid hm1; have B1 := Lib.hid b1; have z1 := b1.size; have l1 := hm1.lt; clear hm1 b1) | (go_at_call 19; refine (c_itemShapes _).mono ?_; rintro e w2 ⟨rfl, hm2, b2⟩; have Hm2 := Lib.hid hm2; have B2 := Lib.hid b2; have z2 := b2.size; have l2 := hm2.lt; clear hm2 b2))
  have hB2 : Below w.heap.size w w2 := B1.out.trans (B2.out.mono (by omega))
  have HB := Lib.hid (show Below w.heap.size w ((w2.alloc (.cells #[.map (some w.heap.size)] 44)).alloc (.cells #[.map (some w1.heap.size)] 44)) from (hB2.alloc hB2.size _).alloc (by have := hB2.size; simp; omega) _)
  have k0 : ((w2.alloc (.cells #[.map (some w.heap.size)] 44)).alloc (.cells #[.map (some w1.heap.size)] 44)).heap[w2.heap.size]? = some (.cells #[.map (some w.heap.size)] 44 (0, 0)) := row_alloc (row_new _ _ _ rfl) _
  have k1 : ((w2.alloc (.cells #[.map (some w.heap.size)] 44)).alloc (.cells #[.map (some w1.heap.size)] 44)).heap[w2.heap.size + 1]? = some (.cells #[.map (some w1.heap.size)] 44 (0, 0)) := row_new _ _ _ (by simp)
  have j0 : MapSh ((w2.alloc (.cells #[.map (some w.heap.size)] 44)).alloc (.cells #[.map (some w1.heap.size)] 44)) w.heap.size clauseSh := Hm1.out.keep ((row_alloc_eq _ _ (by (try simp) <;> omega)).trans ((row_alloc_eq _ _ (by omega)).trans (B2.out.block _ l1)))
  have j1 : MapSh ((w2.alloc (.cells #[.map (some w.heap.size)] 44)).alloc (.cells #[.map (some w1.heap.size)] 44)) w1.heap.size itemSh := Hm2.out.keep ((row_alloc_eq _ _ (by (try simp) <;> omega)).trans (row_alloc_eq _ _ l2))
  go_at_call 20
  refine (c_allClauses w2.heap.size (w2.heap.size + 1) l _ ok _ (H.out.below HB.out) (fun c hc vn vi W hb g1 g2 => c_F1 c (hl c hc) vn vi ok _ _ w.heap.size w1.heap.size W ((HT.out.on HB.out).on hb) g1 g2
    ((hb.cell (p := ⟨w2.heap.size, 0, none⟩) (by simp; omega)).trans (one_cell k0)) (j0.below hb (Nat.le_refl _)) ((hb.cell (p := ⟨w2.heap.size + 1, 0, none⟩) (by simp)).trans (one_cell k1)) (j1.below hb (Nat.le_refl _)))).mono ?_
  rintro e w3 ⟨rfl, b3⟩
  have B3 := Lib.hid b3
  clear b3 k0 k1 j0 j1
  go_wp2_with (fail)
  go_ret
  exact ⟨rfl, HB.out.trans (B3.out.mono HB.out.size)⟩
end Go.Proofs.YtplnnpkohdmiaaaGreatDoor

/- DERIVED. Plain: the tokens of a tree, and what is read of them. -/
namespace Go.Proofs.YtplnnpkohdmiaaaGreatDoor
open Go.RowKit

def itemToks (c : Cl) : List Tok :=
  if c.kind = 6 then [nameT ⟨#[99, 111, 114, 101, 115]⟩, numT c.a, signT ⟨#[59]⟩]
  else if c.kind = 7 then [nameT ⟨#[114, 101, 112, 108, 105, 99, 97, 115]⟩, numT c.a, signT ⟨#[59]⟩]
  else if c.kind = 8 then [nameT ⟨#[108, 101, 97, 115, 116]⟩, numT c.a, signT ⟨#[59]⟩]
  else if c.kind = 9 then [nameT ⟨#[115, 112, 114, 101, 97, 100]⟩, numT c.a, nameT ⟨#[112, 101, 114]⟩, nameT (scB c.dom), signT ⟨#[59]⟩]
  else if c.kind = 10 then (match c.names with | [] => [] | n :: ns => nameT ⟨#[97, 112, 97, 114, 116]⟩ :: nameT n :: (sepToks ns ++ [signT ⟨#[59]⟩]))
  else if c.kind = 11 then (match c.names with | [] => [] | n :: _ => [nameT ⟨#[110, 101, 97, 114]⟩, nameT n, nameT ⟨#[119, 105, 116, 104, 105, 110]⟩, numT c.a, signT ⟨#[59]⟩])
  else if c.kind = 12 then [nameT ⟨#[102, 105, 114, 109, 119, 97, 114, 101]⟩, numT c.a, signT ⟨#[59]⟩]
  else []
def clauseToks (c : Cl) : List Tok :=
  if c.kind = 1 then (match c.names with | [] => [] | n :: _ => nameT ⟨#[115, 101, 114, 118, 105, 99, 101]⟩ :: nameT n :: signT ⟨#[123]⟩ :: (c.items.flatMap itemToks ++ [signT ⟨#[125]⟩]))
  else if c.kind = 2 then [nameT ⟨#[119, 105, 110, 100, 111, 119]⟩, nameT (scB c.dom), numT c.idx, nameT ⟨#[102, 114, 111, 109]⟩, numT c.a, nameT ⟨#[116, 111]⟩, numT c.b, signT ⟨#[59]⟩]
  else if c.kind = 3 then [nameT ⟨#[97, 112, 112, 114, 111, 118, 101]⟩, nameT (scB c.dom), numT c.idx, signT ⟨#[59]⟩]
  else if c.kind = 4 then [nameT ⟨#[98, 108, 97, 115, 116]⟩, numT c.a, signT ⟨#[59]⟩]
  else if c.kind = 5 then [nameT ⟨#[99, 97, 112]⟩, nameT ⟨#[102, 101, 101, 100]⟩, numT c.idx, nameT ⟨#[97, 116]⟩, numT c.a, signT ⟨#[59]⟩]
  else []

theorem lit_ok (t : Tok) (l : List Tok) : pLit t.text (t :: l) = .ok ((), l) := by simp [pLit, pNext, fitLit, bindR]
theorem name_ok_ (n : ByteArray) (h : isWordB n = false) (l : List Tok) : pName (nameT n :: l) = .ok (n, l) := by simp [pName, pNext, fitName, nameT, bindR, h]
theorem num_ok_ (n : Int) (l : List Tok) : pNum (numT n :: l) = .ok (n, l) := by simp [pNum, pNext, fitNum, numT, bindR]
theorem scope_ok (s : ByteArray) (h : domB s ≠ 0) (l : List Tok) : pScope (nameT s :: l) = .ok (domB s, l) := by simp [pScope, pNext, fitScope, nameT, bindR, h]
theorem clause_ok {tab : List (ByteArray × (List Tok → Rd Cl))} {t : Tok} {p : List Tok → Rd Cl} {l r : List Tok} {c : Cl} (h : assocB t.text tab = some p) (hp : p l = .ok (c, r)) : pClause tab (t :: l) = .ok (c.withOff t.off, r) := by
  simp [pClause, pNext, bindR, h, hp]
theorem dom_of (d : Int) (h : (scB d).toList ≠ []) : domB (scB d) = d ∧ d ≠ 0 := by
  rw [ByteArray.toList_eq] at h
  unfold scB at h ⊢
  split at h
  · rename_i e; subst e; simp [domB, ByteArray.toList_eq]
  · split at h
    · rename_i e; subst e; simp [domB, ByteArray.toList_eq]
    · split at h
      · rename_i e; subst e; simp [domB, ByteArray.toList_eq]
      · split at h
        · rename_i e; subst e; simp [domB, ByteArray.toList_eq]
        · split at h
          · rename_i e; subst e; simp [domB, ByteArray.toList_eq]
          · exact absurd rfl h

/-- A number that a form has. -/
def NumOk (n : Int) : Prop := n = 0 ∨ validT (numT n) = true
def NamOk (n : ByteArray) : Prop := isWordB n = false ∧ validT (nameT n) = true
def DomOk (d : Int) : Prop := (scB d).toList ≠ []
theorem nam_of {n : ByteArray} (h : isNameB n = true) : NamOk n := by
  unfold isNameB at h
  simp only [Bool.and_eq_true, Bool.not_eq_true'] at h
  exact h
theorem len0 {α : Type} {l : List α} (h : (l.length : Int) ≤ 0) : l = [] := List.eq_nil_of_length_eq_zero (by omega)
theorem fits_of {s : Shp} {c : Cl} (h : fitsB s c = true) : (c.names.length : Int) ≤ s.names ∧ min 1 s.names ≤ (c.names.length : Int) ∧ (∀ n ∈ c.names, NamOk n) ∧ (s.dom = true → DomOk c.dom) ∧ (s.dom = false → c.dom = 0) ∧
    (s.idx = true → NumOk c.idx) ∧ (s.idx = false → c.idx = 0) ∧ (s.a = true → NumOk c.a) ∧ (s.a = false → c.a = 0) ∧ (s.b = true → NumOk c.b) ∧ (s.b = false → c.b = 0) ∧ (s.items = false → c.items = []) := by
  unfold fitsB fitNumB at h
  simp only [Bool.and_eq_true, Bool.or_eq_true, decide_eq_true_eq, beq_iff_eq, List.all_eq_true] at h
  obtain ⟨h1, h2, h3, h4, h5, h6, h7, h8, h9⟩ := h
  refine ⟨h1, h2, fun n hn => nam_of (h3 n hn), fun e => ?_, fun e => ?_, fun e => ?_, fun e => ?_, fun e => ?_, fun e => ?_, fun e => ?_, fun e => ?_, fun e => ?_⟩
  · rw [e] at h4; simpa [DomOk] using h4
  · rw [e] at h5; simpa using h5
  · rcases h6 with h6 | h6
    · exact Or.inl h6
    · exact Or.inr h6.2
  · rw [e] at h6; simpa using h6
  · rcases h7 with h7 | h7
    · exact Or.inl h7
    · exact Or.inr h7.2
  · rw [e] at h7; simpa using h7
  · rcases h8 with h8 | h8
    · exact Or.inl h8
    · exact Or.inr h8.2
  · rw [e] at h8; simpa using h8
  · rw [e] at h9; simp at h9; exact h9

/-- What an item is. -/
inductive ItemIs : Cl → Prop
  | num (k a o : Int) (hk : k = 6 ∨ k = 7 ∨ k = 8 ∨ k = 12) (ha : NumOk a) : ItemIs (.mk k [] 0 0 a 0 [] o)
  | spread (d a o : Int) (hd : DomOk d) (ha : NumOk a) : ItemIs (.mk 9 [] d 0 a 0 [] o)
  | apart (n : ByteArray) (ns : List ByteArray) (o : Int) (hn : NamOk n) (hns : ∀ x ∈ ns, NamOk x) : ItemIs (.mk 10 (n :: ns) 0 0 0 0 [] o)
  | near (n : ByteArray) (a o : Int) (hn : NamOk n) (ha : NumOk a) : ItemIs (.mk 11 [n] 0 0 a 0 [] o)
theorem one_nm {l : List ByteArray} (h1 : (l.length : Int) ≤ 1) (h2 : min 1 (1 : Int) ≤ l.length) : ∃ n, l = [n] := by
  match l with
  | [] => simp at h2
  | [n] => exact ⟨n, rfl⟩
  | _ :: _ :: _ => simp at h1; omega
theorem item_is {c : Cl} (h : itemB c = true) : ItemIs c := by
  obtain ⟨k, ns, d, i, a, b, its, o⟩ := c
  unfold itemB itemSh at h
  dsimp only [Cl.kind] at h
  simp only [assocI] at h
  by_cases k6 : k = 6
  · subst k6
    obtain ⟨f1, _, _, _, f5, _, f7, f8, _, _, f11, f12⟩ := fits_of (s := ⟨0, false, false, true, false, false⟩) (by simpa using h)
    dsimp only [Cl.names, Cl.dom, Cl.idx, Cl.a, Cl.b, Cl.items] at *
    rw [len0 f1, f5 rfl, f7 rfl, f11 rfl, f12 rfl]
    exact .num 6 a o (by omega) (f8 rfl)
  · by_cases k7 : k = 7
    · subst k7
      obtain ⟨f1, _, _, _, f5, _, f7, f8, _, _, f11, f12⟩ := fits_of (s := ⟨0, false, false, true, false, false⟩) (by simpa using h)
      dsimp only [Cl.names, Cl.dom, Cl.idx, Cl.a, Cl.b, Cl.items] at *
      rw [len0 f1, f5 rfl, f7 rfl, f11 rfl, f12 rfl]
      exact .num 7 a o (by omega) (f8 rfl)
    · by_cases k8 : k = 8
      · subst k8
        obtain ⟨f1, _, _, _, f5, _, f7, f8, _, _, f11, f12⟩ := fits_of (s := ⟨0, false, false, true, false, false⟩) (by simpa using h)
        dsimp only [Cl.names, Cl.dom, Cl.idx, Cl.a, Cl.b, Cl.items] at *
        rw [len0 f1, f5 rfl, f7 rfl, f11 rfl, f12 rfl]
        exact .num 8 a o (by omega) (f8 rfl)
      · by_cases k9 : k = 9
        · subst k9
          obtain ⟨f1, _, _, f4, _, _, f7, f8, _, _, f11, f12⟩ := fits_of (s := ⟨0, true, false, true, false, false⟩) (by simpa using h)
          dsimp only [Cl.names, Cl.dom, Cl.idx, Cl.a, Cl.b, Cl.items] at *
          rw [len0 f1, f7 rfl, f11 rfl, f12 rfl]
          exact .spread d a o (f4 rfl) (f8 rfl)
        · by_cases k10 : k = 10
          · subst k10
            obtain ⟨f1, f2, f3, _, f5, _, f7, _, f9, _, f11, f12⟩ := fits_of (s := ⟨9223372036854775807, false, false, false, false, false⟩) (by simpa using h)
            dsimp only [Cl.names, Cl.dom, Cl.idx, Cl.a, Cl.b, Cl.items] at *
            rw [f5 rfl, f7 rfl, f9 rfl, f11 rfl, f12 rfl]
            cases ns with
            | nil => exact absurd f2 (by simp only [List.length_nil]; decide)
            | cons n ns => exact .apart n ns o (f3 n (by simp)) (fun x hx => f3 x (by simp [hx]))
          · by_cases k11 : k = 11
            · subst k11
              obtain ⟨f1, f2, f3, _, f5, _, f7, f8, _, _, f11, f12⟩ := fits_of (s := ⟨1, false, false, true, false, false⟩) (by simpa using h)
              dsimp only [Cl.names, Cl.dom, Cl.idx, Cl.a, Cl.b, Cl.items] at *
              rw [f5 rfl, f7 rfl, f11 rfl, f12 rfl]
              obtain ⟨n, rfl⟩ := one_nm f1 f2
              exact .near n a o (f3 n (by simp)) (f8 rfl)
            · by_cases k12 : k = 12
              · subst k12
                obtain ⟨f1, _, _, _, f5, _, f7, f8, _, _, f11, f12⟩ := fits_of (s := ⟨0, false, false, true, false, false⟩) (by simpa using h)
                dsimp only [Cl.names, Cl.dom, Cl.idx, Cl.a, Cl.b, Cl.items] at *
                rw [len0 f1, f5 rfl, f7 rfl, f11 rfl, f12 rfl]
                exact .num 12 a o (by omega) (f8 rfl)
              · rw [if_neg (Ne.symm k6), if_neg (Ne.symm k7), if_neg (Ne.symm k8), if_neg (Ne.symm k9), if_neg (Ne.symm k10), if_neg (Ne.symm k11), if_neg (Ne.symm k12)] at h
                cases h

/-- What a clause is. -/
inductive ClauseIs : Cl → Prop
  | service (n : ByteArray) (its : List Cl) (o : Int) (hn : NamOk n) (hi : ∀ c ∈ its, ItemIs c) : ClauseIs (.mk 1 [n] 0 0 0 0 its o)
  | window (d i a b o : Int) (hd : DomOk d) (hi : NumOk i) (ha : NumOk a) (hb : NumOk b) : ClauseIs (.mk 2 [] d i a b [] o)
  | approve (d i o : Int) (hd : DomOk d) (hi : NumOk i) : ClauseIs (.mk 3 [] d i 0 0 [] o)
  | blast (a o : Int) (ha : NumOk a) : ClauseIs (.mk 4 [] 0 0 a 0 [] o)
  | cap (i a o : Int) (hi : NumOk i) (ha : NumOk a) : ClauseIs (.mk 5 [] 0 i a 0 [] o)
theorem clause_is {c : Cl} (h : clauseB c = true) : ClauseIs c := by
  obtain ⟨k, ns, d, i, a, b, its, o⟩ := c
  unfold clauseB clauseSh at h
  dsimp only [Cl.kind] at h
  simp only [assocI] at h
  by_cases k1 : k = 1
  · subst k1
    simp only [if_true, Bool.and_eq_true] at h
    obtain ⟨f1, f2, f3, _, f5, _, f7, _, f9, _, f11, _⟩ := fits_of h.1
    have hi := List.all_eq_true.1 h.2
    dsimp only [Cl.names, Cl.dom, Cl.idx, Cl.a, Cl.b, Cl.items] at *
    rw [f5 rfl, f7 rfl, f9 rfl, f11 rfl]
    obtain ⟨n, rfl⟩ := one_nm f1 f2
    exact .service n its o (f3 n (by simp)) fun c hc => item_is (hi c hc)
  · by_cases k2 : k = 2
    · subst k2
      obtain ⟨f1, _, _, f4, _, f6, _, f8, _, f10, _, f12⟩ := fits_of (s := ⟨0, true, true, true, true, false⟩) (by simp at h; exact h.1)
      dsimp only [Cl.names, Cl.dom, Cl.idx, Cl.a, Cl.b, Cl.items] at *
      rw [len0 f1, f12 rfl]
      exact .window d i a b o (f4 rfl) (f6 rfl) (f8 rfl) (f10 rfl)
    · by_cases k3 : k = 3
      · subst k3
        obtain ⟨f1, _, _, f4, _, f6, _, _, f9, _, f11, f12⟩ := fits_of (s := ⟨0, true, true, false, false, false⟩) (by simp at h; exact h.1)
        dsimp only [Cl.names, Cl.dom, Cl.idx, Cl.a, Cl.b, Cl.items] at *
        rw [len0 f1, f12 rfl, f9 rfl, f11 rfl]
        exact .approve d i o (f4 rfl) (f6 rfl)
      · by_cases k4 : k = 4
        · subst k4
          obtain ⟨f1, _, _, _, f5, _, f7, f8, _, _, f11, f12⟩ := fits_of (s := ⟨0, false, false, true, false, false⟩) (by simp at h; exact h.1)
          dsimp only [Cl.names, Cl.dom, Cl.idx, Cl.a, Cl.b, Cl.items] at *
          rw [len0 f1, f12 rfl, f5 rfl, f7 rfl, f11 rfl]
          exact .blast a o (f8 rfl)
        · by_cases k5 : k = 5
          · subst k5
            obtain ⟨f1, _, _, _, f5, f6, _, f8, _, _, f11, f12⟩ := fits_of (s := ⟨0, false, true, true, false, false⟩) (by simp at h; exact h.1)
            dsimp only [Cl.names, Cl.dom, Cl.idx, Cl.a, Cl.b, Cl.items] at *
            rw [len0 f1, f12 rfl, f5 rfl, f11 rfl]
            exact .cap i a o (f6 rfl) (f8 rfl)
          · rw [if_neg (Ne.symm k1), if_neg (Ne.symm k2), if_neg (Ne.symm k3), if_neg (Ne.symm k4), if_neg (Ne.symm k5)] at h
            cases h

theorem fit_names (ns : List ByteArray) (h : ∀ x ∈ ns, NamOk x) (r : List Tok) : pMany (fun l => !frontIs ⟨#[44]⟩ l) pOther (sepToks ns ++ signT ⟨#[59]⟩ :: r) = .ok (ns, signT ⟨#[59]⟩ :: r) := by
  induction ns with
  | nil =>
    rw [pMany_eq takes_other]
    simp [sepToks, frontIs, fitLit, signT, ByteArray.toList_eq]
  | cons n ns ih =>
    rw [pMany_eq takes_other]
    have e : sepToks (n :: ns) ++ signT ⟨#[59]⟩ :: r = signT ⟨#[44]⟩ :: nameT n :: (sepToks ns ++ signT ⟨#[59]⟩ :: r) := by simp [sepToks]
    rw [e]
    have e1 : frontIs ⟨#[44]⟩ (signT ⟨#[44]⟩ :: nameT n :: (sepToks ns ++ signT ⟨#[59]⟩ :: r)) = true := by simp [frontIs, fitLit, signT]
    have e2 : pOther (signT ⟨#[44]⟩ :: nameT n :: (sepToks ns ++ signT ⟨#[59]⟩ :: r)) = .ok (n, sepToks ns ++ signT ⟨#[59]⟩ :: r) := by
      unfold pOther
      rw [show pLit ⟨#[44]⟩ (signT ⟨#[44]⟩ :: nameT n :: (sepToks ns ++ signT ⟨#[59]⟩ :: r)) = .ok ((), nameT n :: (sepToks ns ++ signT ⟨#[59]⟩ :: r)) from lit_ok (signT ⟨#[44]⟩) _]
      exact name_ok_ n (h n (by simp)).1 _
    simp only [e1, Bool.not_true, if_false, Bool.false_eq_true, e2, bindR]
    rw [ih (fun x hx => h x (by simp [hx]))]

theorem ltok (s : ByteArray) (l : List Tok) : pLit s (nameT s :: l) = .ok ((), l) := lit_ok (nameT s) l
theorem lsig (s : ByteArray) (l : List Tok) : pLit s (signT s :: l) = .ok ((), l) := lit_ok (signT s) l
theorem read_item {c : Cl} (h : ItemIs c) (r : List Tok) : pItem (itemToks c ++ r) = .ok (c.mo zO, r) := by
  cases h with
  | num k a o hk ha =>
    have hc : ∀ l, pCounted k (numT a :: signT ⟨#[59]⟩ :: l) = .ok (.mk k [] 0 0 a 0 [] 0, l) := fun l => by simp only [pCounted, num_ok_, bindR, lsig]
    rcases hk with rfl | rfl | rfl | rfl
    · exact clause_ok (tab := itemTab) (t := nameT ⟨#[99, 111, 114, 101, 115]⟩) (by simp [assocB, itemTab, nameT, ByteArray.toList_eq]) (hc r)
    · exact clause_ok (tab := itemTab) (t := nameT ⟨#[114, 101, 112, 108, 105, 99, 97, 115]⟩) (by simp [assocB, itemTab, nameT, ByteArray.toList_eq]) (hc r)
    · exact clause_ok (tab := itemTab) (t := nameT ⟨#[108, 101, 97, 115, 116]⟩) (by simp [assocB, itemTab, nameT, ByteArray.toList_eq]) (hc r)
    · exact clause_ok (tab := itemTab) (t := nameT ⟨#[102, 105, 114, 109, 119, 97, 114, 101]⟩) (by simp [assocB, itemTab, nameT, ByteArray.toList_eq]) (hc r)
  | spread d a o hd ha =>
    obtain ⟨d1, d2⟩ := dom_of d hd
    have hc : pSpread (numT a :: nameT ⟨#[112, 101, 114]⟩ :: nameT (scB d) :: signT ⟨#[59]⟩ :: r) = .ok (.mk 9 [] d 0 a 0 [] 0, r) := by
      simp only [pSpread, num_ok_, bindR, ltok, lsig]
      rw [scope_ok _ (by rw [d1]; exact d2)]
      simp only [lsig, d1]
    exact clause_ok (tab := itemTab) (t := nameT ⟨#[115, 112, 114, 101, 97, 100]⟩) (by simp [assocB, itemTab, nameT, ByteArray.toList_eq]) hc
  | apart n ns o hn hns =>
    have hc : pApart (nameT n :: (sepToks ns ++ signT ⟨#[59]⟩ :: r)) = .ok (.mk 10 (n :: ns) 0 0 0 0 [] 0, r) := by
      simp only [pApart, name_ok_ n hn.1, bindR, fit_names ns hns, lsig]
    have e : itemToks (.mk 10 (n :: ns) 0 0 0 0 [] o) ++ r = nameT ⟨#[97, 112, 97, 114, 116]⟩ :: nameT n :: (sepToks ns ++ signT ⟨#[59]⟩ :: r) := by simp [itemToks, Cl.kind, Cl.names]
    rw [e]
    exact clause_ok (tab := itemTab) (t := nameT ⟨#[97, 112, 97, 114, 116]⟩) (by simp [assocB, itemTab, nameT, ByteArray.toList_eq]) hc
  | near n a o hn ha =>
    have hc : pNear (nameT n :: nameT ⟨#[119, 105, 116, 104, 105, 110]⟩ :: numT a :: signT ⟨#[59]⟩ :: r) = .ok (.mk 11 [n] 0 0 a 0 [] 0, r) := by
      simp only [pNear, name_ok_ n hn.1, num_ok_, bindR, ltok, lsig]
    exact clause_ok (tab := itemTab) (t := nameT ⟨#[110, 101, 97, 114]⟩) (by simp [assocB, itemTab, nameT, ByteArray.toList_eq]) hc
/-- An item's first token is no brace. -/
theorem item_front {c : Cl} (h : ItemIs c) (r : List Tok) : frontIs ⟨#[125]⟩ (itemToks c ++ r) = false := by
  cases h with
  | num k a o hk ha => rcases hk with rfl | rfl | rfl | rfl <;> simp [itemToks, Cl.kind, frontIs, fitLit, nameT, ByteArray.toList_eq]
  | spread d a o hd ha => simp [itemToks, Cl.kind, frontIs, fitLit, nameT, ByteArray.toList_eq]
  | apart n ns o hn hns => simp [itemToks, Cl.kind, Cl.names, frontIs, fitLit, nameT, ByteArray.toList_eq]
  | near n a o hn ha => simp [itemToks, Cl.kind, Cl.names, frontIs, fitLit, nameT, ByteArray.toList_eq]
theorem read_items (l : List Cl) (h : ∀ c ∈ l, ItemIs c) (r : List Tok) : pMany (frontIs ⟨#[125]⟩) pItem (l.flatMap itemToks ++ signT ⟨#[125]⟩ :: r) = .ok (l.map (Cl.mo zO), signT ⟨#[125]⟩ :: r) := by
  induction l with
  | nil =>
    rw [pMany_eq takes_item]
    simp [frontIs, fitLit, signT]
  | cons c l ih =>
    rw [pMany_eq takes_item, List.flatMap_cons, List.append_assoc, item_front (h c (by simp)), read_item (h c (by simp))]
    simp only [if_false, Bool.false_eq_true, bindR]
    rw [ih fun x hx => h x (by simp [hx])]
    rfl
theorem read_clause {c : Cl} (h : ClauseIs c) (r : List Tok) : pClause clauseTab (clauseToks c ++ r) = .ok (c.mo zO, r) := by
  cases h with
  | service n its o hn hi =>
    have hc : pService (nameT n :: signT ⟨#[123]⟩ :: (its.flatMap itemToks ++ signT ⟨#[125]⟩ :: r)) = .ok (.mk 1 [n] 0 0 0 0 (its.map (Cl.mo zO)) 0, r) := by
      simp only [pService, name_ok_ n hn.1, bindR, lsig, read_items its hi]
    have e : clauseToks (.mk 1 [n] 0 0 0 0 its o) ++ r = nameT ⟨#[115, 101, 114, 118, 105, 99, 101]⟩ :: nameT n :: signT ⟨#[123]⟩ :: (its.flatMap itemToks ++ signT ⟨#[125]⟩ :: r) := by simp [clauseToks, Cl.kind, Cl.names, Cl.items]
    rw [e, clause_ok (tab := clauseTab) (t := nameT ⟨#[115, 101, 114, 118, 105, 99, 101]⟩) (by simp [assocB, clauseTab, nameT, ByteArray.toList_eq]) hc]
    simp only [Cl.mo, mos_map, Cl.withOff]
    rfl
  | window d i a b o hd hi ha hb =>
    obtain ⟨d1, d2⟩ := dom_of d hd
    have hc : pWindow (nameT (scB d) :: numT i :: nameT ⟨#[102, 114, 111, 109]⟩ :: numT a :: nameT ⟨#[116, 111]⟩ :: numT b :: signT ⟨#[59]⟩ :: r) = .ok (.mk 2 [] d i a b [] 0, r) := by
      simp only [pWindow, pArea, bindR]
      rw [scope_ok _ (by rw [d1]; exact d2)]
      simp only [lsig, ltok, d1, num_ok_, bindR]
    exact clause_ok (tab := clauseTab) (t := nameT ⟨#[119, 105, 110, 100, 111, 119]⟩) (by simp [assocB, clauseTab, nameT, ByteArray.toList_eq]) hc
  | approve d i o hd hi =>
    obtain ⟨d1, d2⟩ := dom_of d hd
    have hc : pApprove (nameT (scB d) :: numT i :: signT ⟨#[59]⟩ :: r) = .ok (.mk 3 [] d i 0 0 [] 0, r) := by
      simp only [pApprove, pArea, bindR]
      rw [scope_ok _ (by rw [d1]; exact d2)]
      simp only [lsig, ltok, d1, num_ok_, bindR]
    exact clause_ok (tab := clauseTab) (t := nameT ⟨#[97, 112, 112, 114, 111, 118, 101]⟩) (by simp [assocB, clauseTab, nameT, ByteArray.toList_eq]) hc
  | blast a o ha =>
    have hc : pCounted 4 (numT a :: signT ⟨#[59]⟩ :: r) = .ok (.mk 4 [] 0 0 a 0 [] 0, r) := by simp only [pCounted, num_ok_, bindR, lsig]
    exact clause_ok (tab := clauseTab) (t := nameT ⟨#[98, 108, 97, 115, 116]⟩) (by simp [assocB, clauseTab, nameT, ByteArray.toList_eq]) hc
  | cap i a o hi ha =>
    have hc : pCap (nameT ⟨#[102, 101, 101, 100]⟩ :: numT i :: nameT ⟨#[97, 116]⟩ :: numT a :: signT ⟨#[59]⟩ :: r) = .ok (.mk 5 [] 0 i a 0 [] 0, r) := by simp only [pCap, num_ok_, bindR, lsig, ltok]
    exact clause_ok (tab := clauseTab) (t := nameT ⟨#[99, 97, 112]⟩) (by simp [assocB, clauseTab, nameT, ByteArray.toList_eq]) hc
theorem clause_ne {c : Cl} (h : ClauseIs c) : clauseToks c ≠ [] := by
  cases h <;> simp [clauseToks, Cl.kind, Cl.names]
theorem formed_is {l : List Cl} (h : formedB l = true) : ∀ c ∈ l, ClauseIs c := fun c hc => clause_is (List.all_eq_true.1 h c hc)
/-- The tokens of a well-formed tree are read as the tree. -/
theorem read_text (l : List Cl) (h : ∀ c ∈ l, ClauseIs c) : pText (l.flatMap clauseToks) = .ok (l.map (Cl.mo zO), []) := by
  induction l with
  | nil => rw [pText_eq]; rfl
  | cons c l ih =>
    have hne := clause_ne (h c (by simp))
    rw [pText_eq, List.flatMap_cons, read_clause (h c (by simp))]
    have he : (clauseToks c ++ l.flatMap clauseToks).isEmpty = false := by
      cases e : clauseToks c with
      | nil => exact absurd e hne
      | cons a b => rfl
    rw [he]
    simp only [if_false, Bool.false_eq_true, bindR]
    rw [ih fun x hx => h x (by simp [hx])]
    rfl
end Go.Proofs.YtplnnpkohdmiaaaGreatDoor
