/-
  DERIVED. A slice of tokens in memory; the contracts of the reference's Same and Equal.
-/
import Derived.Test.YtlfjhechploioaaJ
namespace Go.Proofs.Ytlfjhechploioaa
open Go.RowKit

/-- The slice v reads as the tokens l, below block B. -/
def TokSl (w : World) (B : Nat) (v : Value) (l : List Tok) : Prop :=
  ∃ A c, v = .slice A l.length c ∧ l.length ≤ c ∧ c ≤ maxLen ∧ (0 < l.length → ∃ b o, A = some ⟨b, o, none⟩ ∧ b < B ∧ ∀ j u, (tokCells l)[j]? = some u → w.cell? ⟨b, o + j, none⟩ = some u)

theorem TokSl.nil (w : World) (B : Nat) : TokSl w B (.slice none 0 0) [] := ⟨none, 0, rfl, Nat.le_refl _, Nat.zero_le _, fun h => absurd h (by decide)⟩
theorem TokSl.below {w w' : World} {B n : Nat} {v : Value} {l : List Tok} (h : TokSl w B v l) (hb : Below n w w') (hn : B ≤ n) : TokSl w' B v l := by
  obtain ⟨A, c, h1, h2, h3, h4⟩ := h
  refine ⟨A, c, h1, h2, h3, fun hl => ?_⟩
  obtain ⟨b, o, e, hbB, hc⟩ := h4 hl
  exact ⟨b, o, e, hbB, fun j u hj => (hb.cell (p := ⟨b, o + j, none⟩) (by show b < n; omega)).trans (hc j u hj)⟩
theorem TokSl.more {w : World} {B B' : Nat} {v : Value} {l : List Tok} (h : TokSl w B v l) (hB : B ≤ B') : TokSl w B' v l := by
  obtain ⟨A, c, h1, h2, h3, h4⟩ := h
  refine ⟨A, c, h1, h2, h3, fun hl => ?_⟩
  obtain ⟨b, o, e, hbB, hc⟩ := h4 hl
  exact ⟨b, o, e, by omega, hc⟩
theorem add0 (b j : Nat) : (⟨b, 0, none⟩ : Addr).add j = ⟨b, j, none⟩ := by unfold Addr.add; split <;> simp_all
theorem TokSl.of_own {w : World} {base : Nat} {v : Value} {l : List Tok} (h : w.ownsRow base 34 4 v l.length (tokCells l)) : TokSl w w.heap.size v l := by
  have hc := fun g (hg : v.ownBlock = some g) => h.cells hg
  have hlt := h.lt
  rcases h.2 with ⟨rfl, h0⟩ | ⟨g, cap, cur, rfl, hb, hg, hn, hm, _⟩
  · rw [List.eq_nil_of_length_eq_zero h0]; exact TokSl.nil _ _
  · refine ⟨_, cap, rfl, hn, hm, fun _ => ⟨g, 0, rfl, (hlt g rfl).2, fun j u hj => ?_⟩⟩
    have := hc g rfl j u hj
    rw [add0] at this
    rwa [Nat.zero_add]

theorem tokCells_at (l : List Tok) (i f : Nat) (t : Tok) (hi : l[i]? = some t) (hf : f < 4) : (tokCells l)[i * 4 + f]? = (Tok.cells t)[f]? := by
  induction l generalizing i with
  | nil => simp at hi
  | cons a l ih =>
    have hc : tokCells (a :: l) = a.cells ++ tokCells l := rfl
    rw [hc]
    cases i with
    | zero =>
      simp at hi; subst hi
      rw [List.getElem?_append_left (by simp [Tok.cells]; omega), Nat.zero_mul, Nat.zero_add]
    | succ i =>
      rw [List.getElem?_append_right (by simp [Tok.cells]; omega)]
      have e : (i + 1) * 4 + f - a.cells.length = i * 4 + f := by simp [Tok.cells]; omega
      rw [e]
      exact ih i (by simpa using hi)

theorem TokSl.at_ {w : World} {B : Nat} {v : Value} {l : List Tok} (h : TokSl w B v l) {i : Nat} (hi : i < l.length) :
    ∃ b o c, v = .slice (some ⟨b, o, none⟩) l.length c ∧ b < B ∧ l.length ≤ c ∧ c ≤ maxLen ∧
      w.cell? ⟨b, o + i * 4, none⟩ = some (.int .u8 l[i].kind) ∧ w.cell? ⟨b, o + i * 4 + 1, none⟩ = some (.string l[i].text) ∧
      w.cell? ⟨b, o + i * 4 + 2, none⟩ = some (.int .i64 l[i].num) ∧ w.cell? ⟨b, o + i * 4 + 3, none⟩ = some (.int .i64 l[i].off) := by
  obtain ⟨A, c, h1, h2, h3, h4⟩ := h
  obtain ⟨b, o, rfl, hb, hc⟩ := h4 (by omega)
  have hg : l[i]? = some l[i] := List.getElem?_eq_getElem hi
  have k := fun f hf u (hu : (Tok.cells l[i])[f]? = some u) => hc (i * 4 + f) u ((tokCells_at l i f _ hg hf).trans hu)
  refine ⟨b, o, c, h1, hb, h2, h3, ?_, ?_, ?_, ?_⟩
  · have := k 0 (by omega) _ rfl; rwa [Nat.add_zero] at this
  · have := k 1 (by omega) _ rfl; rwa [← Nat.add_assoc] at this
  · have := k 2 (by omega) _ rfl; rwa [← Nat.add_assoc] at this
  · have := k 3 (by omega) _ rfl; rwa [← Nat.add_assoc] at this

def sameT (a b : Tok) : Bool := a.kind == b.kind && (a.text.toList == b.text.toList && a.num == b.num)
def sameL : List Tok → List Tok → Bool
  | [], [] => true
  | a :: l, b :: m => sameT a b && sameL l m
  | _, _ => false

theorem sameL_len : ∀ (l m : List Tok), l.length ≠ m.length → sameL l m = false
  | [], [] => fun h => absurd rfl h
  | a :: l, b :: m => fun h => by rw [sameL, sameL_len l m (fun e => h (by simp [e])), Bool.and_false]
  | [], _ :: _ => fun _ => rfl
  | _ :: _, [] => fun _ => rfl
theorem sameL_drop (l m : List Tok) (k : Nat) (h1 : k < l.length) (h2 : k < m.length) : sameL (l.drop k) (m.drop k) = (sameT l[k] m[k] && sameL (l.drop (k + 1)) (m.drop (k + 1))) := by
  rw [List.drop_eq_getElem_cons h1, List.drop_eq_getElem_cons h2]; rfl

/-- What stands between two rounds of a comparison. -/
def CmpRel (F : List Tok → List Tok → Bool) (bv : Bool) (l m : List Tok) (w : World) (i : Value) (wr : World) : Prop :=
  ∃ k : Nat, k ≤ l.length ∧ i = .int .i64 k ∧ bv = F (l.drop k) (m.drop k) ∧ ∃ n, wr = w.drewN n

set_option maxHeartbeats 400000 in
theorem r_Same (a b : Value) (l m : List Tok) (w : World) (B : Nat) (ha : TokSl w B a l) (hb : TokSl w B b m) :
    Calls Try.prog 16 #[a, b] w fun e w' => e = .returned (.bool (sameL l m)) ∧ ∃ n, w' = w.drewN n := by
  obtain ⟨A, c, rfl, h2, h3, h4⟩ := id ha
  obtain ⟨A', c', rfl, h2', h3', h4'⟩ := id hb
  unfold maxLen at h3 h3'
  clear h4 h4'
  have Ha := Lib.hid ha
  have Hb := Lib.hid hb
  clear ha hb
  by_cases hlen : l.length = m.length
  · have hl : (((l.length : Nat) : Int) != (m.length : Int)) = false := by rw [bne_eq_false_iff_eq]; omega
    have Hlen := Lib.hid hlen
    clear hlen
    obtain ⟨bv, hbv⟩ : ∃ b, b = sameL l m := ⟨_, rfl⟩
    rw [← hbv]
    go_enter Try.func16, Try.ntmps16
    go_wp2
    go_loopw [5] (fun i wr => CmpRel sameL bv l m w i wr) (fun i wr => l.length - (intOf i).toNat)
    case atStart => exact ⟨0, Nat.zero_le _, rfl, by rw [hbv]; rfl, 0, rfl⟩
    case round =>
      obtain ⟨k, hk, rfl, hbk, n, rfl⟩ := hrel
      clear hbv
      by_cases hlt : k < l.length
      · have hlt2 : k < m.length := by have := Hlen.out; omega
        obtain ⟨b1, o1, c1, e1, -, -, -, g0, g1, g2, -⟩ := Ha.out.at_ hlt
        obtain ⟨b2, o2, c2, e2, -, -, -, q0, q1, q2, -⟩ := Hb.out.at_ hlt2
        injection e1 with e1 _ e1'
        injection e2 with e2 _ e2'
        subst e1 e2 e1' e2'
        have hsd := sameL_drop l m k hlt hlt2
        rw [hsd] at hbk
        clear hsd
        unfold sameT at hbk
        have Hbk := Lib.hid hbk
        clear hbk
        generalize l[k] = ta at g0 g1 g2 Hbk
        generalize m[k] = tb at q0 q1 q2 Hbk
        obtain ⟨kd, tx, nm, off⟩ := ta
        obtain ⟨kd2, tx2, nm2, off2⟩ := tb
        dsimp only at g0 g1 g2 q0 q1 q2 Hbk
        by_cases d0 : kd = kd2
        · have b0 : (kd != kd2) = false := by rw [bne_eq_false_iff_eq]; exact d0
          have D0 := Lib.hid d0
          clear d0
          by_cases d1 : tx.toList = tx2.toList
          · have b1' : (tx.toList != tx2.toList) = false := by rw [bne_eq_false_iff_eq]; exact d1
            have b1'' : (tx.toList == tx2.toList) = true := by rw [beq_iff_eq]; exact d1
            have D1 := Lib.hid d1
            clear d1
            by_cases d2 : nm = nm2
            · have b2' : (nm != nm2) = false := by rw [bne_eq_false_iff_eq]; exact d2
              have D2 := Lib.hid d2
              clear d2
              go_wp2
              go_quiet (fail)
              go_wp2
              exact ⟨⟨k + 1, by omega, by go_num, by rw [Hbk.out]; simp [D0.out, D1.out, D2.out], n + nq, rfl⟩, by simp [intOf]; omega⟩
            · have b2' : (nm != nm2) = true := by rw [bne_iff_ne]; exact d2
              have D2 := Lib.hid d2
              clear d2
              go_wp2
              go_quiet (fail)
              go_wp2
              go_ret
              exact ⟨ret_bool (by rw [Hbk.out]; simp [D2.out]), n + nq, by rw [World.drewN_drewN]⟩
          · have b1' : (tx.toList != tx2.toList) = true := by rw [bne_iff_ne]; exact d1
            have b1'' : (tx.toList == tx2.toList) = false := by rw [beq_eq_false_iff_ne]; exact d1
            have D1 := Lib.hid d1
            clear d1
            go_wp2
            go_quiet (fail)
            go_wp2
            go_ret
            exact ⟨ret_bool (by rw [Hbk.out]; simp [D1.out]), n + nq, by rw [World.drewN_drewN]⟩
        · have b0 : (kd != kd2) = true := by rw [bne_iff_ne]; exact d0
          have D0 := Lib.hid d0
          clear d0
          go_wp2
          go_quiet (fail)
          go_wp2
          go_ret
          exact ⟨ret_bool (by rw [Hbk.out]; simp [D0.out]), n + nq, by rw [World.drewN_drewN]⟩
      · have hb2 : bv = true := by
          rw [hbk, List.drop_of_length_le (by omega), List.drop_of_length_le (by have := Hlen.out; omega)]; rfl
        have Hb2 := Lib.hid hb2
        clear hb2 hbk
        go_wp2
        go_ret
        exact ⟨ret_bool Hb2.out.symm, n, rfl⟩
  · have hl : (((l.length : Nat) : Int) != (m.length : Int)) = true := by rw [bne_iff_ne]; omega
    rw [sameL_len l m hlen]
    clear hlen
    go_enter Try.func16, Try.ntmps16
    go_wp2
    go_ret
    exact ⟨rfl, 0, rfl⟩

def offsL : List Tok → List Tok → Bool
  | a :: l, b :: m => (a.off == b.off) && offsL l m
  | _, _ => true
def equalL (l m : List Tok) : Bool := sameL l m && offsL l m
theorem offsL_drop (l m : List Tok) (k : Nat) (h1 : k < l.length) (h2 : k < m.length) : offsL (l.drop k) (m.drop k) = ((l[k].off == m[k].off) && offsL (l.drop (k + 1)) (m.drop (k + 1))) := by
  rw [List.drop_eq_getElem_cons h1, List.drop_eq_getElem_cons h2]; rfl

set_option maxHeartbeats 400000 in
theorem r_Equal (a b : Value) (l m : List Tok) (w : World) (B : Nat) (ha : TokSl w B a l) (hb : TokSl w B b m) :
    Calls Try.prog 12 #[a, b] w fun e w' => e = .returned (.bool (equalL l m)) ∧ ∃ n, w' = w.drewN n := by
  have hsm := r_Same a b l m w B ha hb
  obtain ⟨A, c, rfl, h2, h3, h4⟩ := id ha
  obtain ⟨A', c', rfl, h2', h3', h4'⟩ := id hb
  unfold maxLen at h3 h3'
  clear h4 h4'
  have Ha := Lib.hid ha
  have Hb := Lib.hid hb
  have Hsm := Lib.hid hsm
  clear ha hb hsm
  unfold equalL
  cases hs : sameL l m
  · have Hs := Lib.hid hs
    clear hs
    go_enter Try.func12, Try.ntmps12
    go_wp2_with (go_at_call 16; refine Hsm.out.mono ?_; rintro e w' ⟨rfl, n, rfl⟩; rw [Hs.out])
    go_ret
    exact ⟨rfl, n, rfl⟩
  · have hlen : l.length = m.length := by
      rcases Nat.decEq l.length m.length with h | h
      · rw [sameL_len l m h] at hs; cases hs
      · exact h
    have Hlen := Lib.hid hlen
    have Hs := Lib.hid hs
    clear hlen hs
    obtain ⟨bv, hbv⟩ : ∃ b, b = (true && offsL l m) := ⟨_, rfl⟩
    rw [← hbv]
    have Hbv := Lib.hid hbv
    clear hbv
    go_enter Try.func12, Try.ntmps12
    go_wp2_with (go_at_call 16; refine Hsm.out.mono ?_; rintro e w' ⟨rfl, n0, rfl⟩; rw [Hs.out])
    go_loopw [5] (fun i wr => CmpRel offsL bv l m w i wr) (fun i wr => l.length - (intOf i).toNat)
    case atStart => exact ⟨0, Nat.zero_le _, rfl, by rw [Hbv.out]; rfl, n0, rfl⟩
    case round =>
      obtain ⟨k, hk, rfl, hbk, n, rfl⟩ := hrel
      by_cases hlt : k < l.length
      · have hlt2 : k < m.length := by have := Hlen.out; omega
        obtain ⟨b1, o1, c1, e1, -, -, -, -, -, -, g0⟩ := Ha.out.at_ hlt
        obtain ⟨b2, o2, c2, e2, -, -, -, -, -, -, q0⟩ := Hb.out.at_ hlt2
        injection e1 with e1 _ e1'
        injection e2 with e2 _ e2'
        subst e1 e2 e1' e2'
        have hsd := offsL_drop l m k hlt hlt2
        rw [hsd] at hbk
        clear hsd
        have Hbk := Lib.hid hbk
        clear hbk
        generalize l[k].off = ta at g0 Hbk
        generalize m[k].off = tb at q0 Hbk
        by_cases d0 : ta = tb
        · have b0 : (ta != tb) = false := by rw [bne_eq_false_iff_eq]; exact d0
          have D0 := Lib.hid d0
          clear d0
          go_wp2
          go_quiet (fail)
          go_wp2
          exact ⟨⟨k + 1, by omega, by go_num, by rw [Hbk.out]; simp [D0.out], n + nq, rfl⟩, by simp [intOf]; omega⟩
        · have b0 : (ta != tb) = true := by rw [bne_iff_ne]; exact d0
          have D0 := Lib.hid d0
          clear d0
          go_wp2
          go_quiet (fail)
          go_wp2
          go_ret
          exact ⟨ret_bool (by rw [Hbk.out]; simp [D0.out]), n + nq, by rw [World.drewN_drewN]⟩
      · have hb2 : bv = true := by
          rw [hbk, List.drop_of_length_le (by omega), List.drop_of_length_le (by have := Hlen.out; omega)]; rfl
        have Hb2 := Lib.hid hb2
        clear hb2 hbk
        go_wp2
        go_ret
        exact ⟨ret_bool Hb2.out.symm, n, rfl⟩
end Go.Proofs.Ytlfjhechploioaa
