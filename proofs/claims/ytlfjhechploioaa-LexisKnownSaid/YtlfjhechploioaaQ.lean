/-
  DERIVED. The contract of the reference's Print.
-/
import Derived.Test.YtlfjhechploioaaO
namespace Go.Proofs.Ytlfjhechploioaa
open Go.RowKit

theorem join_snoc (sep : List UInt8) (xs : List (List UInt8)) (y : List UInt8) (h : xs ≠ []) : Lib.join (xs ++ [y]) sep = Lib.join xs sep ++ sep ++ y := by
  cases xs with
  | nil => exact absurd rfl h
  | cons x r => rw [List.cons_append, Lib.join_cons, Lib.join_cons]; simp [Lib.joinTail]

theorem joinB_snoc (l : List Tok) (t : Tok) (h : l ≠ []) : joinB (l ++ [t]) = joinB l ++ (⟨#[32]⟩ ++ t.text) := by
  apply ByteArray.ext
  rw [ByteArray.data_append, ByteArray.data_append]
  apply Array.toList_inj.1
  unfold joinB
  simp only [List.map_append, List.map_cons, List.map_nil]
  rw [join_snoc _ _ _ (by simpa using h)]
  simp
theorem joinB_one (t : Tok) : joinB [t] = t.text := by
  apply ByteArray.ext
  apply Array.toList_inj.1
  unfold joinB
  simp [Lib.join_one]

theorem joinB_take_le (l : List Tok) (k : Nat) : (joinB (l.take k)).size ≤ (joinB l).size := by
  have h : ∀ j, (joinB (l.take k)).size ≤ (joinB (l.take (k + j))).size := by
    intro j
    induction j with
    | zero => exact Nat.le_refl _
    | succ j ih =>
      refine Nat.le_trans ih ?_
      by_cases hj : k + j < l.length
      · rw [show k + (j + 1) = (k + j) + 1 from by omega, List.take_succ_eq_append_getElem hj]
        by_cases h0 : l.take (k + j) = []
        · rw [h0]; exact Nat.zero_le _
        · rw [joinB_snoc _ _ h0, ByteArray.size_append]; omega
      · rw [List.take_of_length_le (by omega), List.take_of_length_le (by omega)]; exact Nat.le_refl _
  have h1 := h l.length
  have e : l.take (k + l.length) = l := List.take_of_length_le (by omega)
  rw [e] at h1
  exact h1

def RpRel (l : List Tok) (w : World) (iv : Value) (wr : World) : Prop :=
  ∃ k : Nat, iv = .int .i64 k ∧ k ≤ l.length ∧ (∀ t ∈ l.take k, validT t = true) ∧ Below w.heap.size w wr
def RpRel2 (l : List Tok) (sv iv : Value) : Prop :=
  ∃ (k : Nat) (S : ByteArray), iv = .int .i64 k ∧ k ≤ l.length ∧ sv = .string S ∧ S = joinB (l.take k) ∧ S.size ≤ 4200

set_option maxHeartbeats 1000000 in
theorem r_Print (v : Value) (l : List Tok) (hl : l.length ≤ 5000) (hz : ∀ t ∈ l, t.text.size ≤ maxLen) (w : World) (hv : TokSl w w.heap.size v l) :
    Calls Try.prog 15 #[v] w fun e w' => e = .returned (.tuple #[.string (printOf l).1, .int .i64 (printOf l).2]) ∧ Below w.heap.size w w' := by
  obtain ⟨A, c, rfl, h2, h3, -⟩ := id hv
  unfold maxLen at h3
  have Hv := Lib.hid hv
  have Hz := Lib.hid hz
  clear hv hz
  go_enter Try.func15, Try.ntmps15
  go_wp2
  go_loopw [4] (fun iv wr => RpRel l w iv wr) (fun iv wr => l.length - (intOf iv).toNat)
  case atStart => exact ⟨0, rfl, Nat.zero_le _, (by intro t ht; cases ht), Below.refl _ _⟩
  case round =>
    obtain ⟨k, rfl, hk, hval, hB⟩ := hrel
    by_cases hlt : k < l.length
    · obtain ⟨b1, o1, c1, e1, hbb, -, -, g0, g1, g2, g3⟩ := (Hv.out.below hB (Nat.le_refl _)).at_ hlt
      injection e1 with e1 _ e1'
      subst e1 e1'
      have hcv := r_Right l[k] (Hz.out _ (List.getElem_mem hlt))
      have hts : l.take (k + 1) = l.take k ++ [l[k]] := by rw [List.take_succ_eq_append_getElem hlt]
      have Hcv := Lib.hid hcv
      have Hts := Lib.hid hts
      have Hval := Lib.hid hval
      clear hcv hts hval
      cases hb : validT l[k]
      · have hp : printOf l = (⟨#[]⟩, 1) := by
          unfold printOf
          rw [if_neg]
          intro h
          have := List.all_eq_true.1 h l[k] (List.getElem_mem hlt)
          rw [hb] at this; cases this
        have Hb := Lib.hid hb
        have Hp := Lib.hid hp
        clear hb hp
        go_wp2_with (first | (go_at_call 23; refine (Hcv.out _).mono ?_; rintro e w1 ⟨rfl, hbl⟩; rw [Hb.out]))
        rw [Hp.out]
        go_ret2
        exact ⟨rfl, hB.trans (hbl.mono hB.size)⟩
      · have Hb := Lib.hid hb
        clear hb
        go_wp2_with (first | (go_at_call 23; refine (Hcv.out _).mono ?_; rintro e w1 ⟨rfl, hbl⟩; rw [Hb.out]))
        refine ⟨⟨k + 1, by go_num, by omega, ?_, hB.trans (hbl.mono hB.size)⟩, by simp [intOf]; omega⟩
        rw [Hts.out]
        intro t ht
        rcases List.mem_append.1 ht with h | h
        · exact Hval.out t h
        · rw [List.mem_singleton.1 h]; exact Hb.out
    · have hkl : l.take k = l := List.take_of_length_le (by omega)
      obtain rfl : k = l.length := by omega
      rw [hkl] at hval
      have hall : l.all validT = true := List.all_eq_true.2 hval
      have hp : printOf l = if 4096 < (joinB l).size then (⟨#[]⟩, 3) else (joinB l, 0) := by unfold printOf; rw [if_pos hall]
      have Hp := Lib.hid hp
      have Hval := Lib.hid hval
      clear hp hall hval hkl
      go_wp2
      go_loop [5, 6] (fun sv iv => RpRel2 l sv iv) (fun sv iv => l.length - (intOf iv).toNat)
      case atStart => exact ⟨0, _, rfl, Nat.zero_le _, rfl, rfl, by decide⟩
      case round =>
        obtain ⟨k, S, rfl, hk2, rfl, hS, hSz⟩ := hrel
        have HS := Lib.hid hS
        clear hS
        by_cases hlt2 : k < l.length
        · by_cases h4 : S.size ≤ 4096
          · obtain ⟨b1, o1, c1, e1, hbb, -, -, -, g1, -, -⟩ := (Hv.out.below hB (Nat.le_refl _)).at_ hlt2
            injection e1 with e1 _ e1'
            subst e1 e1'
            have htl := valid_len _ (Hval.out _ (List.getElem_mem hlt2))
            have hts : l.take (k + 1) = l.take k ++ [l[k]] := by rw [List.take_succ_eq_append_getElem hlt2]
            have Hts := Lib.hid hts
            clear hts
            by_cases hk0 : 0 < k
            · have hs2 : S ++ ⟨#[32]⟩ ++ l[k].text = joinB (l.take (k + 1)) := by
                rw [Hts.out, joinB_snoc _ _ (by intro h; have := congrArg List.length h; rw [List.length_take, List.length_nil] at this; omega), HS.out, ByteArray.append_assoc]
              have hz2 : (S ++ (⟨#[32]⟩ : ByteArray) ++ l[k].text).size ≤ 4200 := by
                rw [ByteArray.size_append, ByteArray.size_append]
                have : (⟨#[32]⟩ : ByteArray).size = 1 := rfl
                omega
              have Hs2 := Lib.hid hs2
              have Hz2 := Lib.hid hz2
              clear hs2 hz2
              go_wp2
              exact ⟨⟨k + 1, _, by go_num, by omega, rfl, Hs2.out, Hz2.out⟩, by simp [intOf]; omega⟩
            · obtain rfl : k = 0 := by omega
              have hs2 : S ++ l[0].text = joinB (l.take (0 + 1)) := by
                rw [Hts.out, HS.out, List.take_zero, List.nil_append, joinB_one]
                apply ByteArray.ext
                rw [ByteArray.data_append]
                exact Array.empty_append
              have hz2 : (S ++ l[0].text).size ≤ 4200 := by
                rw [ByteArray.size_append]
                omega
              have Hs2 := Lib.hid hs2
              have Hz2 := Lib.hid hz2
              clear hs2 hz2
              go_wp2
              exact ⟨⟨0 + 1, _, by go_num, by omega, rfl, Hs2.out, Hz2.out⟩, by simp [intOf]; omega⟩
          · have hp2 : printOf l = (⟨#[]⟩, 3) := by
              rw [Hp.out, if_pos]
              have := joinB_take_le l k
              rw [← HS.out] at this
              omega
            have Hp2 := Lib.hid hp2
            clear hp2
            go_wp2
            rw [Hp2.out]
            go_ret2
            exact ⟨rfl, hB⟩
        · have hkl2 : l.take k = l := List.take_of_length_le (by omega)
          have hS2 := HS.out
          rw [hkl2] at hS2
          have hp2 := Hp.out
          rw [← hS2] at hp2
          clear hkl2 hS2
          by_cases h4 : 4096 < S.size
          · rw [if_pos h4] at hp2
            have Hp2 := Lib.hid hp2
            clear hp2
            go_wp2
            rw [Hp2.out]
            go_ret2
            exact ⟨rfl, hB⟩
          · rw [if_neg h4] at hp2
            have Hp2 := Lib.hid hp2
            clear hp2
            go_wp2
            rw [Hp2.out]
            go_ret2
            exact ⟨rfl, hB⟩
end Go.Proofs.Ytlfjhechploioaa
