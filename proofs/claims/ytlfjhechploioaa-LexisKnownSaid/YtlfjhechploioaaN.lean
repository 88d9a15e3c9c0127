/-
  DERIVED. The contract of lexis.Print.
-/
import Derived.Test.YtlfjhechploioaaM
import Derived.Test.YtlfjhechploioaaK
import Derived.Test.YtlfjhechploioaaSh
namespace Go.Proofs.Ytlfjhechploioaa
open Go.RowKit

def joinB (l : List Tok) : ByteArray := ⟨(Lib.join ((l.map (·.text)).map (·.data.toList)) [32]).toArray⟩
def printOf (l : List Tok) : ByteArray × Int :=
  if l.all validT = true then (if 4096 < (joinB l).size then (⟨#[]⟩, 3) else (joinB l, 0)) else (⟨#[]⟩, 1)

theorem read_len (s : ByteArray) (h : (readOf s).2 = 0) : (readOf s).1.text.size ≤ 12 := by
  have hn : ∀ x : ByteArray, (nameOf x).2 = 0 → (nameOf x).1.text.size ≤ 12 := fun x h => by
    unfold nameOf at h ⊢
    by_cases h1 : 12 < x.size
    · rw [if_pos h1] at h; cases h
    · rw [if_neg h1]; show x.size ≤ 12; omega
  have hm : ∀ x : ByteArray, (numberOf x).2 = 0 → (numberOf x).1.text.size ≤ 12 := fun x h => by
    unfold numberOf at h ⊢
    by_cases h1 : 1 < x.size ∧ (bt x).head? = some 48
    · rw [if_pos h1] at h; cases h
    · rw [if_neg h1] at h ⊢
      by_cases h2 : 9 < x.size
      · rw [if_pos h2] at h; cases h
      · rw [if_neg h2]; show x.size ≤ 12; omega
  unfold readOf at h ⊢
  cases hh : (bt s).head? with
  | none => rw [hh] at h; cases h
  | some c =>
    rw [hh] at h
    simp only at h ⊢
    by_cases hl : isLe c = true
    · rw [if_pos hl] at h ⊢; exact hn _ h
    · rw [if_neg hl] at h ⊢
      by_cases hd : isDi c = true
      · rw [if_pos hd] at h ⊢; exact hm _ h
      · rw [if_neg hd] at h ⊢
        by_cases hg : isSi c = true
        · rw [if_pos hg]; simp only [ByteArray.size_extract]; omega
        · rw [if_neg hg] at h; cases h

theorem valid_len (t : Tok) (h : validT t = true) : t.text.size ≤ 12 := by
  unfold validT at h
  simp only [Bool.and_eq_true, beq_iff_eq] at h
  obtain ⟨h0, _, h1, _⟩ := h
  have := read_len t.text h0
  have e : (readOf t.text).1.text.size = t.text.size := by
    rw [ByteArray.toList_eq, ByteArray.toList_eq] at h1
    rw [← bt_len, ← bt_len]; unfold bt; rw [h1]
  omega

theorem joinTail_len (sep : List UInt8) (r : List (List UInt8)) (n : Nat) (h : ∀ x ∈ r, x.length ≤ n) : (Lib.joinTail sep r).length ≤ r.length * (sep.length + n) := by
  induction r with
  | nil => simp [Lib.joinTail]
  | cons x r ih =>
    have h1 := ih (fun y hy => h y (by simp [hy]))
    have h2 := h x (by simp)
    have : Lib.joinTail sep (x :: r) = (sep ++ x) ++ Lib.joinTail sep r := by simp [Lib.joinTail]
    rw [this, List.length_append, List.length_append, List.length_cons, Nat.succ_mul]
    omega

theorem join_len (l : List Tok) (hl : l.length ≤ 5000) (h : l.all validT = true) : (Lib.join ((l.map (·.text)).map (·.data.toList)) [32]).length ≤ 140737488355328 := by
  cases l with
  | nil => simp [Lib.join]
  | cons a l =>
    rw [List.map_cons, List.map_cons, Lib.join_cons, List.length_append]
    have hv := List.all_eq_true.1 h
    have h1 := joinTail_len [32] ((l.map (·.text)).map (·.data.toList)) 12 (fun x hx => by
      simp only [List.map_map, List.mem_map, Function.comp] at hx
      obtain ⟨t, ht, rfl⟩ := hx
      have := valid_len t (hv t (by simp [ht]))
      rwa [← bt_len] at this)
    have h2 := valid_len a (hv a (by simp))
    rw [← bt_len] at h2
    unfold bt at h2
    simp only [List.length_map, List.length_cons, List.length_nil] at h1 hl
    omega

theorem info9 : (Try.prog.info? 9).map (fun i => (i.zero, i.size, i.bytes)) = some (some (.string ⟨#[]⟩), 1, 16) := by kernel_rfl

theorem join_call {wr : World} {n₀ : Nat} {tv : Value} {l : List Tok} (hrow : wr.ownsRow n₀ 9 1 tv l.length (l.map fun t => .string t.text)) (hl : l.length ≤ 5000) (hall : l.all validT = true) :
    Calls Try.prog 22 #[tv, .string { data := #[32] }] wr fun e w' => e = .returned (.string (joinB l)) ∧ Below wr.heap.size wr w' := by
  have hc := fun g (hg : tv.ownBlock = some g) => hrow.cells hg
  have hlt := hrow.lt
  rcases hrow.2 with ⟨rfl, h0⟩ | ⟨g, cap, cur, rfl, hb, hg, hn, hm, _⟩
  · have hn : l = [] := List.eq_nil_of_length_eq_zero h0
    subst hn
    exact (Try.strings_Join_none none 0 _ wr).mono fun e w' ⟨he, hw⟩ => ⟨he, hw ▸ Below.refl _ _⟩
  · have h := Try.strings_Join g 0 cap (l.map (·.text)) ⟨#[32]⟩ wr (fun j x hj => by
      have h1 := hc g rfl j (.string x) (by
        rw [List.getElem?_map] at hj ⊢
        cases hlj : l[j]? with
        | none => rw [hlj] at hj; cases hj
        | some t => rw [hlj] at hj; injection hj with hj; rw [← hj]; rfl)
      rw [add0] at h1
      rwa [Nat.zero_add]) (hlt g rfl).2 (by rw [List.length_map]; omega) (by rw [List.length_map]; exact hn) (join_len l hl hall)
    rw [List.length_map] at h
    exact h

/-- What stands between two rounds of Print's loop. -/
def PrRel (l : List Tok) (w : World) (tv iv : Value) (wr : World) : Prop :=
  ∃ k : Nat, iv = .int .i64 k ∧ k ≤ l.length ∧ wr.ownsRow w.heap.size 9 1 tv k ((l.take k).map fun t => .string t.text) ∧ (∀ t ∈ l.take k, validT t = true) ∧ Below w.heap.size w wr

set_option maxHeartbeats 1000000 in
theorem c_Print (v : Value) (l : List Tok) (hl : l.length ≤ 5000) (hz : ∀ t ∈ l, t.text.size ≤ maxLen) (w : World) (hv : TokSl w w.heap.size v l) :
    Calls Try.prog 14 #[v] w fun e w' => e = .returned (.tuple #[.string (printOf l).1, .int .i64 (printOf l).2]) ∧ Below w.heap.size w w' := by
  obtain ⟨A, c, rfl, h2, h3, -⟩ := id hv
  obtain ⟨i0, hi, hz0, hz1, hz2⟩ := info_parts info9
  unfold maxLen at h3
  have Hv := Lib.hid hv
  have Hz := Lib.hid hz
  clear hv hz
  go_enter Try.func14, Try.ntmps14
  go_wp2
  go_loopw [4, 10] (fun tv iv wr => PrRel l w tv iv wr) (fun tv iv wr => l.length - (intOf iv).toNat)
  case atStart => exact ⟨0, rfl, Nat.zero_le _, World.ownsRow_nil _ _ _ _, (by intro t ht; cases ht), Below.refl _ _⟩
  case round =>
    obtain ⟨k, rfl, hk, hrow, hval, hB⟩ := hrel
    by_cases hlt : k < l.length
    · obtain ⟨b1, o1, c1, e1, hbb, -, -, g0, g1, g2, g3⟩ := (Hv.out.below hB (Nat.le_refl _)).at_ hlt
      injection e1 with e1 _ e1'
      subst e1 e1'
      have hcv := c_valid l[k] (Hz.out _ (List.getElem_mem hlt))
      have hts : l.take (k + 1) = l.take k ++ [l[k]] := by rw [List.take_succ_eq_append_getElem hlt]
      have Hcv := Lib.hid hcv
      have Hts := Lib.hid hts
      have Hval := Lib.hid hval
      clear hcv hts hval
      cases hb : validT l[k]
      · have hp : printOf l = (⟨#[]⟩, 1) := by
          unfold printOf
          rw [if_neg]
          intro h
          have := List.all_eq_true.1 h l[k] (List.getElem_mem hlt)
          rw [hb] at this; cases this
        have Hb := Lib.hid hb
        have Hp := Lib.hid hp
        clear hb hp
        go_wp2_with (first | (go_at_call 21; refine (Hcv.out _).mono ?_; rintro e w1 ⟨rfl, hbl⟩; rw [Hb.out]))
        rw [Hp.out]
        go_ret2
        exact ⟨rfl, hB.trans ((((Below.refl wr.heap.size wr).alloc (Nat.le_refl _) _).trans (hbl.mono (by simp))).mono hB.size)⟩
      · have Hb := Lib.hid hb
        clear hb
        go_wp2_with (first | (go_at_call 21; refine (Hcv.out _).mono ?_; rintro e w1 ⟨rfl, hbl⟩; rw [Hb.out]; obtain ⟨⟨q0, q1, q2, q3⟩, -, hsz⟩ := res4 hbl; have hr1 := ownsRow_below (hrow.alloc (.cells #[.int .u8 l[k].kind, .string l[k].text, .int .i64 l[k].num, .int .i64 l[k].off] 34)) hbl) | (at_builtin; refine wpList_append_own _ rfl _ _ 36 rfl w.heap.size 9 i0 (.string ⟨#[]⟩) 1 16 Try.underlying36 hi hz0 hz1 hz2 rfl (by decide) _ _ _ rfl (hr1.alloc _) ⟨w1.heap.size, 0, none⟩ 1 1 [.string l[k].text] rfl rfl (cell_one_new _ _ _) (by simp [Value.oneCell']) (by simp only [maxLen]; omega) (by omega) (by have h1 := hB.size; simp; omega) ?_; intro v' w3 hown' hgrow _; obtain ⟨g', cap', rfl⟩ := ownsRow_succ hown'))
        refine ⟨⟨k + 1, by go_num, by omega, by rw [Hts.out, List.map_append]; exact hown', ?_, ?_⟩, by simp [intOf]; omega⟩
        · rw [Hts.out]
          intro t ht
          rcases List.mem_append.1 ht with h | h
          · exact Hval.out t h
          · rw [List.mem_singleton.1 h]; exact Hb.out
        · have hlt' := hrow.lt
          exact ((hB.trans ((((Below.refl wr.heap.size wr).alloc (Nat.le_refl _) _).trans (hbl.mono (by simp))).mono hB.size)).alloc (by have h1 := hB.size; omega) _).grown hgrow (by have h1 := hB.size; simp; omega) (fun g e => (hlt' g e).1)
    · have hkl : l.take k = l := List.take_of_length_le (by omega)
      obtain rfl : k = l.length := by omega
      rw [hkl] at hrow hval
      have hall : l.all validT = true := List.all_eq_true.2 hval
      have hp : printOf l = if 4096 < (joinB l).size then (⟨#[]⟩, 3) else (joinB l, 0) := by unfold printOf; rw [if_pos hall]
      have hj := join_call hrow hl hall
      generalize joinB l = S at hj hp
      by_cases h4 : 4096 < S.size
      · rw [if_pos h4] at hp
        have Hp := Lib.hid hp
        have Hj := Lib.hid hj
        clear hp hj hall hval hkl hrow
        go_wp2_with (go_at_call 22; refine Hj.out.mono ?_; rintro e w1 ⟨rfl, hbl⟩)
        rw [Hp.out]
        go_ret2
        exact ⟨rfl, hB.trans (hbl.mono hB.size)⟩
      · rw [if_neg h4] at hp
        have Hp := Lib.hid hp
        have Hj := Lib.hid hj
        clear hp hj hall hval hkl hrow
        go_wp2_with (go_at_call 22; refine Hj.out.mono ?_; rintro e w1 ⟨rfl, hbl⟩)
        rw [Hp.out]
        go_ret2
        exact ⟨rfl, hB.trans (hbl.mono hB.size)⟩
end Go.Proofs.Ytlfjhechploioaa
