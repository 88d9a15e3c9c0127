/-
  DERIVED. Nets turned round, with a greater capacity, without an arc: the law FlowTurns in plain words (stage 5).
-/
import Derived.Test.YtglpaihadongkaaDH
set_option linter.unusedVariables false
set_option linter.unusedSimpArgs false
namespace Go.Proofs.Ytglpaihadongkaa
set_option linter.unusedSimpArgs false
set_option linter.unusedVariables false

theorem ends_map (l : List Ar) : ends l = l.map fun a => (a.u, a.v, a.cap) := rfl
/-- Arcs turned round. -/
def turnL (l : List (Int × Int × Int)) : List (Int × Int × Int) := l.map fun p => (p.2.1, p.1, p.2.2)
theorem turnL_len (l : List (Int × Int × Int)) : (turnL l).length = l.length := by simp [turnL]
theorem turnL_ok {N : Int} {l : List (Int × Int × Int)} (h : ntOk N l = true) : ntOk N (turnL l) = true := by
  obtain ⟨h1, h2, h3, h4⟩ := ntOk_iff.1 h
  refine ntOk_iff.2 ⟨h1, h2, by rw [turnL_len]; exact h3, fun a ha => ?_⟩
  unfold turnL at ha
  obtain ⟨b, hb, rfl⟩ := List.mem_map.1 ha
  obtain ⟨g1, g2, g3, g4, g5⟩ := arOk_iff.1 (h4 b hb)
  exact arOk_iff.2 ⟨g2, g1, fun e => g3 e.symm, g4, g5⟩
theorem turnL_ends (l : List (Int × Int × Int)) : ends (arsOf (turnL l)) = (ends (arsOf l)).map fun p => (p.2.1, p.1, p.2.2) := by
  unfold turnL arsOf
  rw [ends_map, ends_map]
  simp [List.map_map, arOf]
theorem ends_turn (l : List Ar) : ends (turn l) = (ends l).map fun p => (p.2.1, p.1, p.2.2) := by
  unfold turn
  rw [ends_map, ends_map]
  simp [List.map_map]
theorem Best.turned {N s t : Nat} {L : List (Int × Int × Int)} {lf lf' : List Ar} {v v' : Int} (h : Best N s t L lf v) (k : Best N t s (turnL L) lf' v') (hs : s < N) (ht : t < N) (hst : s ≠ t) : v' = v := by
  have h1 := h.gr.turned hs ht hst
  rw [ends_turn, h.ends_, ← turnL_ends] at h1
  exact (k.gr.uniq h1 ht).1
/-- An arc with a greater capacity. -/
def raiseL (l : List (Int × Int × Int)) (i : Nat) (k : Int) : List (Int × Int × Int) := l.modify i fun a => (a.1, a.2.1, a.2.2 + k)
theorem raiseL_len (l : List (Int × Int × Int)) (i : Nat) (k : Int) : (raiseL l i k).length = l.length := by simp [raiseL]
theorem raiseL_erase (l : List (Int × Int × Int)) (i : Nat) (k : Int) : (raiseL l i k).eraseIdx i = l.eraseIdx i := by
  unfold raiseL
  apply List.ext_getElem?
  intro j
  rw [List.getElem?_eraseIdx, List.getElem?_eraseIdx, List.getElem?_modify, List.getElem?_modify]
  by_cases h : j < i
  · rw [if_pos h, if_pos h]
    have : ¬ i = j := by omega
    simp [this]
  · rw [if_neg h, if_neg h]
    have : ¬ i = j + 1 := by omega
    simp [this]
theorem raiseL_ok {N : Int} {l : List (Int × Int × Int)} {i : Nat} {k : Int} (h : ntOk N l = true) (hk : 0 ≤ k ∧ k ≤ 255) (hc : ∀ a ∈ l, a.2.2 ≤ 255) : ntOk N (raiseL l i k) = true := by
  obtain ⟨h1, h2, h3, h4⟩ := ntOk_iff.1 h
  refine ntOk_iff.2 ⟨h1, h2, by rw [raiseL_len]; exact h3, fun a ha => ?_⟩
  obtain ⟨j, hj⟩ := List.getElem?_of_mem ha
  unfold raiseL at hj
  rw [List.getElem?_modify] at hj
  obtain ⟨b, hb, e⟩ := Option.map_eq_some_iff.1 hj
  have hbm := List.mem_of_getElem? hb
  have hb' := h4 b hbm
  have hbc := hc b hbm
  split at e
  · subst e
    obtain ⟨g1, g2, g3, g4, g5⟩ := arOk_iff.1 hb'
    exact arOk_iff.2 ⟨g1, g2, g3, (by show 0 ≤ b.2.2 + k; omega), (by show b.2.2 + k ≤ 100000000; omega)⟩
  · subst e; exact hb'
theorem eraseL_ok {N : Int} {l : List (Int × Int × Int)} (h : ntOk N l = true) (i : Nat) : ntOk N (l.eraseIdx i) = true := by
  obtain ⟨h1, h2, h3, h4⟩ := ntOk_iff.1 h
  exact ntOk_iff.2 ⟨h1, h2, Nat.le_trans (List.length_eraseIdx_le _ _) h3, fun a ha => h4 a (List.mem_of_mem_eraseIdx ha)⟩
theorem raiseL_ends {l : List (Int × Int × Int)} {i : Nat} {k : Int} {lf : List Ar} {a : Ar} (h : ends lf = ends (arsOf l)) (ha : lf[i]? = some a) : ends (arsOf (raiseL l i k)) = ends (setCap lf i (a.cap + k)) := by
  rw [ends_setCap, h]
  unfold raiseL arsOf
  rw [ends_map, ends_map]
  apply List.ext_getElem?
  intro j
  simp only [List.getElem?_map, List.getElem?_modify]
  by_cases e : i = j
  · subst e
    have h2 : (ends lf)[i]? = (ends (arsOf l))[i]? := by rw [h]
    rw [ends_map, ends_map] at h2
    unfold arsOf at h2
    simp only [List.getElem?_map, ha, Option.map_some] at h2
    cases hl : l[i]? with
    | none => simp
    | some y =>
      rw [hl] at h2
      simp [arOf] at h2
      simp [arOf, h2.2.2]
  · simp [e]
theorem Best.more {N s t : Nat} {L : List (Int × Int × Int)} {lf lf' : List Ar} {v v' k : Int} {i : Nat} (h : Best N s t L lf v) (h' : Best N s t (raiseL L i k) lf' v') (hs : s < N) (hi : i < L.length) (hk : 0 ≤ k) : v ≤ v' ∧ v' ≤ v + k := by
  have hl : lf.length = L.length := by
    have := congrArg List.length h.ends_
    rw [ends_map, ends_map] at this
    simpa [arsOf] using this
  obtain ⟨a, ha⟩ : ∃ a, lf[i]? = some a := ⟨_, List.getElem?_eq_getElem (by omega)⟩
  exact h.gr.more hs ha hk (raiseL_ends h.ends_ ha) h'.gr
/-- A greatest flow of the net without an arc is one of the net in which it has no capacity. -/
theorem Best.back {N s t : Nat} {L : List (Int × Int × Int)} {lf : List Ar} {v : Int} {i : Nat} (h : Best N s t (L.eraseIdx i) lf v) (hok : ntOk (N : Int) L = true) (hs : s < N) (hi : i < L.length) : ∃ m, Best N s t (zeroAt L i) m v := by
  obtain ⟨A, x, B, hL, hA⟩ : ∃ A x B, L = A ++ x :: B ∧ A.length = i := ⟨L.take i, L[i], L.drop (i + 1), by rw [← List.drop_eq_getElem_cons (by omega), List.take_append_drop], by simp; omega⟩
  have he : L.eraseIdx i = A ++ B := by rw [hL, List.eraseIdx_append_of_length_le (by omega), ← hA]; simp
  have hz : zeroAt L i = A ++ (x.1, x.2.1, 0) :: B := by
    unfold zeroAt
    rw [hL, ← hA]
    apply List.ext_getElem?
    intro j
    rw [List.getElem?_modify]
    rcases Nat.lt_trichotomy j A.length with h1 | h1 | h1
    · rw [List.getElem?_append_left h1, List.getElem?_append_left h1]; have : ¬ A.length = j := by omega
      simp [this]
    · subst h1
      rw [List.getElem?_append_right (Nat.le_refl _), List.getElem?_append_right (Nat.le_refl _)]
      simp
    · rw [List.getElem?_append_right (by omega), List.getElem?_append_right (by omega)]
      have : ¬ A.length = j := by omega
      obtain ⟨q, hq⟩ : ∃ q, j - A.length = q + 1 := ⟨j - A.length - 1, by omega⟩
      rw [hq]
      simp [this]
  have hends := h.ends_
  rw [he] at hends
  have hla : (ends lf).length = A.length + B.length := by rw [hends]; simp [ends_map, arsOf]
  have hll : lf.length = A.length + B.length := by simpa [ends_map] using hla
  obtain ⟨a0, ha0⟩ : ∃ a0 : Ar, a0 = { u := x.1.toNat, v := x.2.1.toNat, cap := 0, x := 0 } := ⟨_, rfl⟩
  obtain ⟨m, hm⟩ : ∃ m, m = lf.take i ++ a0 :: lf.drop i := ⟨_, rfl⟩
  have hti : (lf.take i).length = i := by rw [List.length_take]; omega
  have hmi : m[i]? = some a0 := by rw [hm, List.getElem?_append_right (by omega), hti]; simp
  have hme : m.eraseIdx i = lf := by
    rw [hm, List.eraseIdx_append_of_length_le (by omega), hti]
    simp
  have hx0 : a0.x = 0 := by rw [ha0]
  have hc0 : a0.cap = 0 := by rw [ha0]
  have hxm : arOk (N : Int) x = true := (ntOk_iff.1 hok).2.2.2 x (by rw [hL]; simp)
  obtain ⟨gx1, gx2, -, -, -⟩ := arOk_iff.1 hxm
  have hmem : ∀ b ∈ m, b = a0 ∨ b ∈ lf := fun b hb => by
    rw [hm] at hb
    rcases List.mem_append.1 hb with h1 | h1
    · exact .inr (List.mem_of_mem_take h1)
    · rcases List.mem_cons.1 h1 with h2 | h2
      · exact .inl h2
      · exact .inr (List.mem_of_mem_drop h2)
  have hf : IsFlow N m s t := by
    refine ⟨fun b hb => ?_, fun b hb => ?_, fun n hn h1 h2 => ?_⟩
    · rcases hmem b hb with rfl | h1
      · rw [ha0]; exact ⟨by show x.1.toNat < N; omega, by show x.2.1.toNat < N; omega⟩
      · exact h.flow.nodes b h1
    · rcases hmem b hb with rfl | h1
      · rw [hx0, hc0]; omega
      · exact h.flow.fits b h1
    · rw [← gain_erase hmi hx0, hme]; exact h.flow.even n hn h1 h2
  have hg : gain m s = v := by rw [← gain_erase hmi hx0, hme]; exact h.value
  obtain ⟨g1, -, -⟩ := h.gr.cut hs
  have hgr := Gr.of_cut hf rfl hs (S := reachB lf s) ((reachB_iff lf s s).2 Reach.here) (reachB_no h.no) (by rw [← capS_erase _ hmi hc0, hme, hg]; omega)
  refine ⟨m, hgr.flow, ?_, hg, hgr.done⟩
  have e1 : ends lf = ends (lf.take i) ++ ends (lf.drop i) := by rw [ends_map, ends_map, ends_map, ← List.map_append, List.take_append_drop]
  have e2 : ends (arsOf (A ++ B)) = ends (arsOf A) ++ ends (arsOf B) := by simp [ends_map, arsOf]
  rw [e1, e2] at hends
  have hlen2 : (ends (lf.take i)).length = (ends (arsOf A)).length := by simp [ends_map, arsOf]; omega
  obtain ⟨e3, e4⟩ := List.append_inj hends hlen2
  have e5 : ends m = ends (lf.take i) ++ (x.1.toNat, x.2.1.toNat, 0) :: ends (lf.drop i) := by rw [hm, ha0]; simp [ends_map]
  rw [e5, e3, e4, hz]
  simp [ends_map, arsOf, arOf]
/-- An arc is critical exactly if the value is less without it. -/
theorem crAt_erase {N s t : Nat} {L : List (Int × Int × Int)} {lf : List Ar} {v val : Int} {i : Nat} (h : Best N s t (L.eraseIdx i) lf v) (hok : ntOk (N : Int) L = true) (hs : s < N) (hi : i < L.length) : crAt N s t L val i = decide (v < val) := by
  obtain ⟨m, hm⟩ := h.back hok hs hi
  exact crAt_best hm hs
theorem arcsS_cap {N : Nat} {l : List (Nat × Nat × Nat)} (h : ∀ p ∈ l, p.1 ≤ 255 ∧ p.2.1 ≤ 255 ∧ p.2.2 ≤ 255) : ∀ a ∈ arcsS N l, a.2.2 ≤ 255 := fun a ha => by
  unfold arcsS at ha
  obtain ⟨p, hp, rfl⟩ := List.mem_map.1 ha
  have := (h p (List.mem_filter.1 hp).1).2.2
  show (p.2.2 : Int) ≤ 255
  omega
theorem Best.little {N s t : Nat} {L : List (Int × Int × Int)} {lf : List Ar} {v : Int} (h : Best N s t L lf v) (hc : ∀ a ∈ L, a.2.2 ≤ 255) (hl : L.length ≤ 40) : -10200 ≤ v ∧ v ≤ 10200 := by
  have hll : lf.length = L.length := by
    have := congrArg List.length h.ends_
    rw [ends_map, ends_map] at this
    simpa [arsOf] using this
  have hx : ∀ a ∈ lf, 0 ≤ a.x ∧ a.x ≤ 255 := fun a ha => by
    have h1 := h.flow.fits a ha
    have h2 : (a.u, a.v, a.cap) ∈ ends lf := by rw [ends_map]; exact List.mem_map.2 ⟨a, ha, rfl⟩
    rw [h.ends_, ends_map] at h2
    obtain ⟨b, hb, e⟩ := List.mem_map.1 h2
    unfold arsOf at hb
    obtain ⟨p, hp, rfl⟩ := List.mem_map.1 hb
    have h3 := hc p hp
    injection e with e1 e2
    injection e2 with e2 e3
    have e4 : p.2.2 = a.cap := e3
    omega
  have := gain_bound (M := 255) (by omega) lf hx s
  rw [h.value, hll] at this
  omega
theorem Best.none_ {N s t : Nat} {lf : List Ar} {v : Int} (h : Best N s t [] lf v) : v = 0 := by
  have hll : lf.length = 0 := by
    have := congrArg List.length h.ends_
    rw [ends_map, ends_map] at this
    simpa [arsOf] using this
  obtain rfl := List.eq_nil_of_length_eq_zero hll
  rw [← h.value]
  rfl
end Go.Proofs.Ytglpaihadongkaa
