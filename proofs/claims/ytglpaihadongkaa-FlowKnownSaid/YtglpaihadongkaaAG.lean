/-
  PLAIN. The program's lists (rooms, ends, moves of a node), and what onward does (stage 5): no program is named.
-/
import Derived.Test.YtglpaihadongkaaAF
namespace Go.Proofs.Ytglpaihadongkaa
set_option linter.unusedSimpArgs false
set_option linter.unusedVariables false

theorem ends_len {l l' : List Ar} (h : ends l = ends l') : l.length = l'.length := by
  have := congrArg List.length h
  simpa [ends] using this
theorem mvFrom_ends {l l' : List Ar} (h : ends l = ends l') (k : Nat) : mvFrom l k = mvFrom l' k := by
  unfold mvFrom
  rcases h1 : l[k / 2]? with _ | a
  · have : l'[k / 2]? = none := by rw [List.getElem?_eq_none_iff] at h1 ⊢; rw [← ends_len h]; exact h1
    rw [this]
  · obtain ⟨b, hb, e1, e2, -⟩ := ends_get h h1
    rw [hb]; simp [e1, e2]
theorem mvTo_ends {l l' : List Ar} (h : ends l = ends l') (k : Nat) : mvTo l k = mvTo l' k := by
  unfold mvTo
  rcases h1 : l[k / 2]? with _ | a
  · have : l'[k / 2]? = none := by rw [List.getElem?_eq_none_iff] at h1 ⊢; rw [← ends_len h]; exact h1
    rw [this]
  · obtain ⟨b, hb, e1, e2, -⟩ := ends_get h h1
    rw [hb]; simp [e1, e2]
theorem mvFrom_lt {l : List Ar} {k p : Nat} (h : mvFrom l k = some p) : k < 2 * l.length := by
  unfold mvFrom at h
  obtain ⟨a, ha, -⟩ := Option.map_eq_some_iff.1 h
  have := (List.getElem?_eq_some_iff.1 ha).1
  omega
theorem mvTo_some {l : List Ar} {k : Nat} (h : k < 2 * l.length) : ∃ q, mvTo l k = some q := by
  unfold mvTo
  rw [List.getElem?_eq_getElem (show k / 2 < l.length by omega)]
  exact ⟨_, rfl⟩
/-- The program's lists. -/
def rooms (l : List Ar) : List Int := (List.range (2 * l.length)).map (mvRoom l)
def endsI (l : List Ar) : List Int := (List.range (2 * l.length)).map fun k => (((mvTo l k).getD 0 : Nat) : Int)
def mvs (l : List Ar) (n : Nat) : List Nat := (List.range (2 * l.length)).filter fun k => mvFrom l k == some n
theorem rooms_len (l : List Ar) : (rooms l).length = 2 * l.length := by simp [rooms]
theorem endsI_len (l : List Ar) : (endsI l).length = 2 * l.length := by simp [endsI]
theorem rooms_get {l : List Ar} {k : Nat} (h : k < 2 * l.length) : (rooms l)[k]? = some (mvRoom l k) := by simp [rooms, h]
theorem endsI_get {l : List Ar} {k q : Nat} (h : mvTo l k = some q) (hk : k < 2 * l.length) : (endsI l)[k]? = some (q : Int) := by simp [endsI, hk, h]
theorem endsI_ends {l l' : List Ar} (h : ends l = ends l') : endsI l = endsI l' := by
  unfold endsI; rw [ends_len h]; congr 1; funext k; rw [mvTo_ends h]
theorem mvs_ends {l l' : List Ar} (h : ends l = ends l') (n : Nat) : mvs l n = mvs l' n := by
  unfold mvs; rw [ends_len h]; congr 1; funext k; rw [mvFrom_ends h]
theorem mem_mvs {l : List Ar} {n k : Nat} : k ∈ mvs l n ↔ mvFrom l k = some n := by
  unfold mvs
  rw [List.mem_filter, List.mem_range]
  exact ⟨fun h => by simpa using h.2, fun h => ⟨mvFrom_lt h, by simpa using h⟩⟩
theorem range_two (n : Nat) : List.range (2 * (n + 1)) = List.range (2 * n) ++ [2 * n, 2 * n + 1] := by
  rw [show 2 * (n + 1) = 2 * n + 1 + 1 by omega, List.range_succ, List.range_succ, List.append_assoc]; rfl
theorem snoc_old {l : List Ar} {a : Ar} {k : Nat} (h : k < 2 * l.length) : (l ++ [a])[k / 2]? = l[k / 2]? := List.getElem?_append_left (by omega)
theorem snoc_new {l : List Ar} {a : Ar} {k : Nat} (h : k / 2 = l.length) : (l ++ [a])[k / 2]? = some a := by rw [h]; simp
theorem rooms_snoc (l : List Ar) (a : Ar) : rooms (l ++ [a]) = rooms l ++ [a.cap - a.x, a.x] := by
  unfold rooms
  rw [List.length_append, List.length_singleton, range_two, List.map_append]
  congr 1
  · refine List.map_congr_left fun k hk => ?_
    rw [List.mem_range] at hk
    unfold mvRoom; rw [snoc_old hk]
  · simp only [List.map_cons, List.map_nil, mvRoom]
    rw [snoc_new (by omega), snoc_new (by omega)]
    simp only [show (2 * l.length) % 2 = 0 by omega, show (2 * l.length + 1) % 2 ≠ 0 by omega, if_true, if_false]
theorem endsI_snoc (l : List Ar) (a : Ar) : endsI (l ++ [a]) = endsI l ++ [(a.v : Int), (a.u : Int)] := by
  unfold endsI
  rw [List.length_append, List.length_singleton, range_two, List.map_append]
  congr 1
  · refine List.map_congr_left fun k hk => ?_
    rw [List.mem_range] at hk
    unfold mvTo; rw [snoc_old hk]
  · simp only [List.map_cons, List.map_nil, mvTo]
    rw [snoc_new (by omega), snoc_new (by omega)]
    simp
theorem mvs_snoc (l : List Ar) (a : Ar) (n : Nat) : mvs (l ++ [a]) n = mvs l n ++ ((if a.u = n then [2 * l.length] else []) ++ (if a.v = n then [2 * l.length + 1] else [])) := by
  unfold mvs
  rw [List.length_append, List.length_singleton, range_two, List.filter_append]
  congr 1
  · refine List.filter_congr fun k hk => ?_
    rw [List.mem_range] at hk
    unfold mvFrom; rw [snoc_old hk]
  · have e1 : mvFrom (l ++ [a]) (2 * l.length) = some a.u := by unfold mvFrom; rw [snoc_new (by omega)]; simp
    have e2 : mvFrom (l ++ [a]) (2 * l.length + 1) = some a.v := by unfold mvFrom; rw [snoc_new (by omega)]; simp
    rw [List.filter_cons, List.filter_cons, List.filter_nil, e1, e2]
    by_cases h1 : a.u = n <;> by_cases h2 : a.v = n <;> simp [h1, h2]
/-- The other move of an arc. -/
def flip (m : Nat) : Nat := if m % 2 = 0 then m + 1 else m - 1
theorem flip_half (m : Nat) : flip m / 2 = m / 2 ∧ flip m ≠ m ∧ flip m % 2 ≠ m % 2 := by unfold flip; split <;> omega
theorem rooms_send {l : List Ar} {m : Nat} {d : Int} (h : m < 2 * l.length) : rooms (mvSend l m d) = ((rooms l).set m (mvRoom l m - d)).set (flip m) (mvRoom l (flip m) + d) := by
  obtain ⟨f1, f2, f3⟩ := flip_half m
  have hl : (mvSend l m d).length = l.length := ends_len (mvSend_ends l m d)
  apply List.ext_getElem?
  intro k
  rcases Nat.lt_or_ge k (2 * l.length) with hk | hk
  · rw [rooms_get (by rw [hl]; exact hk), List.getElem?_set, List.getElem?_set, mvRoom_send (by omega), List.length_set, rooms_len, rooms_get hk]
    by_cases e1 : flip m = k
    · subst e1
      rw [if_pos rfl, if_pos hk, if_pos f1, if_neg f3]
    · rw [if_neg e1]
      by_cases e2 : m = k
      · subst e2
        rw [if_pos rfl, if_pos hk, if_pos rfl, if_pos rfl]
      · rw [if_neg e2, if_neg (by intro h; unfold flip at e1; split at e1 <;> omega)]
  · rw [List.getElem?_eq_none (by rw [rooms_len, hl]; exact hk), List.getElem?_eq_none (by simp [rooms_len]; exact hk)]
theorem mvSend_zero (l : List Ar) (m : Nat) : mvSend l m 0 = l := by
  unfold mvSend
  have : (if m % 2 = 0 then (0 : Int) else -0) = 0 := by split <;> rfl
  rw [this]
  apply List.ext_getElem?
  intro j
  rw [upd_get]
  split
  · cases l[j]? with
    | none => rfl
    | some a => simp
  · rfl
/-- Distances as a list. -/
def ff (F : List Int) (n : Nat) : Int := F[n]?.getD (-1)
theorem ff_get {F : List Int} {n : Nat} {x : Int} (h : F[n]? = some x) : ff F n = x := by unfold ff; rw [h]; rfl
theorem ff_at {F : List Int} {n : Nat} (h : n < F.length) : F[n]? = some (ff F n) := by unfold ff; rw [List.getElem?_eq_getElem h]; rfl
theorem ff_set {F : List Int} {k : Nat} {x : Int} (h : k < F.length) (n : Nat) : ff (F.set k x) n = if n = k then x else ff F n := by
  unfold ff
  rw [List.getElem?_set]
  by_cases e : k = n
  · subst e; simp [h]
  · rw [if_neg e, if_neg (fun h => e h.symm)]
/-- What onward has done: d more goes on from p to t. -/
structure Onw (t : Nat) (l : List Ar) (F : List Int) (p : Nat) (most : Int) (l' : List Ar) (F' : List Int) (d : Int) : Prop where
  lo : 0 ≤ d
  hi : d ≤ most
  ends : ends l' = ends l
  fits : Fits l'
  gain : ∀ n, gain l' n = gain l n + ((if p = n then d else 0) - (if t = n then d else 0))
  len : F'.length = F.length
  lev : ∀ n, ff F' n ≠ ff F n → ff F' n = -1 ∧ (n = p ∨ ff F p < ff F n)
  room : ∀ m p', mvFrom l m = some p' → ff F p' < ff F p → mvRoom l' m = mvRoom l m
  none : d = 0 → l' = l ∧ Dead l (ff F) (ff F') t ∧ ¬ Way l (ff F) t p
/-- While onward looks at the moves of p. -/
structure Mid (t : Nat) (l : List Ar) (F : List Int) (p : Nat) (most : Int) (pre : List Nat) (l1 : List Ar) (F1 : List Int) (left : Int) : Prop where
  lo : 0 ≤ left
  hi : left ≤ most
  ends : ends l1 = ends l
  fits : Fits l1
  gain : ∀ n, gain l1 n = gain l n + ((if p = n then most - left else 0) - (if t = n then most - left else 0))
  len : F1.length = F.length
  lev : ∀ n, ff F1 n ≠ ff F n → ff F1 n = -1 ∧ ff F p < ff F n
  room : ∀ m p', mvFrom l m = some p' → ff F p' < ff F p → mvRoom l1 m = mvRoom l m
  none : left = most → l1 = l ∧ Dead l (ff F) (ff F1) t ∧ ∀ m ∈ pre, ∀ q, mvTo l m = some q → 0 < mvRoom l m → ff F q = ff F p + 1 → ¬ Way l (ff F) t q
section
variable {t p : Nat} {l l1 l2 : List Ar} {F F1 F2 : List Int} {most left d : Int} {pre : List Nat} {m q : Nat}
theorem Mid.start (hf : Fits l) (hm : 0 ≤ most) : Mid t l F p most [] l F most :=
  ⟨hm, Int.le_refl _, rfl, hf, fun n => by simp, rfl, fun n h => absurd rfl h, fun _ _ _ _ => rfl, fun _ => ⟨rfl, Dead.refl _ _ _, fun m hm => by cases hm⟩⟩
theorem Mid.same (h : Mid t l F p most pre l1 F1 left) : ff F1 p = ff F p :=
  Classical.byContradiction fun hn => by have := (h.lev p hn).2; omega
theorem Mid.skip (h : Mid t l F p most pre l1 F1 left) (hr : mvRoom l1 m ≤ 0) : Mid t l F p most (pre ++ [m]) l1 F1 left :=
  ⟨h.lo, h.hi, h.ends, h.fits, h.gain, h.len, h.lev, h.room, fun e => by
    obtain ⟨e1, e2, e3⟩ := h.none e
    refine ⟨e1, e2, fun k hk q hq hr' hf => ?_⟩
    rcases List.mem_append.1 hk with hk | hk
    · exact e3 k hk q hq hr' hf
    · rw [List.mem_singleton] at hk; subst hk; rw [e1] at hr; omega⟩
theorem Mid.off (h : Mid t l F p most pre l1 F1 left) (h0 : 0 ≤ ff F p) (hq : mvTo l m = some q) (hne : ff F1 q ≠ ff F1 p + 1) : Mid t l F p most (pre ++ [m]) l1 F1 left :=
  ⟨h.lo, h.hi, h.ends, h.fits, h.gain, h.len, h.lev, h.room, fun e => by
    obtain ⟨e1, e2, e3⟩ := h.none e
    refine ⟨e1, e2, fun k hk q' hq' hr' hf => ?_⟩
    rcases List.mem_append.1 hk with hk | hk
    · exact e3 k hk q' hq' hr' hf
    · rw [List.mem_singleton] at hk
      subst hk
      rw [hq] at hq'
      injection hq' with hq'
      subst hq'
      rw [h.same] at hne
      exact (e2.struck q (by omega)).2⟩
theorem Mid.sent (h : Mid t l F p most pre l1 F1 left) (h0 : 0 ≤ ff F p) (hp : mvFrom l m = some p) (hq : mvTo l m = some q) (hf : ff F1 q = ff F1 p + 1) (ho : Onw t l1 F1 q (min left (mvRoom l1 m)) l2 F2 d) :
    Mid t l F p most (pre ++ [m]) (mvSend l2 m d) F2 (left - d) ∧ mvRoom l2 m = mvRoom l1 m := by
  have hs := h.same
  have hends : Go.Proofs.Ytglpaihadongkaa.ends l2 = Go.Proofs.Ytglpaihadongkaa.ends l := ho.ends.trans h.ends
  have hp1 : mvFrom l1 m = some p := (mvFrom_ends h.ends m).trans hp
  have hr : mvRoom l2 m = mvRoom l1 m := ho.room m p hp1 (by omega)
  have hlo := ho.lo
  have hhi := ho.hi
  have hp2 : mvFrom l2 m = some p := (mvFrom_ends hends m).trans hp
  have hq2 : mvTo l2 m = some q := (mvTo_ends hends m).trans hq
  refine ⟨⟨by omega, by have := h.hi; omega, (mvSend_ends l2 m d).trans hends, mvSend_fits ho.fits hlo (by omega), fun n => ?_, ho.len.trans h.len, fun n hn => ?_, fun k p' hk hl => ?_, fun e => ?_⟩, hr⟩
  · rw [mvSend_gain hp2 hq2, ho.gain, h.gain]
    by_cases e1 : p = n <;> by_cases e2 : q = n <;> by_cases e3 : t = n <;> simp [e1, e2, e3] <;> omega
  · by_cases e : ff F1 n = ff F n
    · obtain ⟨g1, g2⟩ := ho.lev n (by rw [e]; exact hn)
      refine ⟨g1, ?_⟩
      rcases g2 with g2 | g2
      · subst g2; omega
      · omega
    · obtain ⟨g1, g2⟩ := h.lev n e
      refine ⟨?_, g2⟩
      by_cases e2 : ff F2 n = ff F1 n
      · rw [e2]; exact g1
      · exact (ho.lev n e2).1
  · have hkp : k / 2 ≠ m / 2 ∨ k / 2 = m / 2 := by omega
    have hk1 : mvFrom l1 k = some p' := (mvFrom_ends h.ends k).trans hk
    have hlv : ff F1 p' < ff F1 q := by
      by_cases e : ff F1 p' = ff F p'
      · omega
      · have := (h.lev p' e).1; omega
    rcases hkp with hkp | hkp
    · rw [mvRoom_other hkp, ho.room k p' hk1 hlv, h.room k p' hk hl]
    · exfalso
      have hk2 : mvFrom l2 k = some p' := (mvFrom_ends hends k).trans hk
      have hcase : k % 2 = m % 2 ∨ k % 2 ≠ m % 2 := by omega
      unfold mvFrom at hk2 hp2
      unfold mvTo at hq2
      rw [hkp] at hk2
      obtain ⟨a, ha, e1⟩ := Option.map_eq_some_iff.1 hk2
      rw [ha] at hp2 hq2
      have hpq : p' = p ∨ p' = q := by
        injection hp2 with hp2
        injection hq2 with hq2
        rcases hcase with hc | hc
        · rw [hc] at e1; left; rw [← e1, ← hp2]
        · right
          rw [← e1, ← hq2]
          have : k % 2 = 0 ∨ k % 2 = 1 := by omega
          rcases this with h3 | h3
          · simp only [if_pos h3, if_neg (show ¬ m % 2 = 0 by omega)]
          · simp only [if_neg (show ¬ k % 2 = 0 by omega), if_pos (show m % 2 = 0 by omega)]
      rcases hpq with e | e
      · subst e; omega
      · subst e
        by_cases e4 : ff F1 p' = ff F p'
        · omega
        · have := (h.lev p' e4).1; omega
  · have hd : d = 0 := by have := h.hi; omega
    subst hd
    have hl : left = most := by omega
    obtain ⟨e1, e2, e3⟩ := h.none hl
    obtain ⟨g1, g2, g3⟩ := ho.none rfl
    subst e1
    subst g1
    rw [mvSend_zero]
    refine ⟨rfl, e2.trans g2, fun k hk q' hq' hr' hf' => ?_⟩
    rcases List.mem_append.1 hk with hk | hk
    · exact e3 k hk q' hq' hr' hf'
    · rw [List.mem_singleton] at hk
      subst hk
      rw [hq] at hq'
      injection hq' with hq'
      subst hq'
      exact e2.way g3
theorem Mid.done (h : Mid t l F p most pre l1 F1 left) (hall : 0 < left → pre = mvs l p) (hpt : p ≠ t) (hm : 0 < most) (hp : p < F.length) (F2 : List Int) (hF : F2 = if 0 < left then F1.set p (-1) else F1) : Onw t l F p most l1 F2 (most - left) := by
  have hlo := h.lo
  have hhi := h.hi
  have hp1 : p < F1.length := by rw [h.len]; exact hp
  have hff : ∀ n, ff F2 n = if n = p ∧ 0 < left then -1 else ff F1 n := by
    intro n
    rw [hF]
    by_cases e : 0 < left
    · rw [if_pos e, ff_set hp1]
      by_cases e2 : n = p
      · rw [if_pos e2, if_pos ⟨e2, e⟩]
      · rw [if_neg e2, if_neg (fun h => e2 h.1)]
    · rw [if_neg e, if_neg (fun h => e h.2)]
  refine ⟨by omega, by omega, h.ends, h.fits, h.gain, ?_, fun n hn => ?_, h.room, fun e => ?_⟩
  · rw [hF]; split
    · rw [List.length_set]; exact h.len
    · exact h.len
  · rw [hff] at hn ⊢
    by_cases e : n = p ∧ 0 < left
    · rw [if_pos e]; exact ⟨rfl, .inl e.1⟩
    · rw [if_neg e] at hn ⊢
      obtain ⟨g1, g2⟩ := h.lev n hn
      exact ⟨g1, .inr g2⟩
  · have hl : left = most := by omega
    obtain ⟨e1, e2, e3⟩ := h.none hl
    rw [hall (by omega)] at e3
    have hw : ¬ Way l (ff F) t p := no_way hpt fun m q g1 g2 g3 g4 => e3 m (mem_mvs.2 g1) q g2 g3 g4
    refine ⟨e1, ⟨fun n hn => ?_⟩, hw⟩
    rw [hff] at hn ⊢
    by_cases e4 : n = p ∧ 0 < left
    · rw [if_pos e4, e4.1]; exact ⟨rfl, hw⟩
    · rw [if_neg e4] at hn ⊢; exact e2.struck n hn
theorem Onw.end_ (hf : Fits l) (hm : 0 < most) : Onw t l F t most l F most :=
  ⟨by omega, Int.le_refl _, rfl, hf, fun n => by omega, rfl, fun n h => absurd rfl h, fun _ _ _ _ => rfl, fun e => by omega⟩
end
end Go.Proofs.Ytglpaihadongkaa
