/-
  DERIVED. Which hosts the law SiteParts has seen, in plain words (stage 12; no program is named).
-/
import Derived.Test.YtoknombajocjlaaAB
namespace Go.Proofs.Ytoknombajocjlaa
set_option linter.unusedVariables false
set_option linter.unusedSimpArgs false

/-- The hosts of a domain. -/
def hostsOf (s : SiteD) (d : Nat) (i : Int) : List Nat := (List.range s.hosts.length).filter (fun h => domAt s h d == i)
theorem hostsOf_mem {s : SiteD} {d : Nat} {i : Int} {h : Nat} : h ∈ hostsOf s d i ↔ h < s.hosts.length ∧ domAt s h d = i := by
  unfold hostsOf
  rw [List.mem_filter, List.mem_range, beq_iff_eq]
theorem hostsOf_lt {s : SiteD} {d : Nat} {i : Int} {j k x y : Nat} (hj : (hostsOf s d i)[j]? = some x) (hk : (hostsOf s d i)[k]? = some y) (hlt : j < k) : x < y := by
  have hp : (hostsOf s d i).Pairwise (· < ·) := List.Pairwise.filter _ List.pairwise_lt_range
  obtain ⟨h1, rfl⟩ := List.getElem?_eq_some_iff.1 hj
  obtain ⟨h2, rfl⟩ := List.getElem?_eq_some_iff.1 hk
  exact List.pairwise_iff_getElem.1 hp j k h1 h2 hlt
theorem hostsOf_new {s : SiteD} {d : Nat} {i : Int} {k y : Nat} (hk : (hostsOf s d i)[k]? = some y) : y ∉ (hostsOf s d i).take k := by
  intro hm
  obtain ⟨j, hj⟩ := List.getElem?_of_mem hm
  have hj' : j < k := by
    have := (List.getElem?_eq_some_iff.1 hj).1
    rw [List.length_take] at this
    omega
  rw [List.getElem?_take_of_lt hj'] at hj
  exact Nat.lt_irrefl _ (hostsOf_lt hj hk hj')
def one (b : Bool) : Int := if b = true then 1 else 0
/-- What is counted behind i domains, and behind k hosts of the next one. -/
def seenI (s : SiteD) (d : Nat) (i : Int) : List Int := (List.range s.hosts.length).map (fun h => one (decide (domAt s h d < i)))
def seenK (s : SiteD) (d : Nat) (i : Int) (k : Nat) : List Int := (List.range s.hosts.length).map (fun h => one (decide (domAt s h d < i)) + one (((hostsOf s d i).take k).contains h))
theorem seenI_len (s : SiteD) (d : Nat) (i : Int) : (seenI s d i).length = s.hosts.length := by simp [seenI]
theorem seenK_len (s : SiteD) (d : Nat) (i : Int) (k : Nat) : (seenK s d i k).length = s.hosts.length := by simp [seenK]
theorem seenK_zero (s : SiteD) (d : Nat) (i : Int) : seenK s d i 0 = seenI s d i := by
  unfold seenK seenI
  refine List.map_congr_left fun h _ => ?_
  simp [one]
theorem seenI_zero {s : SiteD} {d : Nat} (hs : SiteOk s) (hd : 1 ≤ d ∧ d ≤ 5) : seenI s d 0 = List.replicate s.hosts.length 0 := by
  refine List.eq_replicate_iff.2 ⟨seenI_len s d 0, fun x hx => ?_⟩
  unfold seenI at hx
  obtain ⟨h, hh, rfl⟩ := List.mem_map.1 hx
  have := (dom_in hs (List.mem_range.1 hh) hd).1
  unfold one
  rw [if_neg (by simp; omega)]
theorem seenI_all {s : SiteD} {d : Nat} (hs : SiteOk s) (hd : 1 ≤ d ∧ d ≤ 5) : ∀ x ∈ seenI s d (cntOf s d), x = 1 := by
  intro x hx
  unfold seenI at hx
  obtain ⟨h, hh, rfl⟩ := List.mem_map.1 hx
  have := (dom_in hs (List.mem_range.1 hh) hd).2
  unfold one
  rw [if_pos (by simpa using this)]
theorem seenK_whole (s : SiteD) (d : Nat) (i : Int) : seenK s d i (hostsOf s d i).length = seenI s d (i + 1) := by
  unfold seenK seenI
  refine List.map_congr_left fun h hh => ?_
  have hh' := List.mem_range.1 hh
  rw [List.take_length]
  have e : (hostsOf s d i).contains h = decide (domAt s h d = i) := by
    rw [Bool.eq_iff_iff, List.contains_iff_mem, hostsOf_mem]
    simp [hh']
  rw [e]
  unfold one
  simp only [decide_eq_true_eq]
  split <;> split <;> split <;> omega
theorem seenK_at {s : SiteD} {d : Nat} {i : Int} {k h : Nat} (hk : (hostsOf s d i)[k]? = some h) : (seenK s d i k)[h]? = some 0 := by
  have hm := hostsOf_mem.1 (List.mem_of_getElem? hk)
  unfold seenK
  rw [List.getElem?_map, List.getElem?_range hm.1]
  have h1 : ((hostsOf s d i).take k).contains h = false := by
    rw [Bool.eq_false_iff]
    intro h2
    exact hostsOf_new hk (List.contains_iff_mem.1 h2)
  simp only [Option.map_some, h1]
  simp [one, hm.2]
theorem seenK_set {s : SiteD} {d : Nat} {i : Int} {k h : Nat} (hk : (hostsOf s d i)[k]? = some h) : (seenK s d i k).set h 1 = seenK s d i (k + 1) := by
  have hm := hostsOf_mem.1 (List.mem_of_getElem? hk)
  refine List.ext_getElem? fun q => ?_
  rw [List.getElem?_set]
  by_cases hq : q < s.hosts.length
  · have et : (hostsOf s d i).take (k + 1) = (hostsOf s d i).take k ++ [h] := by rw [List.take_add_one, hk]; rfl
    have e1 : (seenK s d i (k + 1))[q]? = some (one (decide (domAt s q d < i)) + one (((hostsOf s d i).take (k + 1)).contains q)) := by
      unfold seenK
      rw [List.getElem?_map, List.getElem?_range hq]
      rfl
    have e2 : (seenK s d i k)[q]? = some (one (decide (domAt s q d < i)) + one (((hostsOf s d i).take k).contains q)) := by
      unfold seenK
      rw [List.getElem?_map, List.getElem?_range hq]
      rfl
    rw [e1, e2, et]
    by_cases he : h = q
    · subst he
      rw [if_pos rfl, if_pos (by rw [seenK_len]; exact hm.1)]
      simp [one, hm.2]
    · rw [if_neg he]
      have e3 : ((hostsOf s d i).take k ++ [h]).contains q = ((hostsOf s d i).take k).contains q := by
        rw [Bool.eq_iff_iff, List.contains_iff_mem, List.contains_iff_mem, List.mem_append, List.mem_singleton]
        constructor
        · rintro (h1 | h1)
          · exact h1
          · exact absurd h1.symm he
        · exact Or.inl
      rw [e3]
  · have hne : h ≠ q := by omega
    rw [if_neg hne, List.getElem?_eq_none (by rw [seenK_len]; omega), List.getElem?_eq_none (by rw [seenK_len]; omega)]
end Go.Proofs.Ytoknombajocjlaa
