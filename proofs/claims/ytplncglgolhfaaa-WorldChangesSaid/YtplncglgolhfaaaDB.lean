/-
  DERIVED. Sums over a valid world (stage 13; no program is named).
-/
import Derived.Test.YtplncglgolhfaaaDA
namespace Go.Proofs.Ytplncglgolhfaaa
set_option linter.unusedVariables false
set_option linter.unusedSimpArgs false

def sumN (f : Nat → Int) : Nat → Int
  | 0 => 0
  | n + 1 => sumN f n + f n
theorem sumN_ext {f g : Nat → Int} : ∀ {n : Nat}, (∀ i, i < n → f i = g i) → sumN f n = sumN g n := by
  intro n
  induction n with
  | zero => intro _; rfl
  | succ n ih => intro h; rw [sumN, sumN, ih fun i hi => h i (by omega), h n (by omega)]
theorem sumN_add (f g : Nat → Int) (n : Nat) : sumN (fun i => f i + g i) n = sumN f n + sumN g n := by
  induction n with
  | zero => rfl
  | succ n ih => simp only [sumN, ih]; omega
theorem sumN_zero (n : Nat) : sumN (fun _ => 0) n = 0 := by
  induction n with
  | zero => rfl
  | succ n ih => simp only [sumN, ih]; omega
theorem sumN_one (a : Nat) (c : Int) (n : Nat) : sumN (fun i => if a = i then c else 0) n = if a < n then c else 0 := by
  induction n with
  | zero => simp [sumN]
  | succ n ih =>
    rw [sumN, ih]
    by_cases h : a = n
    · subst h; simp
    · rw [if_neg h]
      by_cases h2 : a < n
      · rw [if_pos h2, if_pos (by omega)]; omega
      · rw [if_neg h2, if_neg (by omega)]; omega
theorem sumN_bound {f : Nat → Int} {m : Int} : ∀ {n : Nat}, (∀ i, i < n → 0 ≤ f i ∧ f i ≤ m) → 0 ≤ sumN f n ∧ sumN f n ≤ m * n := by
  intro n
  induction n with
  | zero => intro _; simp [sumN]
  | succ n ih =>
    intro h
    have h1 := ih fun i hi => h i (by omega)
    have h2 := h n (by omega)
    rw [sumN, show ((n + 1 : Nat) : Int) = n + 1 by omega, Int.mul_add]
    omega
/-- How much the replicas weigh, service by service. -/
theorem sum_weights (c : Nat → Int) (n : Nat) : ∀ {l : List Rep}, (∀ r ∈ l, 0 ≤ r.svc ∧ r.svc < n) → sumN (fun i => (((whereD l i).length : Nat) : Int) * c i) n = (l.map fun r => c r.svc.toNat).sum := by
  intro l
  induction l with
  | nil => intro _; simp [whereD, sumN_zero]
  | cons r l ih =>
    intro h
    have h0 := h r (by simp)
    obtain ⟨a, ha⟩ : ∃ a : Nat, r.svc = a := ⟨r.svc.toNat, by omega⟩
    rw [List.map_cons, List.sum_cons, ← ih fun x hx => h x (by simp [hx])]
    have e : ∀ i, i < n → (((whereD (r :: l) i).length : Nat) : Int) * c i = (if a = i then c a else 0) + (((whereD l i).length : Nat) : Int) * c i := by
      intro i hi
      unfold whereD
      rw [List.filter_cons]
      by_cases e : a = i
      · subst e
        rw [if_pos (by rw [ha]; simp), if_pos rfl, List.map_cons, List.length_cons, Int.natCast_add, Int.add_mul]
        simp; omega
      · rw [if_neg (by rw [ha]; simp; omega), if_neg e]; omega
    rw [sumN_ext e, sumN_add, sumN_one, if_pos (by omega), ha]
    simp
theorem sum_runs (n : Nat) {l : List Rep} (h : ∀ r ∈ l, 0 ≤ r.svc ∧ r.svc < n) : sumN (fun i => (((whereD l i).length : Nat) : Int)) n = l.length := by
  have := sum_weights (fun _ => 1) n h
  simp only [Int.mul_one] at this
  rw [this]
  clear this h
  induction l with
  | nil => rfl
  | cons x l ih => rw [List.map_cons, List.sum_cons, ih, List.length_cons]; omega
/-- The cores in use where no sum wraps around. -/
def usedN (ss : List Svc) (l : List Rep) (host : Int) : Int := (l.map fun r => if r.host = host then coresAt ss r.svc else 0).sum
theorem used_eq {ss : List Svc} {host : Int} (hc : ∀ s ∈ ss, 1 ≤ s.cores ∧ s.cores ≤ 1000) : ∀ {l : List Rep}, (∀ r ∈ l, 0 ≤ r.svc ∧ r.svc < ss.length) → l.length ≤ 100 → ∀ acc : Int, 0 ≤ acc → acc ≤ 1000 * (100 - l.length) → l.foldl (usedStep ss host) acc = acc + usedN ss l host ∧ 0 ≤ usedN ss l host ∧ usedN ss l host ≤ 1000 * l.length := by
  intro l
  induction l with
  | nil => intro _ _ acc _ _; simp [usedN]
  | cons r l ih =>
    intro h hl acc h0 h1
    rw [List.length_cons] at hl h1
    have hr := h r (by simp)
    have hcr : 1 ≤ coresAt ss r.svc ∧ coresAt ss r.svc ≤ 1000 := by
      have hlt : r.svc.toNat < ss.length := by omega
      unfold coresAt
      rw [List.getElem?_eq_getElem hlt]
      exact hc _ (List.getElem_mem hlt)
    have hix : ixB r.svc ss.length = true := ixB_iff.2 hr
    rw [List.foldl_cons]
    have hN : usedN ss (r :: l) host = (if r.host = host then coresAt ss r.svc else 0) + usedN ss l host := by simp [usedN]
    have hstep : usedStep ss host acc r = acc + if r.host = host then coresAt ss r.svc else 0 := by
      unfold usedStep
      rw [hix, Bool.and_true]
      by_cases e : r.host = host
      · rw [if_pos (by simp [e]), if_pos e]
        unfold IntKind.wrap
        simp [IntKind.signed, IntKind.bits]
        omega
      · rw [if_neg (by simp [e]), if_neg e]; simp
    have key := ih (fun x hx => h x (by simp [hx])) (by omega) (usedStep ss host acc r) (by rw [hstep]; split <;> omega) (by rw [hstep]; split <;> omega)
    rw [key.1, hN, hstep, List.length_cons]
    refine ⟨by omega, ?_, ?_⟩
    · split <;> omega
    · split <;> omega
theorem sum_used {ss : List Svc} (nh : Nat) : ∀ {l : List Rep}, (∀ r ∈ l, 0 ≤ r.host ∧ r.host < nh) → sumN (fun i => usedN ss l i) nh = (l.map fun r => coresAt ss r.svc).sum := by
  intro l
  induction l with
  | nil => intro _; simp [usedN, sumN_zero]
  | cons r l ih =>
    intro h
    have h0 := h r (by simp)
    obtain ⟨a, ha⟩ : ∃ a : Nat, r.host = a := ⟨r.host.toNat, by omega⟩
    rw [List.map_cons, List.sum_cons, ← ih fun x hx => h x (by simp [hx])]
    have e : ∀ i, i < nh → usedN ss (r :: l) i = (if a = i then coresAt ss r.svc else 0) + usedN ss l i := by
      intro i hi
      unfold usedN
      rw [List.map_cons, List.sum_cons, ha]
      congr 1
      by_cases e : a = i
      · rw [if_pos e, if_pos (by omega)]
      · rw [if_neg e, if_neg (by omega)]
    rw [sumN_ext e, sumN_add, sumN_one, if_pos (by omega)]
theorem where_len (l : List Rep) (s : Int) : (whereD l s).length ≤ l.length := by
  unfold whereD; rw [List.length_map]; exact List.length_filter_le _ _
theorem where_host {l : List Rep} {s x : Int} (h : x ∈ whereD l s) : ∃ r ∈ l, r.host = x := by
  unfold whereD at h
  obtain ⟨r, hr, e⟩ := List.mem_map.1 h
  exact ⟨r, (List.mem_filter.1 hr).1, e⟩
/-- What the law of sums adds up. -/
theorem sums_ok {s : SiteD} {ss : List Svc} {w : WorldD} (h : WorldOk s ss w) :
    sumN (fun i => (((whereD w.reps i).length : Nat) : Int)) ss.length = w.reps.length ∧
    sumN (fun i => (((whereD w.reps i).length : Nat) : Int) * coresAt ss i) ss.length = sumN (fun i => usedD ss w.reps i) s.hosts.length ∧
    (∀ i : Int, 0 ≤ usedD ss w.reps i ∧ usedD ss w.reps i ≤ 24000) ∧ (∀ i : Nat, i < ss.length → 1 ≤ coresAt ss i ∧ coresAt ss i ≤ 1000) := by
  obtain ⟨h1, ⟨h2, h3, h4⟩, h5, h6, h7, h8, h9⟩ := h
  have hsv : ∀ r ∈ w.reps, 0 ≤ r.svc ∧ r.svc < ss.length := fun r hr => by
    have := h8 r hr
    unfold repOk at this
    rw [Bool.and_eq_true, ixB_iff, ixB_iff] at this
    exact this.1
  have hho : ∀ r ∈ w.reps, 0 ≤ r.host ∧ r.host < s.hosts.length := fun r hr => by
    have := h8 r hr
    unfold repOk at this
    rw [Bool.and_eq_true, ixB_iff, ixB_iff] at this
    exact this.2
  have hco : ∀ x ∈ ss, 1 ≤ x.cores ∧ x.cores ≤ 1000 := fun x hx => by
    obtain ⟨i, hi⟩ := List.getElem?_of_mem hx
    have := h3 i x hi
    unfold svcB at this
    rw [Bool.and_eq_true, keepB_iff] at this
    exact this.1.1
  have hu : ∀ i : Int, usedD ss w.reps i = usedN ss w.reps i ∧ 0 ≤ usedN ss w.reps i ∧ usedN ss w.reps i ≤ 1000 * w.reps.length := fun i => by
    have := used_eq (host := i) hco hsv (by omega) 0 (by omega) (by omega)
    unfold usedD
    rw [this.1]
    exact ⟨by omega, this.2⟩
  refine ⟨sum_runs _ hsv, ?_, fun i => ?_, fun i hi => ?_⟩
  · rw [sum_weights (fun i => coresAt ss i) _ hsv, sumN_ext (fun i _ => (hu i).1), sum_used _ hho]
    rfl
  · have := hu i; omega
  · unfold coresAt
    rw [show ((i : Nat) : Int).toNat = i by omega, List.getElem?_eq_getElem hi]
    exact hco _ (List.getElem_mem hi)
end Go.Proofs.Ytplncglgolhfaaa
