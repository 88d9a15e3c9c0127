/-
  DERIVED. The law RatioWhole, at every fraction.
-/
import Derived.Test.YtfdkdloldjfnjaaGreatDoorUR
set_option linter.unusedVariables false
set_option linter.unusedSimpArgs false
namespace Go.Proofs.YtfdkdloldjfnjaaGreatDoor
open Go.RowKit
set_option maxRecDepth 100000

theorem raw_valid' {s : Bool} {a b : List Nat} (ha : Lb a) (hb : Lb b) (hv : validB s a b = true) : ∃ m n : Nat, a = nat m ∧ b = nat n := by
  have h1 : vnB a = true := by unfold validB at hv; simp only [Bool.and_eq_true] at hv; exact hv.1
  have h2 : vnB b = true := by unfold validB at hv; simp only [Bool.and_eq_true] at hv; exact hv.2.1
  exact ⟨val a, val b, (nat_val (can_of_vn ha h1)).symm, (nat_val (can_of_vn hb h2)).symm⟩
theorem res_some_z {r : Bool × Nat × Nat} {z z' : Int} {w : World} {e : Ending} {w' : World} (h : ResPost (some r) z w e w') : ResPost (some r) z' w e w' := by
  obtain ⟨v, y, h1, h2, -, h4⟩ := h
  exact ⟨v, y, h1, h2, fun h => (by cases h), h4⟩
theorem Rc.fr {w : World} {v : Value} {s : Bool} {m n : Nat} (h : Rc w v s (nat m) (nat n)) : Fr w v s m n := by
  obtain ⟨va, vb, e, h1, -, h2, -⟩ := h
  exact ⟨va, vb, e, h1.1, h2.1⟩
theorem whole_parts {s : Bool} {m n N : Nat} (hv : validB s (nat m) (nat n) = true) (hN : N = if s = true ∧ 0 < m % n then m / n + 1 else m / n) : redP s N 1 = some (s, N, 1) := by
  obtain ⟨e1, e2, e3, hs⟩ := valid_rat hv
  obtain ⟨-, -, hn, -⟩ := valid_facts hv
  have hl : (nat N).length ≤ 32 := by
    refine (floor_big (quo s m n) N ?_).2 hs
    rw [← e1, ← e2, ← e3]
    exact hN
  have hm : s = true → 0 < m := by
    intro h
    subst h
    unfold validB at hv
    simp only [Bool.and_eq_true, Bool.or_eq_true, Bool.not_eq_true', decide_eq_true_eq, Bool.true_eq_false, or_false] at hv
    exact nat_len_pos.1 hv.2.2.2.2
  unfold redP
  rw [Nat.gcd_one_right, Nat.div_one, Nat.div_one, if_neg (by rw [nat_one]; simp; exact hl)]
  congr 2
  cases s
  · rfl
  · rw [Bool.true_and, decide_eq_true_eq]
    have h0 := hm rfl
    subst hN
    split
    · exact Nat.succ_pos _
    · rename_i h
      have hr : m % n = 0 := by
        rcases Nat.eq_zero_or_pos (m % n) with h1 | h1
        · exact h1
        · exact absurd ⟨rfl, h1⟩ h
      exact Nat.div_pos (Nat.le_of_dvd h0 (Nat.dvd_of_mod_eq_zero hr)) hn
theorem e_FloorV (s : Bool) (m n N : Nat) (hv : validB s (nat m) (nat n) = true) (hN : N = if s = true ∧ 0 < m % n then m / n + 1 else m / n) (x : Value) (w : World) (hx : Fr w x s m n) :
    Calls Tryz.prog 35 #[x] w (ResPost (some (s, N, 1)) 3 w) := by
  obtain ⟨l1, l2, hn, -⟩ := valid_facts hv
  rw [← whole_parts hv hN]
  cases s
  · rw [if_neg (fun h => by cases h.1)] at hN
    subst hN
    exact floor_f m n hn l1 l2 hv x w hx
  · by_cases hr : 0 < m % n
    · rw [if_pos ⟨rfl, hr⟩] at hN
      subst hN
      exact floor_r m n hn l1 l2 hr hv x w hx
    · rw [if_neg (fun h => hr h.2)] at hN
      subst hN
      exact floor_z m n hn l1 l2 hr hv x w hx
theorem row_RatioWhole (s : Bool) (a b : List Nat) (x : Value) (w : World) (hx : Rc w x s a b) (he : Env w) :
    Calls Tryz.prog 5 #[x] w fun e w' => e = .returned (.bool true) ∧ Below w.heap.size w w' := by
  have hla := lb_take hx.lb'.1 40
  have hlb := lb_take hx.lb'.2 40
  have l1 : (a.take 40).length ≤ 100000 := by simp; omega
  have l2 : (b.take 40).length ≤ 100000 := by simp; omega
  rcases hv : validB s (a.take 40) (b.take 40) with _ | _
  · refine whole_walk s a b _ _ (Lib.hid rfl) (Lib.hid rfl) none 1 0 1 (Lib.hid ?_) (Lib.hid ?_) (Lib.hid ?_) (Lib.hid ?_) x w he hx
    · intro X r hE hr
      exact c_FloorN s _ _ r X hE.1 (hr.fr0' l1 l2) hv
    · intro X r hE hr
      obtain ⟨va, vb, rfl, h1, -, h2, -⟩ := hr
      exact floor_n s _ _ hv va vb X h1 h2
    · intro X r hE hr
      exact c_IntN s _ _ r X hE.1 (hr.fr0' l1 l2) hv
    · intro X r hE hr
      obtain ⟨va, vb, rfl, h1, -, h2, -⟩ := hr
      exact int_n s _ _ hv va vb X h1 h2
  · obtain ⟨m, n, ha, hb⟩ := raw_valid' hla hlb hv
    rw [ha, hb] at hv
    obtain ⟨k1, k2, hn, -⟩ := valid_facts hv
    obtain ⟨N, hN⟩ : ∃ N, N = if s = true ∧ 0 < m % n then m / n + 1 else m / n := ⟨_, rfl⟩
    refine whole_walk s a b _ _ (Lib.hid ha.symm) (Lib.hid hb.symm) (some (s, N, 1)) 3 (intP s m n).1 (intP s m n).2 (Lib.hid ?_) (Lib.hid ?_) (Lib.hid ?_) (Lib.hid ?_) x w he hx
    · intro X r hE hr
      exact (c_FloorV s m n (by omega) (by omega) hn r X hE.1 hr.fr hv N hN).mono fun _ _ h => res_some_z h
    · intro X r hE hr
      exact e_FloorV s m n N hv hN r X hr.fr
    · intro X r hE hr
      exact n_Int s m n hv r X hE.1 hr.fr
    · intro X r hE hr
      exact e_Int s m n hv r X hr.fr
end Go.Proofs.YtfdkdloldjfnjaaGreatDoor
