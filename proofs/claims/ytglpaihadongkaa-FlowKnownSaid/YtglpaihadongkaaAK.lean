/-
  PLAIN. A net and numbers that are a flow; the sample's net (stage 5): no program is named.
-/
import Derived.Test.YtglpaihadongkaaAJ
namespace Go.Proofs.Ytglpaihadongkaa
set_option linter.unusedSimpArgs false
set_option linter.unusedVariables false
set_option maxRecDepth 100000

def flowOk (N s t : Nat) (L : List (Int × Int × Int)) (xs : List Int) : Bool :=
  decide (xs.length = L.length) && ((zipX L xs).all (fun a => decide (a.u < N) && (decide (a.v < N) && (decide (0 ≤ a.x) && decide (a.x ≤ a.cap)))) && (List.range N).all fun n => n == s || (n == t || gain (zipX L xs) n == 0))
theorem ends_zip : ∀ (L : List (Int × Int × Int)) (xs : List Int), xs.length = L.length → ends (zipX L xs) = ends (arsOf L)
  | [], [], _ => rfl
  | a :: L, x :: xs, h => by
    have ih := ends_zip L xs (by simpa using h)
    show (_ :: ends (zipX L xs)) = (_ :: ends (arsOf L))
    rw [ih]
theorem flow_of {N s t : Nat} {L : List (Int × Int × Int)} {xs : List Int} (h : flowOk N s t L xs = true) : IsFlow N (zipX L xs) s t ∧ ends (zipX L xs) = ends (arsOf L) := by
  unfold flowOk at h
  simp only [Bool.and_eq_true, decide_eq_true_iff, List.all_eq_true, Bool.or_eq_true, beq_iff_eq] at h
  obtain ⟨h1, h2, h3⟩ := h
  refine ⟨⟨fun a ha => ⟨(h2 a ha).1, (h2 a ha).2.1⟩, fun a ha => (h2 a ha).2.2, fun n hn h4 h5 => ?_⟩, ends_zip L xs h1⟩
  rcases h3 n (List.mem_range.2 hn) with h | h | h
  · exact absurd h h4
  · exact absurd h h5
  · exact h
theorem gr_of {N s t : Nat} {L : List (Int × Int × Int)} {xs : List Int} (h : flowOk N s t L xs = true) (hs : s < N) (S : Nat → Bool) (h1 : S s = true) (h2 : S t = false) (h3 : capS (zipX L xs) S ≤ gain (zipX L xs) s) : Gr N (ends (arsOf L)) s t (zipX L xs) (gain (zipX L xs) s) :=
  Gr.of_cut (flow_of h).1 (flow_of h).2 hs h1 h2 h3
def smpL : List (Int × Int × Int) := [(0, 1, 3), (0, 2, 2), (1, 2, 5), (1, 3, 2), (2, 3, 4)]
theorem smp_gr : Gr 4 (ends (arsOf smpL)) 0 3 (zipX smpL [3, 2, 1, 2, 3]) 5 := gr_of (xs := [3, 2, 1, 2, 3]) (by decide +kernel) (by decide) (fun n => n == 0) rfl rfl (by decide +kernel)
theorem smp_val {lf : List Ar} {val : Int} (h : Gr 4 (ends (arsOf smpL)) 0 3 lf val) : val = 5 := (h.uniq smp_gr (by decide)).1
theorem smp_cut {lf : List Ar} {val : Int} (h : Gr 4 (ends (arsOf smpL)) 0 3 lf val) : (List.range 4).filter (reachB lf 0) = [0] := by
  have hv := smp_val h
  have hc := (h.cut (by decide)).2.2 (fun n => n == 0) rfl rfl (by rw [capS_ends h.net, hv]; decide +kernel)
  have e : ∀ n, reachB lf 0 n = (n == 0) := fun n => by
    rw [Bool.eq_iff_iff, reachB_iff]
    exact ⟨fun hr => hc n hr, fun hn => by rw [beq_iff_eq.1 hn]; exact Reach.here⟩
  rw [List.filter_congr (fun n _ => e n)]
  rfl
end Go.Proofs.Ytglpaihadongkaa
