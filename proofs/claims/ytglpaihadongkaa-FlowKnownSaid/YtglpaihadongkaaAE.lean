/-
  PLAIN. More along a way (stage 5): no program is named.
-/
import Derived.Test.YtglpaihadongkaaAD
namespace Go.Proofs.Ytglpaihadongkaa

theorem mvFrom_send (l : List Ar) (m k : Nat) (d : Int) : mvFrom (mvSend l m d) k = mvFrom l k := by
  unfold mvFrom mvSend
  rw [upd_get]
  by_cases e : m / 2 = k / 2
  · rw [if_pos e]; cases l[k / 2]? <;> rfl
  · rw [if_neg e]
theorem mvTo_send (l : List Ar) (m k : Nat) (d : Int) : mvTo (mvSend l m d) k = mvTo l k := by
  unfold mvTo mvSend
  rw [upd_get]
  by_cases e : m / 2 = k / 2
  · rw [if_pos e]; cases l[k / 2]? <;> rfl
  · rw [if_neg e]
theorem mvRoom_other {l : List Ar} {m k : Nat} {d : Int} (h : k / 2 ≠ m / 2) : mvRoom (mvSend l m d) k = mvRoom l k := by
  unfold mvRoom mvSend
  rw [upd_get, if_neg (fun e => h e.symm)]
/-- The moves by which v is reached from s, from v back to s. -/
def Chain (l : List Ar) (s : Nat) : Nat → List Nat → Prop
  | v, [] => v = s
  | v, m :: ms => mvTo l m = some v ∧ ∃ u, mvFrom l m = some u ∧ Chain l s u ms
theorem Chain.send {l : List Ar} {s m : Nat} {d : Int} : ∀ {ms : List Nat} {v : Nat}, Chain l s v ms → Chain (mvSend l m d) s v ms
  | [], _, h => h
  | k :: ks, v, h => by
    obtain ⟨h1, u, h2, h3⟩ := h
    exact ⟨(mvTo_send l m k d).trans h1, u, (mvFrom_send l m k d).trans h2, h3.send⟩
/-- Sent along a way of different arcs that have room. -/
def sends (l : List Ar) (ms : List Nat) (d : Int) : List Ar := ms.foldl (fun l m => mvSend l m d) l
theorem chain_sends {s : Nat} {d : Int} (h0 : 0 ≤ d) : ∀ {ms : List Nat} {l : List Ar} {v : Nat}, Chain l s v ms → Fits l → (∀ m ∈ ms, d ≤ mvRoom l m) → (ms.map (· / 2)).Nodup →
    ends (sends l ms d) = ends l ∧ Fits (sends l ms d) ∧ ∀ n, gain (sends l ms d) n = gain l n + ((if s = n then d else 0) - (if v = n then d else 0))
  | [], l, v, hc, hf, _, _ => by
    obtain rfl : v = s := hc
    refine ⟨rfl, hf, fun n => ?_⟩
    show gain l n = _
    split <;> omega
  | m :: ms, l, v, hc, hf, hr, hn => by
    obtain ⟨h1, u, h2, h3⟩ := hc
    rw [List.map_cons, List.nodup_cons] at hn
    obtain ⟨g1, g2, g3⟩ := chain_sends h0 (l := mvSend l m d) (h3.send) (mvSend_fits hf h0 (hr m (by simp)))
      (fun k hk => by
        rw [mvRoom_other (fun e => hn.1 (by rw [← e]; exact List.mem_map_of_mem hk))]
        exact hr k (List.mem_cons_of_mem _ hk)) hn.2
    refine ⟨g1.trans (mvSend_ends l m d), g2, fun n => ?_⟩
    show gain (sends (mvSend l m d) ms d) n = _
    rw [g3 n, mvSend_gain h2 h1 n]
    omega
/-- Along a way with room the flow becomes greater. -/
theorem IsFlow.along {N s t : Nat} {l : List Ar} {d : Int} {ms : List Nat} (h : IsFlow N l s t) (hst : s ≠ t) (h0 : 0 ≤ d) (hc : Chain l s t ms) (hr : ∀ m ∈ ms, d ≤ mvRoom l m) (hn : (ms.map (· / 2)).Nodup) :
    IsFlow N (sends l ms d) s t ∧ gain (sends l ms d) s = gain l s + d ∧ ends (sends l ms d) = ends l := by
  obtain ⟨g1, g2, g3⟩ := chain_sends h0 hc h.fits hr hn
  obtain ⟨k1, k2⟩ := h.sent hst g1 g2 g3
  exact ⟨k1, k2, g1⟩
/-- Nothing flows. -/
theorem IsFlow.none {N s t : Nat} {l : List Ar} (h1 : ∀ a ∈ l, a.u < N ∧ a.v < N) (h2 : ∀ a ∈ l, a.x = 0 ∧ 0 ≤ a.cap) : IsFlow N l s t ∧ gain l s = 0 := by
  have hg : ∀ n, gain l n = 0 := by
    intro n
    clear h1
    induction l with
    | nil => rfl
    | cons a l ih => rw [gain_cons, ih (fun b hb => h2 b (List.mem_cons_of_mem _ hb)), (h2 a (by simp)).1]; simp
  exact ⟨⟨h1, fun a ha => by have := h2 a ha; omega, fun n _ _ _ => hg n⟩, hg s⟩
/-- A value is at most the sum of all capacities. -/
theorem value_bound {N s t : Nat} {l : List Ar} {M : Int} (h : IsFlow N l s t) (hs : s < N) (hst : s ≠ t) (hM : ∀ a ∈ l, a.cap ≤ M) (h0 : 0 ≤ M) : gain l s ≤ M * (l.length : Int) := by
  have h1 := h.le_cut (S := fun n => decide (n = s)) hs (by simp) (by simp [Ne.symm hst])
  have h2 : ∀ l : List Ar, (∀ a ∈ l, a.cap ≤ M) → capS l (fun n => decide (n = s)) ≤ M * (l.length : Int) := by
    intro l hl
    induction l with
    | nil => simp [capS]
    | cons a l ih =>
      have ha := hl a (by simp)
      have := ih (fun b hb => hl b (List.mem_cons_of_mem _ hb))
      rw [capS_cons, List.length_cons, show ((l.length + 1 : Nat) : Int) = (l.length : Int) + 1 by omega, Int.mul_add]
      split <;> omega
  exact Int.le_trans h1 (h2 l hM)
end Go.Proofs.Ytglpaihadongkaa
