/-
  PLAIN. A search from s, step by step (stage 5): no program is named.
-/
import Derived.Test.YtglpaihadongkaaAG
namespace Go.Proofs.Ytglpaihadongkaa
set_option linter.unusedSimpArgs false
set_option linter.unusedVariables false

theorem nodup_le : ∀ (N : Nat) (l : List Nat), l.Nodup → (∀ x ∈ l, x < N) → l.length ≤ N
  | 0, l, _, h => by
    cases l with
    | nil => exact Nat.le_refl _
    | cons a l => exact absurd (h a (by simp)) (Nat.not_lt_zero _)
  | N + 1, l, hn, h => by
    by_cases hm : N ∈ l
    · have h2 := nodup_le N (l.erase N) (hn.erase N) (fun x hx => by
        have h1 := h x (List.mem_of_mem_erase hx)
        have h3 : x ≠ N := fun e => by subst e; exact (List.Nodup.not_mem_erase hn) hx
        omega)
      rw [List.length_erase_of_mem hm] at h2
      omega
    · have h2 := nodup_le N l hn (fun x hx => by
        have h1 := h x hx
        have h3 : x ≠ N := fun e => by subst e; exact hm hx
        omega)
      omega
/-- D: done; P: the one that is looked at, or none; Q: those that wait. -/
structure DsP (l : List Ar) (s N : Nat) (D P Q : List Nat) (F : List Int) : Prop where
  bfs : Bfs l s (ff F) (· ∈ D)
  nd : (D ++ P ++ Q).Nodup
  mem : ∀ n, n ∈ D ++ P ++ Q ↔ 0 ≤ ff F n
  lev : ∀ n, ff F n ≤ (D.length : Int) + (P.length : Int)
  len : F.length = N
section
variable {l : List Ar} {s N p q m : Nat} {D P Q : List Nat} {F : List Int}
theorem ff_big {F : List Int} {n : Nat} (h : F.length ≤ n) : ff F n = -1 := by unfold ff; rw [List.getElem?_eq_none h]; rfl
theorem DsP.start (hs : s < N) : DsP l s N [] [] [s] ((List.replicate N (-1)).set s 0) := by
  have hf : ff ((List.replicate N (-1)).set s 0) = fun n => if n = s then 0 else -1 := by
    funext n
    rw [ff_set (by rw [List.length_replicate]; exact hs)]
    by_cases e : n = s
    · rw [if_pos e, if_pos e]
    · rw [if_neg e, if_neg e]
      unfold ff
      rw [List.getElem?_replicate]
      split <;> rfl
  refine ⟨?_, by simp, fun n => ?_, fun n => ?_, by simp⟩
  · rw [hf]
    have := Bfs.start l s
    exact ⟨this.low, this.zero, this.from_, fun m p q h1 h2 h3 h4 => by cases h4⟩
  · rw [hf]
    by_cases e : n = s <;> simp [e]
  · rw [hf]
    by_cases e : n = s <;> simp [e]
theorem DsP.pop (h : DsP l s N D [] (p :: Q) F) : DsP l s N D [p] Q F :=
  ⟨h.bfs, by have := h.nd; simpa using this, fun n => by have := h.mem n; simpa using this, fun n => by have := h.lev n; simp at this ⊢; omega, h.len⟩
theorem DsP.at_ (h : DsP l s N D [p] Q F) : 0 ≤ ff F p ∧ p < N := by
  have h1 := (h.mem p).1 (by simp)
  refine ⟨h1, ?_⟩
  rcases Nat.lt_or_ge p N with g | g
  · exact g
  · have := ff_big (F := F) (n := p) (by rw [h.len]; exact g); omega
theorem DsP.visit (h : DsP l s N D [p] Q F) (h1 : mvFrom l m = some p) (h2 : mvTo l m = some q) (hr : 0 < mvRoom l m) (hq : ff F q = -1) (hqN : q < N) (hl : ff F p ≤ (D.length : Int)) : DsP l s N D [p] (Q ++ [q]) (F.set q (ff F p + 1)) := by
  have hp := h.at_
  have hf : ff (F.set q (ff F p + 1)) = fun n => if n = q then ff F p + 1 else ff F n := by
    funext n; exact ff_set (by rw [h.len]; exact hqN) n
  have hb := h.bfs.visit h1 h2 hr hp.1 hq
  refine ⟨by rw [hf]; exact hb, ?_, fun n => ?_, fun n => ?_, by rw [List.length_set]; exact h.len⟩
  · rw [← List.append_assoc, List.nodup_append]
    refine ⟨h.nd, by simp, fun a ha b hb => ?_⟩
    rw [List.mem_singleton] at hb
    subst hb
    intro e
    subst e
    have := (h.mem a).1 ha
    omega
  · rw [← List.append_assoc, List.mem_append, h.mem n, List.mem_singleton, hf]
    by_cases e : n = q
    · simp [e]; omega
    · simp [e]
  · rw [hf]
    have := h.lev n
    simp at this ⊢
    split <;> omega
theorem DsP.finish (h : DsP l s N D [p] Q F) (hp : ∀ m q, mvFrom l m = some p → mvTo l m = some q → 0 < mvRoom l m → 0 ≤ ff F q) : DsP l s N (D ++ [p]) [] Q F := by
  have hb := h.bfs.finish hp
  refine ⟨⟨hb.low, hb.zero, hb.from_, fun m p' q g1 g2 g3 g4 => hb.on m p' q g1 g2 g3 (by simpa using g4)⟩, by have := h.nd; simpa using this, fun n => by have := h.mem n; simpa using this, fun n => by have := h.lev n; simp at this ⊢; omega, h.len⟩
theorem DsP.below (h : DsP l s N D P Q F) : D.length + P.length + Q.length ≤ N := by
  have := nodup_le N (D ++ P ++ Q) h.nd (fun x hx => by
    have h1 := (h.mem x).1 hx
    rcases Nat.lt_or_ge x N with g | g
    · exact g
    · have := ff_big (F := F) (n := x) (by rw [h.len]; exact g); omega)
  simpa [Nat.add_assoc] using this
theorem DsP.end_ (h : DsP l s N D [] [] F) : IsFar l s (ff F) ∧ ∀ n, ff F n ≤ (N : Int) := by
  refine ⟨h.bfs.far fun n hn => by have := (h.mem n).2 hn; simpa using this, fun n => ?_⟩
  have h1 := h.lev n
  have h2 := h.below
  simp at h1 h2
  omega
end
end Go.Proofs.Ytglpaihadongkaa
