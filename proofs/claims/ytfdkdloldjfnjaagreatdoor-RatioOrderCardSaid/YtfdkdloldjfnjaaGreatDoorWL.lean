/-
  DERIVED. The law's sign; some contracts as functions of numbers.
-/
import Derived.Test.YtfdkdloldjfnjaaGreatDoorWH
import Derived.Test.YtfdkdloldjfnjaaGreatDoorWI
set_option linter.unusedVariables false
set_option linter.unusedSimpArgs false
namespace Go.Proofs.YtfdkdloldjfnjaaGreatDoor
open Go.RowKit
set_option maxRecDepth 100000

set_option maxHeartbeats 1000000 in
theorem c_sign {x : Value} {q : Rat} {w : World} {c : Int} (hx : Rv w x q) (hc : sgq q = c) : Calls Tryz.prog 44 #[x] w fun e w' => e = .returned (.int .i64 c) ∧ Below w.heap.size w w' := by
  obtain ⟨A, m, B, n, rfl⟩ := hx.open
  have HB := Lib.hid ((Below.refl w.heap.size w).alloc (Nat.le_refl _) (.cells #[.bool (qneg q), .slice A (nat q.num.natAbs).length m, .slice B (nat q.den).length n] 25))
  unfold sgq at hc
  by_cases hn : qneg q = true
  · rw [if_pos hn] at hc
    subst hc
    rw [hn] at HB ⊢
    clear hx
    go_enter Tryz.func44, Tryz.ntmps44
    go_wp2_with (fail)
    go_ret
    exact ⟨rfl, HB.out⟩
  · rw [if_neg hn] at hc
    have hn' : qneg q = false := by simpa using hn
    rw [hn'] at HB ⊢
    have hl : ∃ k : Nat, (nat q.num.natAbs).length = k ∧ (c = 0 ∧ k = 0 ∨ c = 1 ∧ 1 ≤ k) := by
      refine ⟨_, rfl, ?_⟩
      by_cases h0 : q = 0
      · rw [if_pos h0] at hc
        subst h0
        exact .inl ⟨hc.symm, by show (nat 0).length = 0; rw [nat, dif_pos rfl]; rfl⟩
      · rw [if_neg h0] at hc
        exact .inr ⟨hc.symm, nat_len_pos.2 (num_pos h0)⟩
    obtain ⟨k, hk, hl⟩ := hl
    rw [hk] at HB ⊢
    clear hx hc hn hn' hk
    rcases hl with ⟨rfl, rfl⟩ | ⟨rfl, h1⟩
    · go_enter Tryz.func44, Tryz.ntmps44
      go_wp2_with (fail)
      go_ret
      exact ⟨rfl, HB.out⟩
    · have h1' : (1 : Int) ≤ (k : Int) := by omega
      have hmin : min (k : Int) 1 = 1 := by omega
      go_enter Tryz.func44, Tryz.ntmps44
      go_wp2_with (fail)
      go_ret
      exact ⟨rfl, HB.out⟩
theorem v_FloorTo {x : Value} {p l : Rat} {w : World} (ht : Env w) (hx : Rv w x p) (h : (p.floor : Rat) = l) (hs : Sm l) : Calls Tryz.prog 34 #[x] w (RatPost l w) := by subst h; exact v_Floor ht hx hs
theorem v_IntTo {x : Value} {l : Rat} {z : Int} {w : World} (ht : Env w) (hx : Rv w x l) (h : l = (z : Rat)) (h1 : -9223372036854775808 ≤ z) (h2 : z ≤ 9223372036854775807) : Calls Tryz.prog 36 #[x] w fun e w' => e = .returned (.tuple #[.int .i64 z, .int .i64 0]) ∧ Below w.heap.size w w' := by subst h; exact v_Int ht hx h1 h2
theorem v_OfTo {n : Int} {l : Rat} (h1 : -9223372036854775808 ≤ n) (h2 : n ≤ 9223372036854775807) (h : ofq n 1 = l) (w : World) (ht : Env w) : Calls Tryz.prog 13 #[.int .i64 n, .int .i64 1] w (RatPost l w) := by subst h; exact v_Of n 1 h1 h2 (by omega) (by omega) (by omega) w ht
theorem rat_one : qneg 1 = false ∧ nat (1 : Rat).num.natAbs = [1] ∧ nat (1 : Rat).den = [1] := ⟨by decide, nat_one, nat_one⟩
theorem one_made {w : World} {b b' : Nat} {T : TypeId} (h : w.heap[b]? = some (.cells #[.int .u32 1] T (0, 0))) (h' : w.heap[b']? = some (.cells #[.int .u32 1] T (0, 0))) :
    Rv w (.agg #[.bool false, .slice (some ⟨b, 0, none⟩) 1 1, .slice (some ⟨b', 0, none⟩) 1 1]) 1 := by
  have key : ∀ b, w.heap[b]? = some (.cells #[.int .u32 1] T (0, 0)) → NatSl w (fun i => i < w.heap.size) (.slice (some ⟨b, 0, none⟩) 1 1) [1] := by
    intro b h
    refine ⟨_, 1, rfl, Nat.le_refl _, (by unfold maxLen; omega), fun _ => ⟨b, 0, rfl, (Array.getElem?_eq_some_iff.1 h).1, fun j x hj => ?_⟩⟩
    match j with
    | 0 => simp at hj; subst hj; simp [World.cell?, h]
    | k + 1 => simp at hj
  obtain ⟨r1, r2, r3⟩ := rat_one
  exact ⟨⟨_, _, by rw [r1], by rw [r2]; exact key _ h, by rw [r3]; exact key _ h'⟩, sm_of (by decide +kernel) (by decide +kernel)⟩
end Go.Proofs.YtfdkdloldjfnjaaGreatDoor
