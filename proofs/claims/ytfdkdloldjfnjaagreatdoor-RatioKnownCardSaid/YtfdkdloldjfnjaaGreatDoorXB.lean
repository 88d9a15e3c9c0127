/-
  DERIVED. The numbers of RatioKnown. (Written by gen/genXB.py.)
-/
import Derived.Test.YtfdkdloldjfnjaaGreatDoorYWBm
import Derived.Test.YtfdkdloldjfnjaaGreatDoorYWBm
set_option linter.unusedVariables false
set_option linter.unusedSimpArgs false
namespace Go.Proofs.YtfdkdloldjfnjaaGreatDoor
open Go.RowKit Go.Shelf
set_option maxRecDepth 100000

def kZ0 : Rat := ofq 0 (-5)
def kL : Rat := ofq (-9223372036854775808) 1
def kS : Rat := smq 1 1
def kO : Rat := kL - kS
def kB : Rat := quo false (2 ^ 1024 - 1) 1
def kM : Rat := kB - kS
def kE : Rat := kB / kB
def kP : Rat := ofq 314159 100000
def kA : Rat := quo false 22 7
def kBb : Rat := quo false 355 113
def kH : Rat := smq (-1) 2
def kC : Rat := quo true 1 1
def k31 : Rat := smq 31 10
def k22 : Rat := smq 22 7
def k3 : Rat := smq 3 1
def k7 : Rat := smq (-7) 2
def k5 : Rat := smq (-5) 2
def kY : Rat := quo true 3 1
theorem pZ0 : qneg kZ0 = false ∧ kZ0.num.natAbs = 0 ∧ kZ0.den = 1 := ⟨by decide +kernel, by decide +kernel, by decide +kernel⟩
theorem smZ0k : Sm kZ0 := sm_of (by decide +kernel) (by decide +kernel)
theorem pL : qneg kL = true ∧ kL.num.natAbs = 9223372036854775808 ∧ kL.den = 1 := ⟨by decide +kernel, by decide +kernel, by decide +kernel⟩
theorem smLk : Sm kL := sm_of (by decide +kernel) (by decide +kernel)
theorem pS : qneg kS = false ∧ kS.num.natAbs = 1 ∧ kS.den = 1 := ⟨by decide +kernel, by decide +kernel, by decide +kernel⟩
theorem smSk : Sm kS := sm_of (by decide +kernel) (by decide +kernel)
theorem pO : qneg kO = true ∧ kO.num.natAbs = 9223372036854775809 ∧ kO.den = 1 := ⟨by decide +kernel, by decide +kernel, by decide +kernel⟩
theorem smOk : Sm kO := sm_of (by decide +kernel) (by decide +kernel)
theorem pB : qneg kB = false ∧ kB.num.natAbs = (2 ^ 1024 - 1) ∧ kB.den = 1 := ⟨by decide +kernel, by decide +kernel, by decide +kernel⟩
theorem smBk : Sm kB := sm_of (by decide +kernel) (by decide +kernel)
theorem pM : qneg kM = false ∧ kM.num.natAbs = (2 ^ 1024 - 2) ∧ kM.den = 1 := ⟨by decide +kernel, by decide +kernel, by decide +kernel⟩
theorem smMk : Sm kM := sm_of (by decide +kernel) (by decide +kernel)
theorem pE : qneg kE = false ∧ kE.num.natAbs = 1 ∧ kE.den = 1 := ⟨by decide +kernel, by decide +kernel, by decide +kernel⟩
theorem smEk : Sm kE := sm_of (by decide +kernel) (by decide +kernel)
theorem pP : qneg kP = false ∧ kP.num.natAbs = 314159 ∧ kP.den = 100000 := ⟨by decide +kernel, by decide +kernel, by decide +kernel⟩
theorem smPk : Sm kP := sm_of (by decide +kernel) (by decide +kernel)
theorem pA : qneg kA = false ∧ kA.num.natAbs = 22 ∧ kA.den = 7 := ⟨by decide +kernel, by decide +kernel, by decide +kernel⟩
theorem smAk : Sm kA := sm_of (by decide +kernel) (by decide +kernel)
theorem pBb : qneg kBb = false ∧ kBb.num.natAbs = 355 ∧ kBb.den = 113 := ⟨by decide +kernel, by decide +kernel, by decide +kernel⟩
theorem smBbk : Sm kBb := sm_of (by decide +kernel) (by decide +kernel)
theorem pH : qneg kH = true ∧ kH.num.natAbs = 1 ∧ kH.den = 2 := ⟨by decide +kernel, by decide +kernel, by decide +kernel⟩
theorem smHk : Sm kH := sm_of (by decide +kernel) (by decide +kernel)
theorem pC : qneg kC = true ∧ kC.num.natAbs = 1 ∧ kC.den = 1 := ⟨by decide +kernel, by decide +kernel, by decide +kernel⟩
theorem smCk : Sm kC := sm_of (by decide +kernel) (by decide +kernel)
theorem p31 : qneg k31 = false ∧ k31.num.natAbs = 31 ∧ k31.den = 10 := ⟨by decide +kernel, by decide +kernel, by decide +kernel⟩
theorem sm31k : Sm k31 := sm_of (by decide +kernel) (by decide +kernel)
theorem p22 : qneg k22 = false ∧ k22.num.natAbs = 22 ∧ k22.den = 7 := ⟨by decide +kernel, by decide +kernel, by decide +kernel⟩
theorem sm22k : Sm k22 := sm_of (by decide +kernel) (by decide +kernel)
theorem p3 : qneg k3 = false ∧ k3.num.natAbs = 3 ∧ k3.den = 1 := ⟨by decide +kernel, by decide +kernel, by decide +kernel⟩
theorem sm3k : Sm k3 := sm_of (by decide +kernel) (by decide +kernel)
theorem p7 : qneg k7 = true ∧ k7.num.natAbs = 7 ∧ k7.den = 2 := ⟨by decide +kernel, by decide +kernel, by decide +kernel⟩
theorem sm7k : Sm k7 := sm_of (by decide +kernel) (by decide +kernel)
theorem p5 : qneg k5 = true ∧ k5.num.natAbs = 5 ∧ k5.den = 2 := ⟨by decide +kernel, by decide +kernel, by decide +kernel⟩
theorem sm5k : Sm k5 := sm_of (by decide +kernel) (by decide +kernel)
theorem pY : qneg kY = true ∧ kY.num.natAbs = 3 ∧ kY.den = 1 := ⟨by decide +kernel, by decide +kernel, by decide +kernel⟩
theorem smYk : Sm kY := sm_of (by decide +kernel) (by decide +kernel)
theorem dec_step {u : Nat} {l : List UInt8} {c : UInt8} (h : ¬ u < 10) (h1 : Lib.decDigits (u / 10) = l) (h2 : UInt8.ofNat (48 + u % 10) = c) : Lib.decDigits u = l ++ [c] := by rw [Lib.decDigits, dif_neg h, h1, h2]
theorem txZ0k : str (txt false 0 1) = ⟨#[48, 47, 49]⟩ := by
  unfold txt
  rw [(Lib.decDigits_one (i := 0) (by omega)), (Lib.decDigits_one (i := 1) (by omega))]
  rfl
theorem txOk : str (txt true 9223372036854775809 1) = ⟨#[45, 57, 50, 50, 51, 51, 55, 50, 48, 51, 54, 56, 53, 52, 55, 55, 53, 56, 48, 57, 47, 49]⟩ := by
  unfold txt
  rw [(dec_step (u := 9223372036854775809) (c := 57) (by omega) (dec_step (u := 922337203685477580) (c := 48) (by omega) (dec_step (u := 92233720368547758) (c := 56) (by omega) (dec_step (u := 9223372036854775) (c := 53) (by omega) (dec_step (u := 922337203685477) (c := 55) (by omega) (dec_step (u := 92233720368547) (c := 55) (by omega) (dec_step (u := 9223372036854) (c := 52) (by omega) (dec_step (u := 922337203685) (c := 53) (by omega) (dec_step (u := 92233720368) (c := 56) (by omega) (dec_step (u := 9223372036) (c := 54) (by omega) (dec_step (u := 922337203) (c := 51) (by omega) (dec_step (u := 92233720) (c := 48) (by omega) (dec_step (u := 9223372) (c := 50) (by omega) (dec_step (u := 922337) (c := 55) (by omega) (dec_step (u := 92233) (c := 51) (by omega) (dec_step (u := 9223) (c := 51) (by omega) (dec_step (u := 922) (c := 50) (by omega) (dec_step (u := 92) (c := 50) (by omega) (Lib.decDigits_one (i := 9) (by omega)) rfl) rfl) rfl) rfl) rfl) rfl) rfl) rfl) rfl) rfl) rfl) rfl) rfl) rfl) rfl) rfl) rfl) rfl), (Lib.decDigits_one (i := 1) (by omega))]
  rfl
theorem txEk : str (txt false 1 1) = ⟨#[49, 47, 49]⟩ := by
  unfold txt
  rw [(Lib.decDigits_one (i := 1) (by omega))]
  rfl
theorem txAk : str (txt false 22 7) = ⟨#[50, 50, 47, 55]⟩ := by
  unfold txt
  rw [(dec_step (u := 22) (c := 50) (by omega) (Lib.decDigits_one (i := 2) (by omega)) rfl), (Lib.decDigits_one (i := 7) (by omega))]
  rfl
theorem txBbk : str (txt false 355 113) = ⟨#[51, 53, 53, 47, 49, 49, 51]⟩ := by
  unfold txt
  rw [(dec_step (u := 355) (c := 53) (by omega) (dec_step (u := 35) (c := 53) (by omega) (Lib.decDigits_one (i := 3) (by omega)) rfl) rfl), (dec_step (u := 113) (c := 51) (by omega) (dec_step (u := 11) (c := 49) (by omega) (Lib.decDigits_one (i := 1) (by omega)) rfl) rfl)]
  rfl
theorem txCk : str (txt true 1 1) = ⟨#[45, 49, 47, 49]⟩ := by
  unfold txt
  rw [(Lib.decDigits_one (i := 1) (by omega))]
  rfl
theorem txYk : str (txt true 3 1) = ⟨#[45, 51, 47, 49]⟩ := by
  unfold txt
  rw [(Lib.decDigits_one (i := 3) (by omega)), (Lib.decDigits_one (i := 1) (by omega))]
  rfl
set_option exponentiation.threshold 2000 in
theorem big_len : (txt false (2 ^ 1024 - 1) 1).length = 311 := by
  have h1 := dec_length 308 (2 ^ 1024 - 1) (by decide +kernel)
  have h2 : 309 ≤ (Lib.decDigits (2 ^ 1024 - 1)).length := by
    rcases Nat.lt_or_ge (Lib.decDigits (2 ^ 1024 - 1)).length 309 with h | h
    · exfalso
      have hn := numOk_dec (n := 2 ^ 1024 - 1) (by decide +kernel)
      unfold numOk at hn
      rw [Bool.and_eq_true] at hn
      have h3 := nvl_lt (Lib.decDigits (2 ^ 1024 - 1)) (fun c hc => List.all_eq_true.1 hn.2 c hc)
      rw [nvl_dec] at h3
      have h4 : 10 ^ (Lib.decDigits (2 ^ 1024 - 1)).length ≤ 10 ^ 308 := Nat.pow_le_pow_right (by omega) (by omega)
      have h5 : (10 : Nat) ^ 308 < 2 ^ 1024 - 1 := by decide +kernel
      omega
    · exact h
  have h3 := Lib.decDigits_one (i := 1) (by omega)
  unfold txt
  rw [h3]
  simp only [Bool.false_eq_true, if_false, List.length_append, List.length_cons, List.length_nil]
  omega
theorem nat_big : nat (2 ^ 1024 - 1) = List.replicate 32 4294967295 := by
  have : val (List.replicate 32 4294967295) = 2 ^ 1024 - 1 := by decide +kernel
  rw [← this]
  exact nat_val ⟨fun x hx => by rw [(List.mem_replicate.1 hx).2]; decide, by decide⟩
theorem nat_less : nat (2 ^ 1024 - 2) = 4294967294 :: List.replicate 31 4294967295 := by
  have : val (4294967294 :: List.replicate 31 4294967295) = 2 ^ 1024 - 2 := by decide +kernel
  rw [← this]
  refine nat_val ⟨fun x hx => ?_, by decide⟩
  rcases List.mem_cons.1 hx with rfl | hx
  · decide
  · rw [(List.mem_replicate.1 hx).2]; decide
theorem add_over : lowR (kB + kS) = none := by
  unfold lowR
  rw [if_pos]
  left
  have : (kB + kS).num.natAbs = 2 ^ 1024 := by decide +kernel
  rw [this]
  rcases Nat.lt_or_ge 32 (nat (2 ^ 1024)).length with h | h
  · exact h
  · have := nat_len_le.1 h
    exact absurd this (by decide +kernel)
theorem mul_over' : lowR (kB * kB) = none := by
  unfold lowR
  rw [if_pos]
  left
  rcases Nat.lt_or_ge 32 (nat (kB * kB).num.natAbs).length with h | h
  · exact h
  · have := nat_len_le.1 h
    exact absurd this (by decide +kernel)
end Go.Proofs.YtfdkdloldjfnjaaGreatDoor
