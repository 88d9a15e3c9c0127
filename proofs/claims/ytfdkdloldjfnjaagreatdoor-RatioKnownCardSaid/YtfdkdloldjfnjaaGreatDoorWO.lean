/-
  DERIVED. From a row's claim to the walks: small ints, and six of them.
-/
import Derived.Test.YtfdkdloldjfnjaaGreatDoorUS
set_option linter.unusedVariables false
set_option linter.unusedSimpArgs false
namespace Go.Proofs.YtfdkdloldjfnjaaGreatDoor
open Go.ChangeShapes Go.WideShapes Go.Deep Go.RowKit
set_option maxRecDepth 100000

section
variable {H : Type} {enc : TypeId × Value → H} {W : World} {base : Nat} {spare : Nat → Bool} {held : Bool} {r : Reach} {b0 : Nat} {v : Value} {d : DataW H} {p : List MemPlace}
theorem u8_wf {n : Int} (h : (Lit.int .u8 n).wf = true) : 0 ≤ n ∧ n ≤ 255 := by
  have h2 : (decide ((0 : Int) ≤ n) && decide (n ≤ 255)) = true := h
  simp only [Bool.and_eq_true, decide_eq_true_eq] at h2
  exact h2
theorem i16_wf {n : Int} (h : (Lit.int .i16 n).wf = true) : -32768 ≤ n ∧ n ≤ 32767 := by
  have h2 : (decide ((-32768 : Int) ≤ n) && decide (n ≤ 32767)) = true := h
  simp only [Bool.and_eq_true, decide_eq_true_eq] at h2
  exact h2
theorem open_uint8 (hv : Value.okWide Tryz.prog W r b0 5 v) (h : DataW.Trod enc Tryz.prog W base spare held 5 v d p) : ∃ n : Int, v = .int .u8 n ∧ 0 ≤ n ∧ n ≤ 255 := by
  obtain ⟨m, rfl⟩ := okWide_int Tryz.underlying5 hv
  obtain ⟨fuel, hf⟩ := h
  obtain ⟨n, g, -, hw⟩ := DataW.trod_int Tryz.underlying5 (by simpa [Value.cells] using hf)
  simp at g
  subst g
  exact ⟨m, rfl, u8_wf hw⟩
theorem open_int16 (hv : Value.okWide Tryz.prog W r b0 45 v) (h : DataW.Trod enc Tryz.prog W base spare held 45 v d p) : ∃ n : Int, v = .int .i16 n ∧ -32768 ≤ n ∧ n ≤ 32767 := by
  obtain ⟨m, rfl⟩ := okWide_int Tryz.underlying45 hv
  obtain ⟨fuel, hf⟩ := h
  obtain ⟨n, g, -, hw⟩ := DataW.trod_int Tryz.underlying45 (by simpa [Value.cells] using hf)
  simp at g
  subst g
  exact ⟨m, rfl, i16_wf hw⟩
theorem i64_wf {n : Int} (h : (Lit.int .i64 n).wf = true) : -9223372036854775808 ≤ n ∧ n ≤ 9223372036854775807 := by
  have h2 : (decide ((-9223372036854775808 : Int) ≤ n) && decide (n ≤ 9223372036854775807)) = true := h
  simp only [Bool.and_eq_true, decide_eq_true_eq] at h2
  exact h2
theorem open_int64 (hv : Value.okWide Tryz.prog W r b0 3 v) (h : DataW.Trod enc Tryz.prog W base spare held 3 v d p) : ∃ n : Int, v = .int .i64 n ∧ -9223372036854775808 ≤ n ∧ n ≤ 9223372036854775807 := by
  obtain ⟨m, rfl⟩ := okWide_int Tryz.underlying3 hv
  obtain ⟨fuel, hf⟩ := h
  obtain ⟨n, g, -, hw⟩ := DataW.trod_int Tryz.underlying3 (by simpa [Value.cells] using hf)
  simp at g
  subst g
  exact ⟨m, rfl, i64_wf hw⟩
theorem open_six (hv : Value.okWide Tryz.prog W r b0 47 v) (h : DataW.Trod enc Tryz.prog W base spare held 47 v d p) :
    ∃ x : List Int, v = .agg (x.map (.int .i16)).toArray ∧ x.length = 6 ∧ ∀ z ∈ x, -32768 ≤ z ∧ z ≤ 32767 := by
  obtain ⟨cs, n, rfl, hl, hf⟩ := open_struct Tryz.underlying47 (by kernel_rfl) (by kernel_rfl) hv h
  have key : ∀ (j : Nat) (f : Field) (u : Value) (y : DataW H × List MemPlace), f.type = 45 → DataW.trod enc Tryz.prog W base spare held n f.type [u] = some y → ∃ z : Int, u = .int .i16 z ∧ -32768 ≤ z ∧ z ≤ 32767 := by
    intro j f u y hft hk
    rw [hft] at hk
    obtain ⟨z, g, -, hw⟩ := DataW.trod_int Tryz.underlying45 hk
    simp at g
    exact ⟨z, g, i16_wf hw⟩
  obtain ⟨u0, y0, e0, k0⟩ := hf 0 _ rfl
  obtain ⟨u1, y1, e1, k1⟩ := hf 1 _ rfl
  obtain ⟨u2, y2, e2, k2⟩ := hf 2 _ rfl
  obtain ⟨u3, y3, e3, k3⟩ := hf 3 _ rfl
  obtain ⟨u4, y4, e4, k4⟩ := hf 4 _ rfl
  obtain ⟨u5, y5, e5, k5⟩ := hf 5 _ rfl
  obtain ⟨z0, rfl, b0⟩ := key 0 _ _ _ rfl k0
  obtain ⟨z1, rfl, b1⟩ := key 1 _ _ _ rfl k1
  obtain ⟨z2, rfl, b2⟩ := key 2 _ _ _ rfl k2
  obtain ⟨z3, rfl, b3⟩ := key 3 _ _ _ rfl k3
  obtain ⟨z4, rfl, b4⟩ := key 4 _ _ _ rfl k4
  obtain ⟨z5, rfl, b5⟩ := key 5 _ _ _ rfl k5
  match cs, hl with
  | [c0, c1, c2, c3, c4, c5], _ =>
    simp at e0 e1 e2 e3 e4 e5
    subst e0 e1 e2 e3 e4 e5
    refine ⟨[z0, z1, z2, z3, z4, z5], rfl, rfl, ?_⟩
    intro z hz
    simp only [List.mem_cons, List.not_mem_nil, or_false] at hz
    rcases hz with rfl | rfl | rfl | rfl | rfl | rfl <;> assumption
end
end Go.Proofs.YtfdkdloldjfnjaaGreatDoor
