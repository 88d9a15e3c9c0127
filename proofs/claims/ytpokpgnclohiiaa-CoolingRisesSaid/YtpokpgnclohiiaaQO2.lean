/-
  DERIVED. Several texts in one.
-/
import Derived.Test.YtpokpgnclohiiaaQB2
import Derived.Test.YtpokpgnclohiiaaQV61
set_option linter.unusedVariables false
set_option linter.unusedSimpArgs false

namespace Go.Proofs.Ytpokpgnclohiiaa
open Go.ChangeShapes Go.WideShapes Go.Deep Go.RowKit
set_option maxRecDepth 100000
set_option linter.unusedSimpArgs false
set_option linter.unusedVariables false

section
variable {H : Type} {enc : TypeId × Value → H} {W : World} {base : Nat} {spare : Nat → Bool} {held : Bool} {r : Go.Reach} {b0 : Nat} {v : Value} {d : DataW H} {p : List MemPlace}
theorem open_isl {fuel : Nat} {x : DataW H × List MemPlace} (hf : DataW.trod enc Try.prog W base spare held fuel 30 [v] = some x) : ∃ l, v6.IntSl W v l := by
  rcases open_ints Try.underlying30 Try.underlying3 (by kernel_rfl) hf with ⟨h0, -⟩ | ⟨a, len, cap, zs, hcs, hb, hl, hm, hz, -, hc, hwf⟩
  · simp at h0
    subst h0
    exact ⟨[], v6.IntSl.nil W⟩
  · simp at hcs
    subst hcs
    have hlz : len ≤ zs.length := by rw [hz]; split <;> omega
    have hlen : (zs.take len).length = len := by simp; omega
    refine ⟨zs.take len, some a, cap, by rw [hlen], by rw [hlen]; exact hl, hm, (by intro h; cases h), fun h0 => ?_⟩
    rw [hlen] at h0
    have hc0 := hc 0 (by omega)
    obtain ⟨b, off, rfl, hlt⟩ := add_spot hc0
    refine ⟨b, off, rfl, hlt, fun j x hj => ?_⟩
    have hjl : j < len := by
      have := (List.getElem?_eq_some_iff.1 hj).1
      omega
    rw [List.getElem?_take_of_lt hjl] at hj
    have h1 := hc j (by omega)
    rw [plain_add, List.getD_eq_getElem?_getD, hj] at h1
    exact h1
theorem open_il (h : DataW.Trod enc Try.prog W base spare held 30 v d p) (hv : Value.okWide Try.prog W r b0 30 v) : ∃ l, v6.IntSl W v l := by
  obtain ⟨a0, len0, cap0, rfl⟩ := okWide_slice Try.underlying30 hv
  obtain ⟨fuel, hf⟩ := h
  exact open_isl (by simpa [Value.cells] using hf)
end
end Go.Proofs.Ytpokpgnclohiiaa
