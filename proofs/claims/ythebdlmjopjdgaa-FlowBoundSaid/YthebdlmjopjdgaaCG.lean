/-
  DERIVED. From a row's claim to the walks: lists of small numbers that come in (stage 5).
-/
import Derived.Test.YthebdlmjopjdgaaCF
import Derived.Test.YthebdlmjopjdgaaCD
namespace Go.Proofs.Ythebdlmjopjdgaa
open Go.ChangeShapes Go.WideShapes Go.Deep Go.RowKit
set_option maxRecDepth 100000
set_option linter.unusedSimpArgs false
set_option linter.unusedVariables false

section
variable {H : Type} {enc : TypeId × Value → H} {W : World} {base : Nat} {spare : Nat → Bool} {held : Bool} {r : Go.Reach} {b0 : Nat} {v : Value} {d : DataW H} {p : List MemPlace}
theorem open_u8s (h : DataW.Trod enc Try.prog W base spare held 50 v d p) (hv : Value.okWide Try.prog W r b0 50 v) : ∃ l, U8Sl W v l := by
  obtain ⟨a0, len0, cap0, rfl⟩ := okWide_slice Try.underlying50 hv
  obtain ⟨fuel, hf⟩ := h
  rcases open_ints Try.underlying50 Try.underlying5 (by kernel_rfl) (by simpa [Value.cells] using hf) with ⟨h0, -⟩ | ⟨a, len, cap, zs, hcs, hb, hl, hm, hz, -, hc, hwf⟩
  · simp at h0
    obtain ⟨rfl, rfl, rfl⟩ := h0
    exact ⟨[], none, 0, rfl, Nat.le_refl _, Nat.zero_le _, fun _ => rfl, fun x hx => absurd hx List.not_mem_nil, fun h => absurd h (Nat.lt_irrefl _)⟩
  · simp at hcs
    obtain ⟨rfl, rfl, rfl⟩ := hcs
    have hlz : len0 ≤ zs.length := by rw [hz]; split <;> omega
    have hnat : ∀ n ∈ zs, ∃ m : Nat, n = (m : Int) ∧ m ≤ 255 := fun n hn => u8_wf (hwf n hn)
    have hlen : ((zs.take len0).map Int.toNat).length = len0 := by simp; omega
    refine ⟨(zs.take len0).map Int.toNat, some a, cap0, by rw [hlen], by rw [hlen]; exact hl, hm, (by intro h; cases h), fun x hx => ?_, fun h0 => ?_⟩
    · obtain ⟨z, hz1, rfl⟩ := List.mem_map.1 hx
      obtain ⟨m, rfl, hm⟩ := hnat z (List.mem_of_mem_take hz1)
      omega
    · rw [hlen] at h0
      obtain ⟨b, off, spot⟩ := a
      have hc0 := hc 0 (by omega)
      have hsp : spot = none := by simpa [Addr.add] using World.cell?_spot hc0
      subst hsp
      have hadd : ∀ j, (⟨b, off, none⟩ : Addr).add j = ⟨b, off + j, none⟩ := fun j => by unfold Addr.add; split <;> simp_all
      rw [hadd] at hc0
      refine ⟨b, off, rfl, cell_lt3 hc0, fun j x hj => ?_⟩
      rw [List.getElem?_map] at hj
      obtain ⟨z, hz1, rfl⟩ := Option.map_eq_some_iff.1 hj
      have hjl : j < len0 := by
        have := (List.getElem?_eq_some_iff.1 hz1).1
        simp at this
        omega
      rw [List.getElem?_take_of_lt hjl] at hz1
      have h1 := hc j (by omega)
      rw [hadd, List.getD_eq_getElem?_getD, hz1] at h1
      obtain ⟨m, rfl, -⟩ := hnat z (List.mem_of_getElem? hz1)
      exact h1
end
end Go.Proofs.Ythebdlmjopjdgaa
