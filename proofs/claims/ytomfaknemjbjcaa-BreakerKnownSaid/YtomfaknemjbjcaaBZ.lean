/-
  DERIVED. From a row's claim to the walks: breakers, states and loads that come in.
-/
import Derived.Test.YtomfaknemjbjcaaBF
import Derived.Test.YtomfaknemjbjcaaRows
import Derived.Handed
import Derived.OpenShut
import Derived.Deep.Fields
import Derived.ChangeSame
import Derived.ChangeSlices
namespace Go.Proofs.Ytomfaknemjbjcaa
open Go.ChangeShapes Go.WideShapes Go.Deep Go.RowKit
set_option maxRecDepth 100000

section
variable {H : Type} {enc : TypeId × Value → H} {P : Program} {w : World} {base : Nat} {spare : Nat → Bool} {held : Bool}
/-- A struct of one-cell fields that came in by value, its fields each. -/
theorem open_struct {r : Reach} {b0 : Nat} {t : TypeId} {fs : Array Field} {v : Value} {d : DataW H} {p : List MemPlace} (hs : P.underlying t = some (.struct fs)) (hone : oneCellFields P fs = true) (hC : P.cellsOf t = fs.size)
    (hv : Value.okWide P w r b0 t v) (h : DataW.Trod enc P w base spare held t v d p) :
    ∃ (cs : List Value) (n : Nat), v = .agg cs.toArray ∧ cs.length = fs.size ∧ ∀ (j : Nat) (f : Field), fs[j]? = some f → ∃ (u : Value) (y : DataW H × List MemPlace), cs[j]? = some u ∧ DataW.trod enc P w base spare held n f.type [u] = some y := by
  obtain ⟨⟨l⟩, rfl, hsz⟩ := okWide_struct hs hv
  obtain ⟨fuel, hf⟩ := h
  obtain ⟨xs, n, _, hx, _, hlen, hg⟩ := DataW.trod_struct hs hf
  have hl : l.length = fs.size := hsz.trans hC
  refine ⟨l, n, rfl, hl, fun j f hj => ?_⟩
  obtain ⟨ho, hk⟩ := hone_of hone j f hj
  have hjl : j < l.length := by rw [hl]; exact (Array.getElem?_eq_some_iff.1 hj).1
  have h1 := hg j f hj
  rw [ho, hk] at h1
  have e : ((Value.agg l.toArray).cells.toList.drop j).take 1 = [l[j]] := by
    show (l.drop j).take 1 = _
    rw [List.drop_eq_getElem_cons hjl]
    rfl
  rw [e] at h1
  have hjx : j < xs.length := by omega
  exact ⟨l[j], xs[j], List.getElem?_eq_getElem hjl, h1.trans (List.getElem?_eq_getElem hjx)⟩
end
theorem cell_lt3 {w : World} {b o : Nat} {v : Value} (h : w.cell? ⟨b, o, none⟩ = some v) : b < w.heap.size := by
  unfold World.cell? at h
  cases hb : w.heap[b]? with
  | none => simp [hb] at h
  | some ob => exact (Array.getElem?_eq_some_iff.1 hb).1
section
variable {H : Type} {enc : TypeId × Value → H} {W : World} {base : Nat} {spare : Nat → Bool} {held : Bool} {r : Reach} {b0 : Nat} {v : Value} {d : DataW H} {p : List MemPlace}
theorem open_breaker (hv : Value.okWide Try.prog W r b0 23 v) (h : DataW.Trod enc Try.prog W base spare held 23 v d p) : ∃ f L S F, v = bkV f L S F := by
  obtain ⟨cs, n, rfl, hl, hf⟩ := open_struct Try.underlying23 (by kernel_rfl) (by kernel_rfl) hv h
  obtain ⟨u0, y0, e0, k0⟩ := hf 0 _ rfl
  obtain ⟨u1, y1, e1, k1⟩ := hf 1 _ rfl
  obtain ⟨u2, y2, e2, k2⟩ := hf 2 _ rfl
  obtain ⟨u3, y3, e3, k3⟩ := hf 3 _ rfl
  match cs, hl with
  | [c0, c1, c2, c3], _ =>
    simp at e0 e1 e2 e3
    subst e0 e1 e2 e3
    obtain ⟨f, g0, -, -⟩ := DataW.trod_int Try.underlying3 k0
    obtain ⟨L, g1, -, -⟩ := DataW.trod_int Try.underlying3 k1
    obtain ⟨S, g2, -, -⟩ := DataW.trod_int Try.underlying3 k2
    obtain ⟨F, g3, -, -⟩ := DataW.trod_int Try.underlying3 k3
    simp at g0 g1 g2 g3
    subst g0 g1 g2 g3
    exact ⟨f, L, S, F, rfl⟩
theorem open_state (hv : Value.okWide Try.prog W r b0 25 v) (h : DataW.Trod enc Try.prog W base spare held 25 v d p) : ∃ x, v = stV x := by
  obtain ⟨cs, n, rfl, hl, hf⟩ := open_struct Try.underlying25 (by kernel_rfl) (by kernel_rfl) hv h
  obtain ⟨u0, y0, e0, k0⟩ := hf 0 _ rfl
  obtain ⟨u1, y1, e1, k1⟩ := hf 1 _ rfl
  match cs, hl with
  | [c0, c1], _ =>
    simp at e0 e1
    subst e0 e1
    obtain ⟨a, g0, -, -⟩ := DataW.trod_int Try.underlying3 k0
    obtain ⟨t, g1, -⟩ := DataW.trod_bool Try.underlying4 k1
    simp at g0 g1
    subst g0 g1
    exact ⟨(a, t), rfl⟩
/-- Small numbers. -/
def smV (a b c d : Nat) : Value := .agg #[.int .u8 (a : Int), .int .u8 (b : Int), .int .u8 (c : Int), .int .u8 (d : Int)]
theorem u8_wf {n : Int} (h : (Lit.int .u8 n).wf = true) : ∃ m : Nat, n = (m : Int) ∧ m ≤ 255 := by
  have h2 : (decide ((0 : Int) ≤ n) && decide (n ≤ 255)) = true := h
  simp only [Bool.and_eq_true, decide_eq_true_eq] at h2
  exact ⟨n.toNat, by omega, by omega⟩
theorem open_small (hv : Value.okWide Try.prog W r b0 44 v) (h : DataW.Trod enc Try.prog W base spare held 44 v d p) : ∃ a b c e : Nat, v = smV a b c e ∧ a ≤ 255 ∧ b ≤ 255 ∧ c ≤ 255 ∧ e ≤ 255 := by
  obtain ⟨cs, n, rfl, hl, hf⟩ := open_struct Try.underlying44 (by kernel_rfl) (by kernel_rfl) hv h
  obtain ⟨u0, y0, e0, k0⟩ := hf 0 _ rfl
  obtain ⟨u1, y1, e1, k1⟩ := hf 1 _ rfl
  obtain ⟨u2, y2, e2, k2⟩ := hf 2 _ rfl
  obtain ⟨u3, y3, e3, k3⟩ := hf 3 _ rfl
  match cs, hl with
  | [c0, c1, c2, c3], _ =>
    simp at e0 e1 e2 e3
    subst e0 e1 e2 e3
    obtain ⟨f, g0, -, w0⟩ := DataW.trod_int Try.underlying5 k0
    obtain ⟨L, g1, -, w1⟩ := DataW.trod_int Try.underlying5 k1
    obtain ⟨S, g2, -, w2⟩ := DataW.trod_int Try.underlying5 k2
    obtain ⟨F, g3, -, w3⟩ := DataW.trod_int Try.underlying5 k3
    simp at g0 g1 g2 g3
    subst g0 g1 g2 g3
    obtain ⟨a, rfl, ha⟩ := u8_wf w0
    obtain ⟨b, rfl, hb⟩ := u8_wf w1
    obtain ⟨c, rfl, hc⟩ := u8_wf w2
    obtain ⟨e, rfl, he⟩ := u8_wf w3
    exact ⟨a, b, c, e, rfl, ha, hb, hc, he⟩
theorem open_i64 (h : DataW.Trod enc Try.prog W base spare held 3 v d p) (hv : Value.okWide Try.prog W r b0 3 v) : ∃ n : Int, v = .int .i64 n := by
  obtain ⟨n, rfl⟩ := okWide_int Try.underlying3 hv
  exact ⟨n, rfl⟩
theorem open_u8 (h : DataW.Trod enc Try.prog W base spare held 5 v d p) (hv : Value.okWide Try.prog W r b0 5 v) : ∃ n : Nat, v = .int .u8 (n : Int) ∧ n ≤ 255 := by
  obtain ⟨m, rfl⟩ := okWide_int Try.underlying5 hv
  obtain ⟨fuel, hf⟩ := h
  obtain ⟨n, g, -, hw⟩ := DataW.trod_int Try.underlying5 (by simpa [Value.cells] using hf)
  simp at g
  subst g
  obtain ⟨a, rfl, ha⟩ := u8_wf hw
  exact ⟨a, rfl, ha⟩
theorem open_loads (h : DataW.Trod enc Try.prog W base spare held 26 v d p) (hv : Value.okWide Try.prog W r b0 26 v) : ∃ l, IntSl W v l := by
  obtain ⟨a0, len0, cap0, rfl⟩ := okWide_slice Try.underlying26 hv
  obtain ⟨fuel, hf⟩ := h
  rcases open_ints Try.underlying26 Try.underlying3 (by kernel_rfl) (by simpa [Value.cells] using hf) with ⟨h0, -⟩ | ⟨a, len, cap, zs, hcs, hb, hl, hm, hz, -, hc, -⟩
  · simp at h0
    obtain ⟨rfl, rfl, rfl⟩ := h0
    exact ⟨[], IntSl.nil _⟩
  · simp at hcs
    obtain ⟨rfl, rfl, rfl⟩ := hcs
    have hlz : len0 ≤ zs.length := by rw [hz]; split <;> omega
    have hlen : (zs.take len0).length = len0 := by simp; omega
    refine ⟨zs.take len0, some a, cap0, by rw [hlen], by rw [hlen]; exact hl, hm, (by intro h; cases h), fun h0 => ?_⟩
    rw [hlen] at h0
    obtain ⟨b, off, spot⟩ := a
    have hc0 := hc 0 (by omega)
    have hsp : spot = none := by simpa [Addr.add] using World.cell?_spot hc0
    subst hsp
    have hadd : ∀ j, (⟨b, off, none⟩ : Addr).add j = ⟨b, off + j, none⟩ := fun j => by unfold Addr.add; split <;> simp_all
    rw [hadd] at hc0
    refine ⟨b, off, rfl, cell_lt3 hc0, fun j x hj => ?_⟩
    have hjl : j < len0 := by
      have := (List.getElem?_eq_some_iff.1 hj).1
      omega
    rw [List.getElem?_take_of_lt hjl] at hj
    have h1 := hc j (by omega)
    rw [hadd, List.getD_eq_getElem?_getD, hj] at h1
    exact h1
/-- Small loads, as a slice. -/
def U8Sl (w : World) (v : Value) (l : List Nat) : Prop :=
  ∃ A c, v = .slice A l.length c ∧ l.length ≤ c ∧ c ≤ maxLen ∧ (A = none → c = 0) ∧ (∀ x ∈ l, x ≤ 255) ∧ (0 < l.length → ∃ b o, A = some ⟨b, o, none⟩ ∧ b < w.heap.size ∧ ∀ (j : Nat) (x : Nat), l[j]? = some x → w.cell? ⟨b, o + j, none⟩ = some (.int .u8 (x : Int)))
theorem open_u8s (h : DataW.Trod enc Try.prog W base spare held 52 v d p) (hv : Value.okWide Try.prog W r b0 52 v) : ∃ l, U8Sl W v l := by
  obtain ⟨a0, len0, cap0, rfl⟩ := okWide_slice Try.underlying52 hv
  obtain ⟨fuel, hf⟩ := h
  rcases open_ints Try.underlying52 Try.underlying5 (by kernel_rfl) (by simpa [Value.cells] using hf) with ⟨h0, -⟩ | ⟨a, len, cap, zs, hcs, hb, hl, hm, hz, -, hc, hwf⟩
  · simp at h0
    obtain ⟨rfl, rfl, rfl⟩ := h0
    exact ⟨[], none, 0, rfl, Nat.le_refl _, Nat.zero_le _, fun _ => rfl, fun x hx => absurd hx List.not_mem_nil, fun h => absurd h (Nat.lt_irrefl _)⟩
  · simp at hcs
    obtain ⟨rfl, rfl, rfl⟩ := hcs
    have hlz : len0 ≤ zs.length := by rw [hz]; split <;> omega
    have hnat : ∀ n ∈ zs, ∃ m : Nat, n = (m : Int) ∧ m ≤ 255 := fun n hn => u8_wf (hwf n hn)
    have hlen : ((zs.take len0).map Int.toNat).length = len0 := by simp; omega
    refine ⟨(zs.take len0).map Int.toNat, some a, cap0, by rw [hlen], by rw [hlen]; exact hl, hm, (by intro h; cases h), fun x hx => ?_, fun h0 => ?_⟩
    · obtain ⟨z, hz1, rfl⟩ := List.mem_map.1 hx
      obtain ⟨m, rfl, hm⟩ := hnat z (List.mem_of_mem_take hz1)
      omega
    · rw [hlen] at h0
      obtain ⟨b, off, spot⟩ := a
      have hc0 := hc 0 (by omega)
      have hsp : spot = none := by simpa [Addr.add] using World.cell?_spot hc0
      subst hsp
      have hadd : ∀ j, (⟨b, off, none⟩ : Addr).add j = ⟨b, off + j, none⟩ := fun j => by unfold Addr.add; split <;> simp_all
      rw [hadd] at hc0
      refine ⟨b, off, rfl, cell_lt3 hc0, fun j x hj => ?_⟩
      rw [List.getElem?_map] at hj
      obtain ⟨z, hz1, rfl⟩ := Option.map_eq_some_iff.1 hj
      have hjl : j < len0 := by
        have := (List.getElem?_eq_some_iff.1 hz1).1
        simp at this
        omega
      rw [List.getElem?_take_of_lt hjl] at hz1
      have h1 := hc j (by omega)
      rw [hadd, List.getD_eq_getElem?_getD, hz1] at h1
      obtain ⟨m, rfl, -⟩ := hnat z (List.mem_of_getElem? hz1)
      exact h1
end
end Go.Proofs.Ytomfaknemjbjcaa
