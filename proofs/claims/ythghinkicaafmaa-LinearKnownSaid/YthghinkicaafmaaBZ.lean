/-
  DERIVED. From a row's claim to the walks: small lines that come in (stage 6).
-/
import Derived.Test.YthghinkicaafmaaBD
import Derived.Test.YthghinkicaafmaaRows
import Derived.Handed
import Derived.OpenShut
import Derived.Deep.Fields
import Derived.ChangeSame
import Derived.ChangeSlices
namespace Go.Proofs.Ythghinkicaafmaa
open Go.ChangeShapes Go.WideShapes Go.Deep Go.RowKit
set_option maxRecDepth 100000

theorem cell_lt3 {w : World} {b o : Nat} {v : Value} (h : w.cell? ⟨b, o, none⟩ = some v) : b < w.heap.size := by
  unfold World.cell? at h
  cases hb : w.heap[b]? with
  | none => simp [hb] at h
  | some ob => exact (Array.getElem?_eq_some_iff.1 hb).1
section
variable {H : Type} {enc : TypeId × Value → H} {W : World} {base : Nat} {spare : Nat → Bool} {held : Bool} {r : Reach} {b0 : Nat} {v : Value} {d : DataW H} {p : List MemPlace}
theorem u8_wf {n : Int} (h : (Lit.int .u8 n).wf = true) : ∃ m : Nat, n = (m : Int) ∧ m ≤ 255 := by
  have h2 : (decide ((0 : Int) ≤ n) && decide (n ≤ 255)) = true := h
  simp only [Bool.and_eq_true, decide_eq_true_eq] at h2
  exact ⟨n.toNat, by omega, by omega⟩
theorem open_u8 (h : DataW.Trod enc Try.prog W base spare held 5 v d p) (hv : Value.okWide Try.prog W r b0 5 v) : ∃ n : Nat, v = .int .u8 (n : Int) ∧ n ≤ 255 := by
  obtain ⟨m, rfl⟩ := okWide_int Try.underlying5 hv
  obtain ⟨fuel, hf⟩ := h
  obtain ⟨n, g, -, hw⟩ := DataW.trod_int Try.underlying5 (by simpa [Value.cells] using hf)
  simp at g
  subst g
  obtain ⟨a, rfl, ha⟩ := u8_wf hw
  exact ⟨a, rfl, ha⟩
theorem open_u8s' {fuel : Nat} {x : DataW H × List MemPlace} (hf : DataW.trod enc Try.prog W base spare held fuel 46 [v] = some x) : ∃ l, U8Sl W v l := by
  rcases open_ints Try.underlying46 Try.underlying5 (by kernel_rfl) hf with ⟨h0, -⟩ | ⟨a, len, cap, zs, hcs, hb, hl, hm, hz, -, hc, hwf⟩
  · simp at h0
    subst h0
    exact ⟨[], none, 0, rfl, Nat.le_refl _, Nat.zero_le _, fun _ => rfl, fun x hx => absurd hx List.not_mem_nil, fun h => absurd h (Nat.lt_irrefl _)⟩
  · simp at hcs
    subst hcs
    have hlz : len ≤ zs.length := by rw [hz]; split <;> omega
    have hnat : ∀ n ∈ zs, ∃ m : Nat, n = (m : Int) ∧ m ≤ 255 := fun n hn => u8_wf (hwf n hn)
    have hlen : ((zs.take len).map Int.toNat).length = len := by simp; omega
    refine ⟨(zs.take len).map Int.toNat, some a, cap, by rw [hlen], by rw [hlen]; exact hl, hm, (by intro h; cases h), fun x hx => ?_, fun h0 => ?_⟩
    · obtain ⟨z, hz1, rfl⟩ := List.mem_map.1 hx
      obtain ⟨m, rfl, hm⟩ := hnat z (List.mem_of_mem_take hz1)
      omega
    · rw [hlen] at h0
      obtain ⟨b, off, spot⟩ := a
      have hc0 := hc 0 (by omega)
      have hsp : spot = none := by simpa [Addr.add] using World.cell?_spot hc0
      subst hsp
      have hadd : ∀ j, (⟨b, off, none⟩ : Addr).add j = ⟨b, off + j, none⟩ := fun j => by unfold Addr.add; split <;> simp_all
      rw [hadd] at hc0
      refine ⟨b, off, rfl, cell_lt3 hc0, fun j x hj => ?_⟩
      rw [List.getElem?_map] at hj
      obtain ⟨z, hz1, rfl⟩ := Option.map_eq_some_iff.1 hj
      have hjl : j < len := by
        have := (List.getElem?_eq_some_iff.1 hz1).1
        simp at this
        omega
      rw [List.getElem?_take_of_lt hjl] at hz1
      have h1 := hc j (by omega)
      rw [hadd, List.getD_eq_getElem?_getD, hz1] at h1
      obtain ⟨m, rfl, -⟩ := hnat z (List.mem_of_getElem? hz1)
      exact h1
theorem cells_u8 : Try.prog.cellsOf 5 = 1 := by kernel_rfl
theorem cells_a2 : Try.prog.cellsOf 45 = 2 := by kernel_rfl
theorem cells_sl : Try.prog.cellsOf 46 = 1 := by kernel_rfl
theorem cells_sm : Try.prog.cellsOf 48 = 9 := by kernel_rfl
theorem open_one {fuel : Nat} {x : DataW H × List MemPlace} {u : Value} (hf : DataW.trod enc Try.prog W base spare held fuel 5 [u] = some x) : ∃ n : Nat, u = .int .u8 (n : Int) ∧ n ≤ 255 := by
  obtain ⟨n, g, -, hw⟩ := DataW.trod_int Try.underlying5 hf
  simp at g
  subst g
  obtain ⟨a, rfl, ha⟩ := u8_wf hw
  exact ⟨a, rfl, ha⟩
theorem open_two {fuel : Nat} {x : DataW H × List MemPlace} {u1 u2 : Value} (hf : DataW.trod enc Try.prog W base spare held fuel 45 [u1, u2] = some x) : ∃ n m : Nat, u1 = .int .u8 (n : Int) ∧ n ≤ 255 ∧ u2 = .int .u8 (m : Int) ∧ m ≤ 255 := by
  obtain ⟨xs, k, -, -, -, hl, hg⟩ := DataW.trod_array Try.underlying45 hf
  have h0 := hg 0 (by omega)
  have h1 := hg 1 (by omega)
  rw [cells_u8] at h0 h1
  rw [List.getElem?_eq_getElem (by omega)] at h0 h1
  obtain ⟨n, hn, hn2⟩ := open_one (u := u1) h0
  obtain ⟨m, hm, hm2⟩ := open_one (u := u2) h1
  exact ⟨n, m, hn, hn2, hm, hm2⟩
theorem open_small (hv : Value.okWide Try.prog W r b0 48 v) (h : DataW.Trod enc Try.prog W base spare held 48 v d p) :
    ∃ (c s n t0 t1 d0 d1 : Nat) (A B : Value) (la lb : List Nat), v = smallV c s n t0 t1 d0 d1 A B ∧ (c ≤ 255 ∧ s ≤ 255 ∧ n ≤ 255 ∧ t0 ≤ 255 ∧ t1 ≤ 255 ∧ d0 ≤ 255 ∧ d1 ≤ 255) ∧ U8Sl W A la ∧ U8Sl W B lb := by
  obtain ⟨⟨l⟩, rfl, hsz⟩ := okWide_struct Try.underlying48 hv
  obtain ⟨fuel, hf⟩ := h
  obtain ⟨xs, k, -, -, -, hl, hg⟩ := DataW.trod_struct Try.underlying48 hf
  have hlen : l.length = 9 := hsz.trans cells_sm
  have hxl : xs.length = 7 := hl
  have g0 : DataW.trod enc Try.prog W base spare held k 5 ((l.drop 0).take (Try.prog.cellsOf 5)) = xs[0]? := hg 0 _ rfl
  have g1 : DataW.trod enc Try.prog W base spare held k 5 ((l.drop 1).take (Try.prog.cellsOf 5)) = xs[1]? := hg 1 _ rfl
  have g2 : DataW.trod enc Try.prog W base spare held k 5 ((l.drop 2).take (Try.prog.cellsOf 5)) = xs[2]? := hg 2 _ rfl
  have g3 : DataW.trod enc Try.prog W base spare held k 45 ((l.drop 3).take (Try.prog.cellsOf 45)) = xs[3]? := hg 3 _ rfl
  have g4 : DataW.trod enc Try.prog W base spare held k 45 ((l.drop 5).take (Try.prog.cellsOf 45)) = xs[4]? := hg 4 _ rfl
  have g5 : DataW.trod enc Try.prog W base spare held k 46 ((l.drop 7).take (Try.prog.cellsOf 46)) = xs[5]? := hg 5 _ rfl
  have g6 : DataW.trod enc Try.prog W base spare held k 46 ((l.drop 8).take (Try.prog.cellsOf 46)) = xs[6]? := hg 6 _ rfl
  rw [List.getElem?_eq_getElem (by omega)] at g0 g1 g2 g3 g4 g5 g6
  rw [cells_u8] at g0 g1 g2
  rw [cells_a2] at g3 g4
  rw [cells_sl] at g5 g6
  match l, hlen with
  | [c0, c1, c2, c3, c4, c5, c6, c7, c8], _ =>
    obtain ⟨c, rfl, hc⟩ := open_one (u := c0) g0
    obtain ⟨s, rfl, hs⟩ := open_one (u := c1) g1
    obtain ⟨n, rfl, hn⟩ := open_one (u := c2) g2
    obtain ⟨t0, t1, rfl, ht0, rfl, ht1⟩ := open_two (u1 := c3) (u2 := c4) g3
    obtain ⟨d0, d1, rfl, hd0, rfl, hd1⟩ := open_two (u1 := c5) (u2 := c6) g4
    obtain ⟨la, hla⟩ := open_u8s' (v := c7) g5
    obtain ⟨lb, hlb⟩ := open_u8s' (v := c8) g6
    exact ⟨c, s, n, t0, t1, d0, d1, c7, c8, la, lb, rfl, ⟨hc, hs, hn, ht0, ht1, hd0, hd1⟩, hla, hlb⟩
theorem open_u8s (h : DataW.Trod enc Try.prog W base spare held 46 v d p) (hv : Value.okWide Try.prog W r b0 46 v) : ∃ l, U8Sl W v l := by
  obtain ⟨a0, len0, cap0, rfl⟩ := okWide_slice Try.underlying46 hv
  obtain ⟨fuel, hf⟩ := h
  rcases open_ints Try.underlying46 Try.underlying5 (by kernel_rfl) (by simpa [Value.cells] using hf) with ⟨h0, -⟩ | ⟨a, len, cap, zs, hcs, hb, hl, hm, hz, -, hc, hwf⟩
  · simp at h0
    obtain ⟨rfl, rfl, rfl⟩ := h0
    exact ⟨[], none, 0, rfl, Nat.le_refl _, Nat.zero_le _, fun _ => rfl, fun x hx => absurd hx List.not_mem_nil, fun h => absurd h (Nat.lt_irrefl _)⟩
  · simp at hcs
    obtain ⟨rfl, rfl, rfl⟩ := hcs
    have hlz : len0 ≤ zs.length := by rw [hz]; split <;> omega
    have hnat : ∀ n ∈ zs, ∃ m : Nat, n = (m : Int) ∧ m ≤ 255 := fun n hn => u8_wf (hwf n hn)
    have hlen : ((zs.take len0).map Int.toNat).length = len0 := by simp; omega
    refine ⟨(zs.take len0).map Int.toNat, some a, cap0, by rw [hlen], by rw [hlen]; exact hl, hm, (by intro h; cases h), fun x hx => ?_, fun h0 => ?_⟩
    · obtain ⟨z, hz1, rfl⟩ := List.mem_map.1 hx
      obtain ⟨m, rfl, hm⟩ := hnat z (List.mem_of_mem_take hz1)
      omega
    · rw [hlen] at h0
      obtain ⟨b, off, spot⟩ := a
      have hc0 := hc 0 (by omega)
      have hsp : spot = none := by simpa [Addr.add] using World.cell?_spot hc0
      subst hsp
      have hadd : ∀ j, (⟨b, off, none⟩ : Addr).add j = ⟨b, off + j, none⟩ := fun j => by unfold Addr.add; split <;> simp_all
      rw [hadd] at hc0
      refine ⟨b, off, rfl, cell_lt3 hc0, fun j x hj => ?_⟩
      rw [List.getElem?_map] at hj
      obtain ⟨z, hz1, rfl⟩ := Option.map_eq_some_iff.1 hj
      have hjl : j < len0 := by
        have := (List.getElem?_eq_some_iff.1 hz1).1
        simp at this
        omega
      rw [List.getElem?_take_of_lt hjl] at hz1
      have h1 := hc j (by omega)
      rw [hadd, List.getD_eq_getElem?_getD, hz1] at h1
      obtain ⟨m, rfl, -⟩ := hnat z (List.mem_of_getElem? hz1)
      exact h1
end
end Go.Proofs.Ythghinkicaafmaa
