/-
  DERIVED. Lists of numbers that a walk makes itself (stage 12).
-/
import Derived.Test.YtplncglgolhfaaaCB
namespace Go.Proofs.Ytplncglgolhfaaa
open Go.RowKit
set_option maxRecDepth 100000
set_option linter.unusedVariables false
set_option linter.unusedSimpArgs false

theorem int_info : (Try.prog.info? 3).map (fun i => (i.zero, i.size, i.bytes)) = some (some (.int .i64 0), 1, 8) := by kernel_rfl
theorem info_parts {P : Program} {T : TypeId} {z : Value} {s b : Nat} (h : (P.info? T).map (fun i => (i.zero, i.size, i.bytes)) = some (some z, s, b)) : ∃ i, P.info? T = some i ∧ i.zero = some z ∧ i.size = s ∧ i.bytes = b := by
  cases hi : P.info? T with
  | none => rw [hi] at h; cases h
  | some i => rw [hi] at h; simp at h; exact ⟨i, rfl, h.1, h.2.1, h.2.2⟩
/-- Numbers as cells. -/
def ints (l : List Int) : List Value := l.map fun x => .int .i64 x
theorem ints_snoc (l : List Int) (x : Int) : ints (l ++ [x]) = ints l ++ [.int .i64 x] := by simp [ints]
def nats (l : List Nat) : List Int := List.map (fun k : Nat => (k : Int)) l
theorem nats_len (l : List Nat) : (nats l).length = l.length := by simp [nats]
theorem ownsRow_lt {X : World} {base : Nat} {e : TypeId} {size n : Nat} {v : Value} {xs : List Value} (h : X.ownsRow base e size v n xs) {g : Nat} (hg : v.ownBlock = some g) : base ≤ g ∧ g < X.heap.size := by
  obtain ⟨k1, ⟨rfl, -⟩ | ⟨g', cap, cur, rfl, k3, k4, k⟩⟩ := h
  · cases hg
  · have hg2 : some g' = some g := hg
    injection hg2 with hg2
    subst hg2
    exact ⟨k3, at_lt k4⟩
theorem own_shape {X : World} {base : Nat} {e : TypeId} {size n : Nat} {v : Value} {xs : List Value} (h : X.ownsRow base e size v n xs) : ∃ A c, v = .slice A n c := by
  obtain ⟨k1, ⟨rfl, h0⟩ | ⟨g, cap, cur, rfl, k⟩⟩ := h
  · subst h0; exact ⟨_, _, rfl⟩
  · exact ⟨_, _, rfl⟩
theorem own_mono {w : World} {base base' : Nat} {e : TypeId} {size : Nat} {v : Value} {n : Nat} {xs : List Value} (h : w.ownsRow base e size v n xs) (hb : base' ≤ base) : w.ownsRow base' e size v n xs := by
  obtain ⟨k1, h | ⟨g, cap, cur, rfl, k3, k4, k⟩⟩ := h
  · exact ⟨k1, .inl h⟩
  · exact ⟨k1, .inr ⟨g, cap, cur, rfl, Nat.le_trans hb k3, k4, k⟩⟩
theorem own_on {X Y : World} {base : Nat} {e : TypeId} {size n B : Nat} {v : Value} {xs : List Value} (h : X.ownsRow base e size v n xs) (hb : Below B X Y) (hB : X.heap.size ≤ B) : Y.ownsRow base e size v n xs := by
  obtain ⟨k1, h | ⟨g, cap, cur, rfl, k3, k4, k⟩⟩ := h
  · exact ⟨k1, .inl h⟩
  · exact ⟨k1, .inr ⟨g, cap, cur, rfl, k3, (hb.block _ (Nat.lt_of_lt_of_le (at_lt k4) hB)).trans k4, k⟩⟩
/-- A list that a walk has made is a list in memory. -/
theorem own_rw {w : World} {base : Nat} {v : Value} {l : List Int} (h : w.ownsRow base 3 1 v l.length (ints l)) : ∃ A c, v = .slice A l.length c ∧ Rw 1 inF w A c l := by
  have hc := h
  obtain ⟨k1, ⟨e, e2⟩ | ⟨g, cap, cur, e, k3, k4, k5, k6, k7, k8⟩⟩ := h
  · subst e
    obtain rfl : l = [] := List.eq_nil_of_length_eq_zero e2
    exact ⟨none, 0, rfl, Rw.nil _ _⟩
  · subst e
    refine ⟨some ⟨g, 0, none⟩, cap, rfl, k5, k6, fun _ => ⟨g, 0, rfl, at_lt k4, fun j x hj i hi => ?_⟩⟩
    obtain rfl : i = 0 := by omega
    have hj' := (List.getElem?_eq_some_iff.1 hj).1
    have := hc.cellAt j (by simp; omega)
    rw [show 0 + j * 1 + 0 = j by omega, this]
    simp [ints, hj, inF]
theorem range_filter {f : Nat → Bool} (k : Nat) : (List.range (k + 1)).filter f = (List.range k).filter f ++ if f k then [k] else [] := by
  rw [List.range_succ, List.filter_append]
  congr 1
  cases h : f k <;> simp [h]
end Go.Proofs.Ytplncglgolhfaaa
