/-
  DERIVED. Numbers, lists of numbers and parts in memory (stage 6); isUpTo, given.
-/
import Derived.Test.YthghinkicaafmaaAB
import Derived.Test.YthghinkicaafmaaProg
import Derived.WalkKit
import Derived.ProofKit
import Derived.Below
import Derived.BigQuiet
import Derived.Laws.Rows
import Derived.Lib.Hide
namespace Go.Proofs.Ythghinkicaafmaa
open Go.RowKit
set_option maxRecDepth 100000

theorem below_join {B C : Nat} {a w w' : World} (h : Below B a w) (k : Below C w w') (hc : B ≤ C) : Below B a w' := h.trans (k.mono hc)
/-- Numbers, as a slice. -/
def IntSl (w : World) (v : Value) (l : List Int) : Prop :=
  ∃ A c, v = .slice A l.length c ∧ l.length ≤ c ∧ c ≤ maxLen ∧ (A = none → c = 0) ∧ (0 < l.length → ∃ b o, A = some ⟨b, o, none⟩ ∧ b < w.heap.size ∧ ∀ j x, l[j]? = some x → w.cell? ⟨b, o + j, none⟩ = some (.int .i64 x))
theorem IntSl.on {w w' : World} {v : Value} {l : List Int} {B : Nat} (h : IntSl w v l) (hb : Below B w w') (hB : w.heap.size ≤ B) : IntSl w' v l := by
  obtain ⟨A, c, h1, h2, h3, h5, h4⟩ := h
  refine ⟨A, c, h1, h2, h3, h5, fun h0 => ?_⟩
  obtain ⟨b, o, e, hlt, hc⟩ := h4 h0
  exact ⟨b, o, e, Nat.lt_of_lt_of_le hlt hb.size, fun j x hj => (hb.cell (p := ⟨b, o + j, none⟩) (by show b < B; omega)).trans (hc j x hj)⟩
theorem IntSl.nil (w : World) : IntSl w (.slice none 0 0) [] := ⟨none, 0, rfl, Nat.le_refl _, Nat.zero_le _, fun _ => rfl, fun h => absurd h (Nat.lt_irrefl _)⟩
theorem IntSl.shape {w : World} {v : Value} {l : List Int} (h : IntSl w v l) : ∃ A c, v = .slice A l.length c ∧ l.length ≤ c ∧ c ≤ maxLen := by
  obtain ⟨A, c, h1, h2, h3, -⟩ := h
  exact ⟨A, c, h1, h2, h3⟩
theorem IntSl.at_ {w : World} {v : Value} {l : List Int} (h : IntSl w v l) {k : Nat} {x : Int} (hk : l[k]? = some x) : ∃ b o c, v = .slice (some ⟨b, o, none⟩) l.length c ∧ b < w.heap.size ∧ l.length ≤ c ∧ c ≤ maxLen ∧ w.cell? ⟨b, o + k, none⟩ = some (.int .i64 x) := by
  obtain ⟨A, c, h1, h2, h3, -, h4⟩ := h
  obtain ⟨b, o, e, hlt, hc⟩ := h4 (by have := (List.getElem?_eq_some_iff.1 hk).1; omega)
  subst e
  exact ⟨b, o, c, h1, hlt, h2, h3, hc k x hk⟩
/-- Lists of numbers, as a slice of slices. -/
def LiSl (w : World) (v : Value) (ls : List (List Int)) : Prop :=
  ∃ A c, v = .slice A ls.length c ∧ ls.length ≤ c ∧ c ≤ maxLen ∧ (0 < ls.length → ∃ b o, A = some ⟨b, o, none⟩ ∧ b < w.heap.size ∧ ∀ j l, ls[j]? = some l → ∃ u, w.cell? ⟨b, o + j, none⟩ = some u ∧ IntSl w u l)
theorem LiSl.on {w w' : World} {v : Value} {ls : List (List Int)} {B : Nat} (h : LiSl w v ls) (hb : Below B w w') (hB : w.heap.size ≤ B) : LiSl w' v ls := by
  obtain ⟨A, c, h1, h2, h3, h4⟩ := h
  refine ⟨A, c, h1, h2, h3, fun h0 => ?_⟩
  obtain ⟨b, o, e, hlt, hc⟩ := h4 h0
  refine ⟨b, o, e, Nat.lt_of_lt_of_le hlt hb.size, fun j l hj => ?_⟩
  obtain ⟨u, hu, hl⟩ := hc j l hj
  exact ⟨u, (hb.cell (p := ⟨b, o + j, none⟩) (by show b < B; omega)).trans hu, hl.on hb hB⟩
theorem LiSl.shape {w : World} {v : Value} {ls : List (List Int)} (h : LiSl w v ls) : ∃ A c, v = .slice A ls.length c ∧ ls.length ≤ c ∧ c ≤ maxLen := by
  obtain ⟨A, c, h1, h2, h3, -⟩ := h
  exact ⟨A, c, h1, h2, h3⟩
theorem LiSl.at_ {w : World} {v : Value} {ls : List (List Int)} (h : LiSl w v ls) {k : Nat} {l : List Int} (hk : ls[k]? = some l) : ∃ b o c u, v = .slice (some ⟨b, o, none⟩) ls.length c ∧ b < w.heap.size ∧ ls.length ≤ c ∧ c ≤ maxLen ∧ w.cell? ⟨b, o + k, none⟩ = some u ∧ IntSl w u l := by
  obtain ⟨A, c, h1, h2, h3, h4⟩ := h
  obtain ⟨b, o, e, hlt, hc⟩ := h4 (by have := (List.getElem?_eq_some_iff.1 hk).1; omega)
  subst e
  obtain ⟨u, hu, hl⟩ := hc k l hk
  exact ⟨b, o, c, u, h1, hlt, h2, h3, hu, hl⟩
/-- Parts, as a slice. -/
def PtSl (w : World) (v : Value) (l : List (Int × Int × Int)) : Prop :=
  ∃ A c, v = .slice A l.length c ∧ l.length ≤ c ∧ c ≤ maxLen ∧ (0 < l.length → ∃ b o, A = some ⟨b, o, none⟩ ∧ b < w.heap.size ∧ ∀ j p, l[j]? = some p → w.cell? ⟨b, o + j * 3, none⟩ = some (.int .i64 p.1) ∧ w.cell? ⟨b, o + j * 3 + 1, none⟩ = some (.int .i64 p.2.1) ∧ w.cell? ⟨b, o + j * 3 + 2, none⟩ = some (.int .i64 p.2.2))
theorem PtSl.on {w w' : World} {v : Value} {l : List (Int × Int × Int)} {B : Nat} (h : PtSl w v l) (hb : Below B w w') (hB : w.heap.size ≤ B) : PtSl w' v l := by
  obtain ⟨A, c, h1, h2, h3, h4⟩ := h
  refine ⟨A, c, h1, h2, h3, fun h0 => ?_⟩
  obtain ⟨b, o, e, hlt, hc⟩ := h4 h0
  refine ⟨b, o, e, Nat.lt_of_lt_of_le hlt hb.size, fun j p hj => ?_⟩
  obtain ⟨c1, c2, c3⟩ := hc j p hj
  exact ⟨(hb.cell (p := ⟨b, o + j * 3, none⟩) (by show b < B; omega)).trans c1, (hb.cell (p := ⟨b, o + j * 3 + 1, none⟩) (by show b < B; omega)).trans c2, (hb.cell (p := ⟨b, o + j * 3 + 2, none⟩) (by show b < B; omega)).trans c3⟩
theorem PtSl.shape {w : World} {v : Value} {l : List (Int × Int × Int)} (h : PtSl w v l) : ∃ A c, v = .slice A l.length c ∧ l.length ≤ c ∧ c ≤ maxLen := by
  obtain ⟨A, c, h1, h2, h3, -⟩ := h
  exact ⟨A, c, h1, h2, h3⟩
theorem PtSl.at_ {w : World} {v : Value} {l : List (Int × Int × Int)} (h : PtSl w v l) {k : Nat} {p : Int × Int × Int} (hk : l[k]? = some p) : ∃ b o c, v = .slice (some ⟨b, o, none⟩) l.length c ∧ b < w.heap.size ∧ l.length ≤ c ∧ c ≤ maxLen ∧ w.cell? ⟨b, o + k * 3, none⟩ = some (.int .i64 p.1) ∧ w.cell? ⟨b, o + k * 3 + 1, none⟩ = some (.int .i64 p.2.1) ∧ w.cell? ⟨b, o + k * 3 + 2, none⟩ = some (.int .i64 p.2.2) := by
  obtain ⟨A, c, h1, h2, h3, h4⟩ := h
  obtain ⟨b, o, e, hlt, hc⟩ := h4 (by have := (List.getElem?_eq_some_iff.1 hk).1; omega)
  subst e
  exact ⟨b, o, c, h1, hlt, h2, h3, hc k p hk⟩
set_option maxHeartbeats 1000000 in
theorem c_isUpTo (n m : Int) (r : Bool) (hr : (decide (0 ≤ n) && decide (n ≤ m)) = r) (w : World) :
    Calls Try.prog 36 #[.int .i64 n, .int .i64 m] w fun e w' => e = .returned (.bool r) ∧ w = w' := by
  rcases h1 : decide (0 ≤ n) with _ | _
  · rw [h1] at hr
    obtain rfl : false = r := hr
    go_enter Try.func36, Try.ntmps36
    go_wp2
    go_ret
    exact ⟨rfl, rfl⟩
  · rw [h1] at hr
    obtain rfl : decide (n ≤ m) = r := hr
    go_enter Try.func36, Try.ntmps36
    go_wp2
    go_ret
    exact ⟨rfl, rfl⟩
end Go.Proofs.Ythghinkicaafmaa
