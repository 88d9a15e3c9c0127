/-
  DERIVED. Breakers, states and loads in memory; isUpTo, Valid.
-/
import Derived.Test.YtomfaknemjbjcaaBA
import Derived.Test.YtomfaknemjbjcaaProg
import Derived.WalkKit
import Derived.ProofKit
import Derived.Below
import Derived.BigQuiet
import Derived.Laws.Rows
import Derived.Lib.Hide
namespace Go.Proofs.Ytomfaknemjbjcaa
open Go.RowKit
set_option maxRecDepth 100000

/-- A breaker in its box. -/
def Bk (X : World) (b : Nat) (f L S F : Int) : Prop := X.heap[b]? = some (.cells #[.int .i64 f, .int .i64 L, .int .i64 S, .int .i64 F] 23 (0, 0))
/-- A state in its box. -/
def St (X : World) (b : Nat) (h : Int) (t : Bool) : Prop := X.heap[b]? = some (.cells #[.int .i64 h, .bool t] 25 (0, 0))
theorem block_lt {X : World} {b : Nat} {o : Obj} (h : X.heap[b]? = some o) : b < X.heap.size := (Array.getElem?_eq_some_iff.1 h).1
theorem Bk.cells {X : World} {b : Nat} {f L S F : Int} (h : Bk X b f L S F) : X.cell? ⟨b, 0, none⟩ = some (.int .i64 f) ∧ X.cell? ⟨b, 1, none⟩ = some (.int .i64 L) ∧ X.cell? ⟨b, 2, none⟩ = some (.int .i64 S) ∧ X.cell? ⟨b, 3, none⟩ = some (.int .i64 F) := by
  unfold Bk at h; simp [World.cell?, h]
theorem St.cells {X : World} {b : Nat} {h : Int} {t : Bool} (k : St X b h t) : X.cell? ⟨b, 0, none⟩ = some (.int .i64 h) ∧ X.cell? ⟨b, 1, none⟩ = some (.bool t) := by
  unfold St at k; simp [World.cell?, k]
theorem St.frozen {X : World} {b : Nat} {h : Int} {t : Bool} (k : St X b h t) : X.frozen? ⟨b, 0, none⟩ = false ∧ X.frozen? ⟨b, 1, none⟩ = false := by
  unfold St at k; simp [World.frozen?, k]
theorem Bk.on {X Y : World} {B b : Nat} {f L S F : Int} (h : Bk X b f L S F) (hb : Below B X Y) (hB : b < B) : Bk Y b f L S F := (hb.block _ hB).trans h
theorem St.on {X Y : World} {B b : Nat} {h : Int} {t : Bool} (k : St X b h t) (hb : Below B X Y) (hB : b < B) : St Y b h t := (hb.block _ hB).trans k
theorem bk_new (w : World) (f L S F : Int) : Bk (w.alloc (.cells #[.int .i64 f, .int .i64 L, .int .i64 S, .int .i64 F] 23)) w.heap.size f L S F := heap_alloc_new _ _
theorem st_new (w : World) (h : Int) (t : Bool) : St (w.alloc (.cells #[.int .i64 h, .bool t] 25)) w.heap.size h t := heap_alloc_new _ _
theorem old_heap {X : World} {b : Nat} {o : Obj} (o' : Obj) (h : X.heap[b]? = some o) : (X.alloc o').heap[b]? = some o := (Below.heap_alloc _ _ _ (block_lt h)).trans h
theorem below_join {B C : Nat} {a w w' : World} (h : Below B a w) (k : Below C w w') (hc : B ≤ C) : Below B a w' := h.trans (k.mono hc)
/-- The loads l, as a slice. -/
def IntSl (w : World) (v : Value) (l : List Int) : Prop :=
  ∃ A c, v = .slice A l.length c ∧ l.length ≤ c ∧ c ≤ maxLen ∧ (A = none → c = 0) ∧ (0 < l.length → ∃ b o, A = some ⟨b, o, none⟩ ∧ b < w.heap.size ∧ ∀ j x, l[j]? = some x → w.cell? ⟨b, o + j, none⟩ = some (.int .i64 x))
theorem IntSl.on {w w' : World} {v : Value} {l : List Int} {B : Nat} (h : IntSl w v l) (hb : Below B w w') (hB : w.heap.size ≤ B) : IntSl w' v l := by
  obtain ⟨A, c, h1, h2, h3, h5, h4⟩ := h
  refine ⟨A, c, h1, h2, h3, h5, fun h0 => ?_⟩
  obtain ⟨b, o, e, hlt, hc⟩ := h4 h0
  exact ⟨b, o, e, Nat.lt_of_lt_of_le hlt hb.size, fun j x hj => (hb.cell (p := ⟨b, o + j, none⟩) (by show b < B; omega)).trans (hc j x hj)⟩
theorem IntSl.nil (w : World) : IntSl w (.slice none 0 0) [] := ⟨none, 0, rfl, Nat.le_refl _, Nat.zero_le _, fun _ => rfl, fun h => absurd h (Nat.lt_irrefl _)⟩

set_option maxHeartbeats 1000000 in
theorem c_isUpTo (n m : Int) (r : Bool) (hr : (decide (0 ≤ n) && decide (n ≤ m)) = r) (w : World) :
    Calls Try.prog 43 #[.int .i64 n, .int .i64 m] w fun e w' => e = .returned (.bool r) ∧ w = w' := by
  rcases h1 : decide (0 ≤ n) with _ | _
  · rw [h1] at hr
    obtain rfl : false = r := hr
    go_enter Try.func43, Try.ntmps43
    go_wp2
    go_ret
    exact ⟨rfl, rfl⟩
  · rw [h1] at hr
    obtain rfl : decide (n ≤ m) = r := hr
    go_enter Try.func43, Try.ntmps43
    go_wp2
    go_ret
    exact ⟨rfl, rfl⟩
end Go.Proofs.Ytomfaknemjbjcaa
