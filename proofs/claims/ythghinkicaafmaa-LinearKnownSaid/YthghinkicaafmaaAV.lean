/-
  DERIVED. The iterator of the levels of a line; Course (stage 6).
-/
import Derived.Test.YthghinkicaafmaaAU
import Derived.Test.YthghinkicaafmaaAP
namespace Go.Proofs.Ythghinkicaafmaa
open Go.RowKit Go.Shelf
attribute [local go_sem] Oper.semAt_some
set_option maxRecDepth 100000

/-- What arrivals hands over. -/
def arF (b : Nat) : Value := .func (.func 49) #[] #[.pointer (some ⟨b + 1 + 1, 0, none⟩), .pointer (some ⟨b, 0, none⟩), .pointer (some ⟨b + 1, 0, none⟩)]
structure ArW (C n : Int) (P I : Value) (w w' : World) : Prop where
  bel : Below w.heap.size w w'
  ln : w'.heap[w.heap.size]? = some (.cells #[.int .i64 C, P] 24 (0, 0))
  ip : Boxed w' (w.heap.size + 1) 25 I
  nt : Boxed w' (w.heap.size + 1 + 1) 3 (.int .i64 n)
  size : w'.heap.size = w.heap.size + 3
theorem c_arrivalsW (C : Int) (P I : Value) (n : Int) (w : World) (hI : ∃ A m c, I = .slice A m c) :
    Calls Try.prog 35 #[.agg #[.int .i64 C, P], I, .int .i64 n] w fun e w' => e = .returned (arF w.heap.size) ∧ ArW C n P I w w' :=
  (c_arrivals C P I n w hI).mono fun e w' ⟨h1, h2⟩ => ⟨h1, by
    subst h2
    exact ⟨below_a3 _ _ _ _, old_heap _ (old_heap _ (heap_alloc_new _ _)), old_heap _ (row_new _ _ _ (by simp)), row_new _ _ _ (by simp), by simp⟩⟩
structure LvW (C s : Int) (F : Value) (w w' : World) : Prop where
  bel : Below w.heap.size w w'
  cy : Boxed w' w.heap.size 3 (.int .i64 C)
  st : Boxed w' (w.heap.size + 1) 3 (.int .i64 s)
  fn : Boxed w' (w.heap.size + 1 + 1) 65 F
  size : w'.heap.size = w.heap.size + 3
/-- What levels hands over. -/
def lvF (b : Nat) : Value := .func (.func 48) #[] #[.pointer (some ⟨b + 1, 0, none⟩), .pointer (some ⟨b + 1 + 1, 0, none⟩), .pointer (some ⟨b, 0, none⟩)]
theorem c_levelsW (C s : Int) (f : Fn) (lb : Array Value) (w : World) :
    Calls Try.prog 34 #[.int .i64 C, .int .i64 s, .func f #[] lb] w fun e w' => e = .returned (lvF w.heap.size) ∧ LvW C s (.func f #[] lb) w w' :=
  (c_levels C s f lb w).mono fun e w' ⟨h1, h2⟩ => ⟨h1, by
    subst h2
    exact ⟨below_a3 _ _ _ _, old_heap _ (old_heap _ (heap_alloc_new _ _)), old_heap _ (row_new _ _ _ (by simp)), row_new _ _ _ (by simp), by simp⟩⟩
theorem c_levelsA (C s : Int) (b : Nat) (w : World) :
    Calls Try.prog 34 #[.int .i64 C, .int .i64 s, arF b] w fun e w' => e = .returned (lvF w.heap.size) ∧ LvW C s (arF b) w w' := c_levelsW C s _ _ w
/-- What Values hands over. -/
def vaF (b : Nat) : Value := .func (.func 51) #[] #[.pointer (some ⟨b, 0, none⟩)]
theorem c_levelsV (C s : Int) (b : Nat) (w : World) :
    Calls Try.prog 34 #[.int .i64 C, .int .i64 s, vaF b] w fun e w' => e = .returned (lvF w.heap.size) ∧ LvW C s (vaF b) w w' := c_levelsW C s _ _ w
theorem amts_ok {ps : List (Int × Int × Int)} {ins : List (List Int)} (hp : ps.all ptOk = true) (hl : ps.length ≤ 16) (hi : inOk ins = true) (n : Nat) : ∀ a ∈ amts ps ins n, 0 ≤ a ∧ a ≤ 1600000000000 := by
  intro a ha
  unfold amts at ha
  obtain ⟨t, -, rfl⟩ := List.mem_map.1 ha
  have := arr_bounds hi hp (t : Int)
  omega
theorem eg_ar : ∀ args w, (callFunc 49 args).run Try.prog w = .ok (.enter 49 args) w := enters_of Try.func49 (by kernel_rfl) rfl
theorem eg_lv : ∀ args w, (callFunc 48 args).run Try.prog w = .ok (.enter 48 args) w := enters_of Try.func48 (by kernel_rfl) rfl
theorem eg_va : ∀ args w, (callFunc 51 args).run Try.prog w = .ok (.enter 51 args) w := enters_of Try.func51 (by kernel_rfl) rfl
/-- The levels of a line, as an iterator. -/
theorem lv_seq (Mine : Nat → Prop) {C C0 s : Int} {n : Nat} {ps : List (Int × Int × Int)} {ins : List (List Int)} (hC : 0 ≤ C ∧ C ≤ 100000000) (hs : 0 ≤ s ∧ s ≤ 100000000) (hn : n ≤ 1000) (hp : ps.all ptOk = true) (hl : ps.length ≤ 16) (hi : inOk ins = true) {P I : Value}
    {w0 U wa Z : World} (hP : PtSl w0 P ps) (hI : LiSl w0 I ins) (hM : ∀ k, Mine k → w0.heap.size ≤ k ∧ k < U.heap.size) (hU : Below w0.heap.size w0 U) (ha : ArW C0 (n : Int) P I U wa) (hz : LvW C s (arF U.heap.size) wa Z) :
    SeqIt 7 Try.prog 48 #[.pointer (some ⟨wa.heap.size + 1, 0, none⟩), .pointer (some ⟨wa.heap.size + 1 + 1, 0, none⟩), .pointer (some ⟨wa.heap.size, 0, none⟩)] 3 (fun k => k < Z.heap.size ∧ ¬ Mine k) okL (lvI C 0 s (amts ps ins n)) Z := by
  have hu := hU.size
  have hza := ha.size
  have hzz := hz.size
  have nm : ∀ k, U.heap.size ≤ k → ¬ Mine k := fun k hk h => by have := (hM k h).2; omega
  refine c_levels1 7 (by omega) _ wa.heap.size (wa.heap.size + 1) (wa.heap.size + 1 + 1) C s hC hs 49 _ (amts ps ins n) (by rw [amts_len]; exact hn) (amts_ok hp hl hi n) eg_ar Z (fun k h => h.1) ⟨by omega, nm _ (by omega)⟩ ⟨by omega, nm _ (by omega)⟩ ⟨by omega, nm _ (by omega)⟩ ?_ hz.cy hz.st hz.fn
  exact c_arrivals1 6 (by omega) _ U.heap.size (U.heap.size + 1) (U.heap.size + 1 + 1) C0 ps ins n hn hp hl hi P I w0 hP hI Z (below_join (below_join hU ha.bel hu) hz.bel (by omega)) (fun k hk => ⟨by omega, fun h => by have := (hM k h).1; omega⟩) ⟨by omega, nm _ (by omega)⟩ ⟨by omega, nm _ (by omega)⟩ ⟨by omega, nm _ (by omega)⟩
    ((hz.bel.block _ (by omega)).trans ha.ln) ((hz.bel.block _ (by omega)).trans ha.ip) ((hz.bel.block _ (by omega)).trans ha.nt)
end Go.Proofs.Ythghinkicaafmaa
