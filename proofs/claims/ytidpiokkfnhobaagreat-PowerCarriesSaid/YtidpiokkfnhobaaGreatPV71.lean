/-
  DERIVED. Several texts in one.
-/
import Derived.Lib.Hide
import Derived.Test.YtidpiokkfnhobaaGreatProg
import Derived.WalkKit
import Derived.ProofKit
import Derived.Below
import Derived.BigQuiet
import Derived.Laws.Rows
set_option linter.unusedVariables false
set_option linter.unusedSimpArgs false

namespace Go.Proofs.YtidpiokkfnhobaaGreat.v7

/-- The curve is valid. -/
def bOk (L S F : Int) : Bool := decide (0 ≤ L) && (decide (L ≤ 1000000) && (decide (0 ≤ S) && (decide (S ≤ 1000000) && (decide (L ≤ F) && decide (F ≤ 1000000)))))
theorem bOk_iff {L S F : Int} : bOk L S F = true ↔ 0 ≤ L ∧ L ≤ 1000000 ∧ 0 ≤ S ∧ S ≤ 1000000 ∧ L ≤ F ∧ F ≤ 1000000 := by
  simp [bOk]
/-- A load is in its range. -/
def wOk (w : Int) : Bool := decide (0 ≤ w) && decide (w ≤ 100000000)
theorem wOk_iff {w : Int} : wOk w = true ↔ 0 ≤ w ∧ w ≤ 100000000 := by simp [wOk]
def lsOk (l : List Int) : Bool := decide (l.length ≤ 1000) && l.all wOk
/-- The state after a tick. -/
def nx (L S F : Int) (x : Int × Bool) (w : Int) : Int × Bool :=
  if x.2 = true then x else (min (max 0 (x.1 + w - L)) 100000000, decide (F < w) || decide (S < max 0 (x.1 + w - L)))
theorem nx_live {L S F h w : Int} : nx L S F (h, false) w = (min (max 0 (h + w - L)) 100000000, decide (F < w) || decide (S < max 0 (h + w - L))) := rfl
/-- In how many ticks a load is borne. -/
def lst (L S F h w : Int) : Int := if w ≤ L then -1 else if F < w then 0 else (S - h) / (w - L)
theorem ediv_eq {a d k : Int} (hd : 0 < d) (h1 : k * d ≤ a) (h2 : a < (k + 1) * d) : a / d = k := by
  have h3 : k ≤ a / d := Int.le_ediv_of_mul_le hd h1
  have h4 : a / d < k + 1 := Int.ediv_lt_of_lt_mul hd h2
  omega
/-- Tick after tick with the same load: as long as it is borne the heat is the sum. -/
theorem nx_rise {L S F h w : Int} (hS : S ≤ 1000000) (h0 : 0 ≤ h) (hw : L < w) (hF : w ≤ F) (n : Int) (hn : 0 ≤ n) (hle : h + (n + 1) * (w - L) ≤ S) :
    nx L S F (h + n * (w - L), false) w = (h + (n + 1) * (w - L), false) := by
  have e : h + n * (w - L) + w - L = h + (n + 1) * (w - L) := by rw [Int.add_mul]; omega
  have p : 0 ≤ (n + 1) * (w - L) := Int.mul_nonneg (by omega) (by omega)
  rw [nx_live, e]
  generalize (n + 1) * (w - L) = z at *
  rw [show max 0 (h + z) = h + z by omega, show min (h + z) 100000000 = h + z by omega, decide_eq_false (by omega), decide_eq_false (by omega)]
  rfl
theorem nx_trips {L S F h w : Int} (n : Int) (hle : F < w ∨ S < h + (n + 1) * (w - L)) :
    (nx L S F (h + n * (w - L), false) w).2 = true := by
  have e : h + n * (w - L) + w - L = h + (n + 1) * (w - L) := by rw [Int.add_mul]; omega
  rw [nx_live, e]
  rcases hle with g | g
  · simp [g]
  · simp only [Bool.or_eq_true, decide_eq_true_eq]
    right; omega
theorem lst_steps {L S F h w n : Int} (hw : L < w) (hF : w ≤ F) (h1 : h + n * (w - L) ≤ S) (h2 : S < h + (n + 1) * (w - L)) : lst L S F h w = n := by
  unfold lst
  rw [if_neg (by omega), if_neg (by omega)]
  exact ediv_eq (by omega) (by omega) (by omega)
end Go.Proofs.YtidpiokkfnhobaaGreat.v7

namespace Go.Proofs.YtidpiokkfnhobaaGreat.v7
open Go.RowKit
set_option maxRecDepth 100000

/-- A breaker in its box. -/
def Bk (X : World) (b : Nat) (f L S F : Int) : Prop := X.heap[b]? = some (.cells #[.int .i64 f, .int .i64 L, .int .i64 S, .int .i64 F] 48 (0, 0))
/-- A state in its box. -/
def St (X : World) (b : Nat) (h : Int) (t : Bool) : Prop := X.heap[b]? = some (.cells #[.int .i64 h, .bool t] 105 (0, 0))
theorem block_lt {X : World} {b : Nat} {o : Obj} (h : X.heap[b]? = some o) : b < X.heap.size := (Array.getElem?_eq_some_iff.1 h).1
theorem Bk.cells {X : World} {b : Nat} {f L S F : Int} (h : Bk X b f L S F) : X.cell? ⟨b, 0, none⟩ = some (.int .i64 f) ∧ X.cell? ⟨b, 1, none⟩ = some (.int .i64 L) ∧ X.cell? ⟨b, 2, none⟩ = some (.int .i64 S) ∧ X.cell? ⟨b, 3, none⟩ = some (.int .i64 F) := by
  unfold Bk at h; simp [World.cell?, h]
theorem St.cells {X : World} {b : Nat} {h : Int} {t : Bool} (k : St X b h t) : X.cell? ⟨b, 0, none⟩ = some (.int .i64 h) ∧ X.cell? ⟨b, 1, none⟩ = some (.bool t) := by
  unfold St at k; simp [World.cell?, k]
theorem St.frozen {X : World} {b : Nat} {h : Int} {t : Bool} (k : St X b h t) : X.frozen? ⟨b, 0, none⟩ = false ∧ X.frozen? ⟨b, 1, none⟩ = false := by
  unfold St at k; simp [World.frozen?, k]
theorem Bk.on {X Y : World} {B b : Nat} {f L S F : Int} (h : Bk X b f L S F) (hb : Below B X Y) (hB : b < B) : Bk Y b f L S F := (hb.block _ hB).trans h
theorem St.on {X Y : World} {B b : Nat} {h : Int} {t : Bool} (k : St X b h t) (hb : Below B X Y) (hB : b < B) : St Y b h t := (hb.block _ hB).trans k
theorem bk_new (w : World) (f L S F : Int) : Bk (w.alloc (.cells #[.int .i64 f, .int .i64 L, .int .i64 S, .int .i64 F] 48)) w.heap.size f L S F := heap_alloc_new _ _
theorem st_new (w : World) (h : Int) (t : Bool) : St (w.alloc (.cells #[.int .i64 h, .bool t] 105)) w.heap.size h t := heap_alloc_new _ _
theorem old_heap {X : World} {b : Nat} {o : Obj} (o' : Obj) (h : X.heap[b]? = some o) : (X.alloc o').heap[b]? = some o := (Below.heap_alloc _ _ _ (block_lt h)).trans h
theorem below_join {B C : Nat} {a w w' : World} (h : Below B a w) (k : Below C w w') (hc : B ≤ C) : Below B a w' := h.trans (k.mono hc)
/-- The loads l, as a slice. -/
def IntSl (w : World) (v : Value) (l : List Int) : Prop :=
  ∃ A c, v = .slice A l.length c ∧ l.length ≤ c ∧ c ≤ maxLen ∧ (A = none → c = 0) ∧ (0 < l.length → ∃ b o, A = some ⟨b, o, none⟩ ∧ b < w.heap.size ∧ ∀ j x, l[j]? = some x → w.cell? ⟨b, o + j, none⟩ = some (.int .i64 x))
theorem IntSl.on {w w' : World} {v : Value} {l : List Int} {B : Nat} (h : IntSl w v l) (hb : Below B w w') (hB : w.heap.size ≤ B) : IntSl w' v l := by
  obtain ⟨A, c, h1, h2, h3, h5, h4⟩ := h
  refine ⟨A, c, h1, h2, h3, h5, fun h0 => ?_⟩
  obtain ⟨b, o, e, hlt, hc⟩ := h4 h0
  exact ⟨b, o, e, Nat.lt_of_lt_of_le hlt hb.size, fun j x hj => (hb.cell (p := ⟨b, o + j, none⟩) (by show b < B; omega)).trans (hc j x hj)⟩
theorem IntSl.nil (w : World) : IntSl w (.slice none 0 0) [] := ⟨none, 0, rfl, Nat.le_refl _, Nat.zero_le _, fun _ => rfl, fun h => absurd h (Nat.lt_irrefl _)⟩

set_option maxHeartbeats 1000000 in
theorem c_isUpTo (n m : Int) (r : Bool) (hr : (decide (0 ≤ n) && decide (n ≤ m)) = r) (w : World) :
    Calls Tryz.prog 96 #[.int .i64 n, .int .i64 m] w fun e w' => e = .returned (.bool r) ∧ w = w' := by
  rcases h1 : decide (0 ≤ n) with _ | _
  · rw [h1] at hr
    obtain rfl : false = r := hr
    go_enter Tryz.func96, Tryz.ntmps96
    go_wp2
    go_ret
    exact ⟨rfl, rfl⟩
  · rw [h1] at hr
    obtain rfl : decide (n ≤ m) = r := hr
    go_enter Tryz.func96, Tryz.ntmps96
    go_wp2
    go_ret
    exact ⟨rfl, rfl⟩
end Go.Proofs.YtidpiokkfnhobaaGreat.v7

namespace Go.Proofs.YtidpiokkfnhobaaGreat.v7
open Go.RowKit
set_option maxRecDepth 100000

def bkV (f L S F : Int) : Value := .agg #[.int .i64 f, .int .i64 L, .int .i64 S, .int .i64 F]
def stV (x : Int × Bool) : Value := .agg #[.int .i64 x.1, .bool x.2]

set_option maxHeartbeats 4000000 in
theorem c_Valid (f L S F : Int) (r : Bool) (hr : bOk L S F = r) (w : World) :
    Calls Tryz.prog 95 #[bkV f L S F] w fun e w' => e = .returned (.bool r) ∧ Below w.heap.size w w' := by
  unfold bkV
  obtain ⟨W, hW⟩ : ∃ W, W = w.alloc (.cells #[.int .i64 f, .int .i64 L, .int .i64 S, .int .i64 F] 48) := ⟨_, rfl⟩
  have B0 : Below w.heap.size w W := by subst hW; exact (Below.refl _ _).alloc (Nat.le_refl _) _
  have HB := Lib.hid B0
  have HK := Lib.hid (show Bk W w.heap.size f L S F by subst hW; exact bk_new _ _ _ _ _)
  obtain ⟨x0, x1, x2, x3⟩ := HK.out.cells
  clear B0
  have HR := Lib.hid (show ((decide (0 ≤ L) && decide (L ≤ 1000000)) && ((decide (0 ≤ S) && decide (S ≤ 1000000)) && (decide (L ≤ F) && decide (F ≤ 1000000)))) = r by rw [← hr]; unfold bOk; simp only [Bool.and_assoc])
  clear hr
  rcases h1 : (decide (0 ≤ L) && decide (L ≤ 1000000)) with _ | _
  · have H1 := Lib.hid h1
    obtain rfl : false = r := by rw [← HR.out, h1]; rfl
    clear h1
    go_enter Tryz.func95, Tryz.ntmps95
    go_wp2_with (fail)
    rw [← hW]
    clear hW
    go_at_call 96
    refine (c_isUpTo _ _ _ H1.out _).mono ?_
    rintro e w1 ⟨rfl, rfl⟩
    go_wp2_with (fail)
    go_ret
    exact ⟨rfl, HB.out⟩
  · have H1 := Lib.hid h1
    rcases h2 : (decide (0 ≤ S) && decide (S ≤ 1000000)) with _ | _
    · have H2 := Lib.hid h2
      obtain rfl : false = r := by rw [← HR.out, h1, h2]; rfl
      clear h1 h2
      go_enter Tryz.func95, Tryz.ntmps95
      go_wp2_with (fail)
      rw [← hW]
      clear hW
      go_at_call 96
      refine (c_isUpTo _ _ _ H1.out _).mono ?_
      rintro e w1 ⟨rfl, rfl⟩
      go_wp2_with (fail)
      go_at_call 96
      refine (c_isUpTo _ _ _ H2.out _).mono ?_
      rintro e w2 ⟨rfl, rfl⟩
      go_wp2_with (fail)
      go_ret
      exact ⟨rfl, HB.out⟩
    · have H2 := Lib.hid h2
      rcases h3 : decide (L ≤ F) with _ | _
      · obtain rfl : false = r := by rw [← HR.out, h1, h2, h3]; rfl
        clear h1 h2
        go_enter Tryz.func95, Tryz.ntmps95
        go_wp2_with (fail)
        rw [← hW]
        clear hW
        go_at_call 96
        refine (c_isUpTo _ _ _ H1.out _).mono ?_
        rintro e w1 ⟨rfl, rfl⟩
        go_wp2_with (fail)
        go_at_call 96
        refine (c_isUpTo _ _ _ H2.out _).mono ?_
        rintro e w2 ⟨rfl, rfl⟩
        go_wp2_with (fail)
        go_ret
        exact ⟨rfl, HB.out⟩
      · obtain rfl : decide (F ≤ 1000000) = r := by rw [← HR.out, h1, h2, h3]; rfl
        clear h1 h2
        go_enter Tryz.func95, Tryz.ntmps95
        go_wp2_with (fail)
        rw [← hW]
        clear hW
        go_at_call 96
        refine (c_isUpTo _ _ _ H1.out _).mono ?_
        rintro e w1 ⟨rfl, rfl⟩
        go_wp2_with (fail)
        go_at_call 96
        refine (c_isUpTo _ _ _ H2.out _).mono ?_
        rintro e w2 ⟨rfl, rfl⟩
        go_wp2_with (fail)
        go_ret
        exact ⟨rfl, HB.out⟩
end Go.Proofs.YtidpiokkfnhobaaGreat.v7

namespace Go.Proofs.YtidpiokkfnhobaaGreat.v7
open Go.RowKit
set_option maxRecDepth 100000

theorem two_cells {W : World} {b : Nat} {x0 x1 : Value} {T : TypeId} (h : W.heap[b]? = some (.cells #[x0, x1] T (0, 0))) : W.cell? ⟨b, 0, none⟩ = some x0 ∧ W.cell? ⟨b, 1, none⟩ = some x1 := by simp [World.cell?, h]
theorem row_set2 {W : World} {b i : Nat} {xs : Array Value} {T : TypeId} (h : W.heap[b]? = some (.cells xs T (0, 0))) (v : Value) : (W.setCell ⟨b, i, none⟩ v).heap[b]? = some (.cells (xs.setIfInBounds i v) T (0, 0)) := by
  simp only [World.setCell, Array.getElem?_modify, if_pos trivial, h]
  simp
theorem row_store2 {W : World} {b : Nat} {y0 y1 : Value} {T : TypeId} (h : W.heap[b]? = some (.cells #[y0, y1] T (0, 0))) (x0 x1 : Value) : ((W.setCell ⟨b, 0, none⟩ x0).setCell ⟨b, 1, none⟩ x1).heap[b]? = some (.cells #[x0, x1] T (0, 0)) :=
  row_set2 (row_set2 h x0) x1
theorem ret2 {fn : Func} {a : Act} {W : World} {R : Ending → World → Prop} {b i : Nat} {x0 x1 : Value} (hfn : fn.results = #[.cell i 105]) (hp : a.tmps[i]?.getD undef = .pointer (some ⟨b, 0, none⟩)) (hd : a.defers = [])
    (h : W.heap[b]? = some (.cells #[x0, x1] 105 (0, 0))) (hR : R (.returned (.agg #[x0, x1])) W) : bodyPost Tryz.prog fn R .ret a W := by
  obtain ⟨c0, c1⟩ := two_cells h
  exact bodyPost_ret (v := .agg #[x0, x1]) (by simp [results, hfn, hp, go_sem, c0, c1]) hd hR
theorem below_store2 {W X : World} {B b : Nat} (h : Below B W X) (hb : B ≤ b) (x0 x1 : Value) : Below B W ((X.setCell ⟨b, 0, none⟩ x0).setCell ⟨b, 1, none⟩ x1) :=
  (h.setCell hb _).setCell hb _

theorem row_new4 (W : World) (o : Obj) (b : Nat) (hb : b = W.heap.size) : (W.alloc o).heap[b]? = some o := by subst hb; exact heap_alloc_new W o
theorem below_a2 (w : World) (o o' : Obj) : Below w.heap.size w ((w.alloc o).alloc o') := ((Below.refl _ _).alloc (Nat.le_refl _) _).alloc (by simp) _
theorem below_a3 (w : World) (o o' o'' : Obj) : Below w.heap.size w (((w.alloc o).alloc o').alloc o'') := (below_a2 w o o').alloc (by simp; omega) _
theorem ret_eq {a b : Int} {s t : Bool} (h1 : a = b) (h2 : s = t) : Ending.returned (.agg #[.int .i64 a, .bool s]) = .returned (.agg #[.int .i64 b, .bool t]) := by rw [h1, h2]
set_option maxHeartbeats 4000000 in
theorem c_lastingX (f L S F q p : Int) (hb : 0 ≤ L ∧ L ≤ 1000000 ∧ 0 ≤ q ∧ q ≤ S ∧ S ≤ 1000000 ∧ 0 ≤ p ∧ p ≤ 100000000) (r : Int) (hr : lst L S F q p = r) (w : World) :
    Calls Tryz.prog 62 #[bkV f L S F, .int .i64 q, .int .i64 p] w fun e w' => e = .returned (.int .i64 r) ∧ ∃ o, w' = w.alloc o := by
  unfold bkV
  obtain ⟨b1, b2, b3, b4, b5, b6, b7⟩ := hb
  unfold lst at hr
  by_cases h1 : p ≤ L
  · rw [if_pos h1] at hr
    subst hr
    go_enter Tryz.func62, Tryz.ntmps62
    go_wp2
    go_ret
    exact ⟨rfl, _, rfl⟩
  · rw [if_neg h1] at hr
    by_cases h2 : F < p
    · rw [if_pos h2] at hr
      subst hr
      go_enter Tryz.func62, Tryz.ntmps62
      go_wp2
      go_ret
      exact ⟨rfl, _, rfl⟩
    · rw [if_neg h2] at hr
      have q0 : 0 ≤ (S - q) / (p - L) := Int.ediv_nonneg (by omega) (by omega)
      have q1 : (S - q) / (p - L) ≤ S - q := Int.ediv_le_self _ (by omega)
      have q2 : (S - q).tdiv (p - L) = r := by rw [← hr]; exact Int.tdiv_eq_ediv_of_nonneg (by omega)
      have hne : ((p - L) == 0) = false := by rw [beq_eq_false_iff_ne]; omega
      go_enter Tryz.func62, Tryz.ntmps62
      go_wp2
      go_ret
      exact ⟨rfl, _, rfl⟩
theorem c_lasting (f L S F q p : Int) (hb : 0 ≤ L ∧ L ≤ 1000000 ∧ 0 ≤ q ∧ q ≤ S ∧ S ≤ 1000000 ∧ 0 ≤ p ∧ p ≤ 100000000) (r : Int) (hr : lst L S F q p = r) (w : World) :
    Calls Tryz.prog 62 #[bkV f L S F, .int .i64 q, .int .i64 p] w fun e w' => e = .returned (.int .i64 r) ∧ Below w.heap.size w w' :=
  (c_lastingX f L S F q p hb r hr w).mono fun _ _ ⟨h1, o, h2⟩ => ⟨h1, by subst h2; exact (Below.refl _ _).alloc (Nat.le_refl _) _⟩
end Go.Proofs.YtidpiokkfnhobaaGreat.v7

namespace Go.Proofs.YtidpiokkfnhobaaGreat.v7
open Go.RowKit
set_option maxRecDepth 100000

theorem IntSl.at_ {w : World} {v : Value} {l : List Int} (h : IntSl w v l) {k : Nat} {x : Int} (hk : l[k]? = some x) : ∃ b o c, v = .slice (some ⟨b, o, none⟩) l.length c ∧ b < w.heap.size ∧ l.length ≤ c ∧ c ≤ maxLen ∧ w.cell? ⟨b, o + k, none⟩ = some (.int .i64 x) := by
  obtain ⟨A, c, h1, h2, h3, -, h4⟩ := h
  have hl := (List.getElem?_eq_some_iff.1 hk).1
  obtain ⟨b, o, rfl, hlt, hc⟩ := h4 (by omega)
  exact ⟨b, o, c, h1, hlt, h2, h3, hc k x hk⟩
theorem IntSl.shape {w : World} {v : Value} {l : List Int} (h : IntSl w v l) : ∃ A c, v = .slice A l.length c ∧ l.length ≤ c ∧ c ≤ maxLen := by
  obtain ⟨A, c, h1, h2, h3, -⟩ := h
  exact ⟨A, c, h1, h2, h3⟩
theorem all_true {l : List Int} {p : Int → Bool} (h : ∀ i x, i < l.length → l[i]? = some x → p x = true) : l.all p = true := by
  rw [List.all_eq_true]
  intro x hx
  obtain ⟨i, hi, rfl⟩ := List.getElem_of_mem hx
  exact h i _ hi (List.getElem?_eq_getElem hi)
theorem all_false {l : List Int} {p : Int → Bool} {i : Nat} {x : Int} (h : l[i]? = some x) (hp : p x = false) : l.all p = false := by
  rw [Bool.eq_false_iff]
  intro h2
  rw [List.all_eq_true] at h2
  have := h2 x (List.mem_of_getElem? h)
  rw [hp] at this
  cases this
set_option maxHeartbeats 4000000 in
theorem c_areLoads (l : List Int) (r : Bool) (hr : lsOk l = r) (v : Value) (w : World) (hv : IntSl w v l) :
    Calls Tryz.prog 97 #[v] w fun e w' => e = .returned (.bool r) ∧ w = w' := by
  have HV := Lib.hid hv
  obtain ⟨A, c, rfl, hc1, hc2⟩ := hv.shape
  unfold maxLen at hc2
  clear hv
  unfold lsOk at hr
  by_cases h1 : l.length ≤ 1000
  · have HR := Lib.hid (show l.all wOk = r by rw [decide_eq_true h1, Bool.true_and] at hr; exact hr)
    clear hr
    go_enter Tryz.func97, Tryz.ntmps97
    go_wp2_with (fail)
    go_loop [10] (fun n => ∃ k : Nat, k ≤ l.length ∧ n = .int .i64 k ∧ Hid (∀ i x, i < k → l[i]? = some x → wOk x = true)) (fun n => l.length - (intOf n).toNat)
    case atStart => exact ⟨0, Nat.zero_le _, rfl, Lib.hid (fun i x hi => absurd hi (by omega))⟩
    case round =>
      obtain ⟨k, hk, rfl, hz⟩ := hrel
      by_cases hlt : k < l.length
      · obtain ⟨x, hx⟩ : ∃ x, l[k]? = some x := ⟨_, List.getElem?_eq_getElem hlt⟩
        obtain ⟨b, o, c', e, -, -, -, hc⟩ := HV.out.at_ hx
        injection e with e1 _ e2
        subst e1 e2
        have HX := Lib.hid hx
        clear hx
        have hki : ((k : Nat) : Int).toNat = k := by omega
        rcases hw : wOk x with _ | _
        · have HW := Lib.hid (show (decide (0 ≤ x) && decide (x ≤ 100000000)) = false from hw)
          have hrr : r = false := by rw [← HR.out]; exact all_false HX.out hw
          subst hrr
          clear hw
          go_wp2_with (fail)
          go_at_call 96
          refine (c_isUpTo _ _ _ HW.out _).mono ?_
          rintro e w1 ⟨rfl, rfl⟩
          go_wp2_with (fail)
          go_ret
          exact ⟨rfl, rfl⟩
        · have HW := Lib.hid (show (decide (0 ≤ x) && decide (x ≤ 100000000)) = true from hw)
          clear hw
          go_wp2_with (fail)
          go_at_call 96
          refine (c_isUpTo _ _ _ HW.out _).mono ?_
          rintro e w1 ⟨rfl, rfl⟩
          go_wp2_with (fail)
          go_round
          case rel => exact ⟨k + 1, by omega, by go_num, Lib.hid (fun i y hi hy => by
            rcases Nat.lt_or_ge i k with h | h
            · exact hz.out i y h hy
            · obtain rfl : i = k := by omega
              have := HX.out
              rw [hy] at this
              cases this
              exact HW.out)⟩
          case measure => simp [intOf]; omega
      · obtain rfl : k = l.length := by omega
        have hrr : r = true := by rw [← HR.out]; exact all_true hz.out
        subst hrr
        go_wp2_with (fail)
        go_ret
        exact ⟨rfl, rfl⟩
  · have hrr : r = false := by rw [← hr, decide_eq_false h1, Bool.false_and]
    have h1' : (1000 : Int) < (l.length : Nat) := by omega
    subst hrr
    clear hr
    go_enter Tryz.func97, Tryz.ntmps97
    go_wp2_with (fail)
    go_ret
    exact ⟨rfl, rfl⟩
end Go.Proofs.YtidpiokkfnhobaaGreat.v7

namespace Go.Proofs.YtidpiokkfnhobaaGreat.v7
open Go.RowKit
set_option maxRecDepth 100000

theorem retTT {fn : Func} {a : Act} {W : World} {R : Ending → World → Prop} {i j : Nat} {x y : Value} (hfn : fn.results = #[.tmp i, .tmp j]) (hi : a.tmps[i]?.getD undef = x) (hj : a.tmps[j]?.getD undef = y) (hd : a.defers = [])
    (hR : R (.returned (.tuple #[x, y])) W) : bodyPost Tryz.prog fn R .ret a W :=
  bodyPost_ret (v := .tuple #[x, y]) (by simp [results, hfn, hi, hj, go_sem]) hd hR
theorem one_cell {W : World} {b : Nat} {x0 : Value} {T : TypeId} (h : W.heap[b]? = some (.cells #[x0] T (0, 0))) : W.cell? ⟨b, 0, none⟩ = some x0 := by simp [World.cell?, h]
theorem intSl_one (w : World) (p : Int) : IntSl (w.alloc (.cells #[.int .i64 p] 3)) (.slice (some ⟨w.heap.size, 0, none⟩) 1 1) [p] := by
  refine ⟨some ⟨w.heap.size, 0, none⟩, 1, rfl, Nat.le_refl _, by unfold maxLen; omega, (by intro h; cases h), fun _ => ⟨w.heap.size, 0, rfl, by simp, fun j x hj => ?_⟩⟩
  have h := heap_alloc_new w (.cells #[.int .i64 p] 3)
  match j, hj with
  | 0, hj => simp at hj; subst hj; exact one_cell h
/-- faultOfHeat's answer. -/
def fltH (L S F h : Int) (l : List Int) : Int := if bOk L S F = true then (if ((decide (0 ≤ h) && decide (h ≤ S)) && lsOk l) = true then 0 else 2) else 1
set_option maxHeartbeats 4000000 in
theorem c_faultOfHeat (f L S F h : Int) (l : List Int) (r : Int) (hr : fltH L S F h l = r) (v : Value) (w : World) (hv : IntSl w v l) :
    Calls Tryz.prog 61 #[bkV f L S F, .int .i64 h, v] w fun e w' => e = .returned (.int .i64 r) ∧ Below w.heap.size w w' := by
  obtain ⟨W, hW⟩ : ∃ W, W = w.alloc (.cells #[.int .i64 f, .int .i64 L, .int .i64 S, .int .i64 F] 48) := ⟨_, rfl⟩
  have B0 : Below w.heap.size w W := by subst hW; exact (Below.refl _ _).alloc (Nat.le_refl _) _
  have HB := Lib.hid B0
  have HK := Lib.hid (show Bk W w.heap.size f L S F by subst hW; exact bk_new _ _ _ _ _)
  have HC := Lib.hid (fun (r1 : Bool) (h1 : bOk L S F = r1) => c_Valid f L S F r1 h1 W)
  have hz : w.heap.size < W.heap.size := block_lt HK.out
  unfold bkV
  unfold bkV at HC
  obtain ⟨A, c, rfl, hc1, hc2⟩ := hv.shape
  have HV := Lib.hid hv
  obtain ⟨x0, x1, x2, x3⟩ := HK.out.cells
  clear B0 hv
  unfold fltH at hr
  rcases h1 : bOk L S F with _ | _
  · have H1 := Lib.hid h1
    rw [h1, if_neg (by decide)] at hr
    subst hr
    clear h1
    go_enter Tryz.func61, Tryz.ntmps61
    go_wp2_with (fail)
    rw [← hW]
    clear hW
    go_at_call 95
    refine (HC.out _ H1.out).mono ?_
    rintro e w1 ⟨rfl, b1⟩
    have HB1 := Lib.hid (below_join HB.out b1 HB.out.size)
    clear b1 x0 x1 x2 x3
    go_wp2_with (fail)
    go_ret
    exact ⟨rfl, HB1.out⟩
  · have H1 := Lib.hid h1
    rw [h1, if_pos rfl] at hr
    rcases h2 : (decide (0 ≤ h) && decide (h ≤ S)) with _ | _
    · have H2 := Lib.hid h2
      rw [h2, Bool.false_and, if_neg (by decide)] at hr
      subst hr
      clear h1 h2
      go_enter Tryz.func61, Tryz.ntmps61
      go_wp2_with (fail)
      rw [← hW]
      clear hW
      go_at_call 95
      refine (HC.out _ H1.out).mono ?_
      rintro e w1 ⟨rfl, b1⟩
      have HB1 := Lib.hid (below_join HB.out b1 HB.out.size)
      have HK1 := Lib.hid (HK.out.on b1 (by omega))
      clear b1 x0 x1 x2 x3
      obtain ⟨x0, x1, x2, x3⟩ := HK1.out.cells
      go_wp2_with (fail)
      go_at_call 96
      refine (c_isUpTo _ _ _ H2.out _).mono ?_
      rintro e w2 ⟨rfl, rfl⟩
      go_wp2_with (fail)
      go_ret
      exact ⟨rfl, HB1.out⟩
    · have H2 := Lib.hid h2
      rw [h2, Bool.true_and] at hr
      clear h1 h2
      rcases h3 : lsOk l with _ | _
      all_goals
        have H3 := Lib.hid h3
        rw [h3] at hr
        simp only [if_true, Bool.false_eq_true, if_false] at hr
        subst hr
        clear h3
        go_enter Tryz.func61, Tryz.ntmps61
        go_wp2_with (fail)
        rw [← hW]
        clear hW
        go_at_call 95
        refine (HC.out _ H1.out).mono ?_
        rintro e w1 ⟨rfl, b1⟩
        have HB1 := Lib.hid (below_join HB.out b1 HB.out.size)
        have HK1 := Lib.hid (HK.out.on b1 (by omega))
        have HL1 := Lib.hid (c_areLoads l _ H3.out _ w1 (HV.out.on HB1.out (Nat.le_refl _)))
        clear b1 x0 x1 x2 x3
        obtain ⟨x0, x1, x2, x3⟩ := HK1.out.cells
        go_wp2_with (fail)
        go_at_call 96
        refine (c_isUpTo _ _ _ H2.out _).mono ?_
        rintro e w2 ⟨rfl, rfl⟩
        go_wp2_with (fail)
        go_at_call 97
        refine HL1.out.mono ?_
        rintro e w3 ⟨rfl, rfl⟩
        go_wp2_with (fail)
        go_ret
        exact ⟨rfl, HB1.out⟩
theorem fltH_zero {L S F h : Int} {l : List Int} (hz : fltH L S F h l = 0) : bOk L S F = true ∧ 0 ≤ h ∧ h ≤ S ∧ lsOk l = true := by
  unfold fltH at hz
  by_cases h1 : bOk L S F = true
  · rw [if_pos h1] at hz
    by_cases h2 : ((decide (0 ≤ h) && decide (h ≤ S)) && lsOk l) = true
    · simp only [Bool.and_eq_true, decide_eq_true_eq] at h2; exact ⟨h1, h2.1.1, h2.1.2, h2.2⟩
    · rw [if_neg h2] at hz; omega
  · rw [if_neg h1] at hz; omega
theorem lsOk_one {p : Int} (h : lsOk [p] = true) : 0 ≤ p ∧ p ≤ 100000000 := by
  simp only [lsOk, Bool.and_eq_true, List.all_cons, List.all_nil, Bool.and_true] at h
  exact wOk_iff.1 h.2
end Go.Proofs.YtidpiokkfnhobaaGreat.v7

namespace Go.Proofs.YtidpiokkfnhobaaGreat.v7
open Go.RowKit
set_option maxRecDepth 100000

/-- What Lasts and Cools answer. -/
def lastsP (L S F h p : Int) : Int × Int := if fltH L S F h [p] = 0 then (lst L S F h p, 0) else (0, fltH L S F h [p])
set_option maxHeartbeats 4000000 in
theorem c_Lasts (f L S F q p : Int) (y r : Int) (hr : lastsP L S F q p = (y, r)) (w : World) :
    Calls Tryz.prog 40 #[bkV f L S F, .int .i64 q, .int .i64 p] w fun e w' => e = .returned (.tuple #[.int .i64 y, .int .i64 r]) ∧ Below w.heap.size w w' := by
  obtain ⟨W, hW⟩ : ∃ W, W = (w.alloc (.cells #[.int .i64 f, .int .i64 L, .int .i64 S, .int .i64 F] 48)).alloc (.cells #[.int .i64 p] 3) := ⟨_, rfl⟩
  have B0 : Below w.heap.size w W := by subst hW; exact below_a2 _ _ _
  have HB := Lib.hid B0
  have HK := Lib.hid (show Bk W w.heap.size f L S F by subst hW; exact old_heap _ (bk_new _ _ _ _ _))
  have hz : w.heap.size < W.heap.size := block_lt HK.out
  have HI := Lib.hid (show IntSl W (.slice (some ⟨w.heap.size + 1, 0, none⟩) 1 1) [p] by
    subst hW
    have := intSl_one (w.alloc (.cells #[.int .i64 f, .int .i64 L, .int .i64 S, .int .i64 F] 48)) p
    simpa only [World.size_alloc] using this)
  have HC := Lib.hid (fun (r1 : Int) (h1 : fltH L S F q [p] = r1) => c_faultOfHeat f L S F q [p] r1 h1 _ W HI.out)
  unfold bkV
  unfold bkV at HC
  obtain ⟨x0, x1, x2, x3⟩ := HK.out.cells
  clear B0
  unfold lastsP at hr
  by_cases h1 : fltH L S F q [p] = 0
  · rw [if_pos h1] at hr
    injection hr with hy hr
    subst hr
    obtain ⟨g1, g2, g3, g5⟩ := fltH_zero h1
    have g4 := bOk_iff.1 g1
    have HN := Lib.hid (fun (X : World) => c_lasting f L S F q p ⟨g4.1, g4.2.1, g2, g3, g4.2.2.2.1, (lsOk_one g5).1, (lsOk_one g5).2⟩ y hy X)
    unfold bkV at HN
    have H1 := Lib.hid h1
    clear h1 g1 g2 g3 g4 g5 hy
    go_enter Tryz.func40, Tryz.ntmps40
    go_wp2_with (fail)
    rw [← hW]
    clear hW
    go_at_call 61
    refine (HC.out _ H1.out).mono ?_
    rintro e w1 ⟨rfl, b1⟩
    have HB1 := Lib.hid (below_join HB.out b1 HB.out.size)
    have HK1 := Lib.hid (HK.out.on b1 hz)
    clear b1 x0 x1 x2 x3
    obtain ⟨x0, x1, x2, x3⟩ := HK1.out.cells
    go_wp2_with (fail)
    go_at_call 62
    refine (HN.out _).mono ?_
    rintro e w2 ⟨rfl, b2⟩
    have HB2 := Lib.hid (below_join HB1.out b2 HB1.out.size)
    clear b2 x0 x1 x2 x3
    go_wp2_with (fail)
    exact retTT rfl rfl rfl rfl ⟨rfl, HB2.out⟩
  · rw [if_neg h1] at hr
    injection hr with hy hr
    subst hy
    have H1 := Lib.hid hr
    have hne : (r == 0) = false := by rw [beq_eq_false_iff_ne, ← hr]; exact h1
    clear h1 hr
    go_enter Tryz.func40, Tryz.ntmps40
    go_wp2_with (fail)
    rw [← hW]
    clear hW
    go_at_call 61
    refine (HC.out _ H1.out).mono ?_
    rintro e w1 ⟨rfl, b1⟩
    have HB1 := Lib.hid (below_join HB.out b1 HB.out.size)
    clear b1 x0 x1 x2 x3
    go_wp2_with (fail)
    exact retTT rfl rfl rfl rfl ⟨rfl, HB1.out⟩
end Go.Proofs.YtidpiokkfnhobaaGreat.v7

namespace Go.Proofs.YtidpiokkfnhobaaGreat.v7
open Go.RowKit
set_option maxRecDepth 100000

set_option maxHeartbeats 4000000 in
theorem r_Valid (f L S F : Int) (r : Bool) (hr : bOk L S F = r) (w : World) :
    Calls Tryz.prog 98 #[bkV f L S F] w fun e w' => e = .returned (.bool r) ∧ Below w.heap.size w w' := by
  unfold bkV
  have HR := Lib.hid (show (decide (0 ≤ L) && (decide (L ≤ 1000000) && (decide (0 ≤ S) && (decide (S ≤ 1000000) && (decide (L ≤ F) && decide (F ≤ 1000000)))))) = r from hr)
  clear hr
  rcases h0 : decide (0 ≤ L) with _ | _
  · obtain rfl : false = r := by rw [← HR.out, h0]; rfl
    go_enter Tryz.func98, Tryz.ntmps98
    go_wp2
    go_ret
    exact ⟨rfl, (Below.refl _ _).alloc (Nat.le_refl _) _⟩
  · skip
    rcases h1 : decide (L ≤ 1000000) with _ | _
    · obtain rfl : false = r := by rw [← HR.out, h0, h1]; rfl
      go_enter Tryz.func98, Tryz.ntmps98
      go_wp2
      go_ret
      exact ⟨rfl, (Below.refl _ _).alloc (Nat.le_refl _) _⟩
    · skip
      rcases h2 : decide (0 ≤ S) with _ | _
      · obtain rfl : false = r := by rw [← HR.out, h0, h1, h2]; rfl
        go_enter Tryz.func98, Tryz.ntmps98
        go_wp2
        go_ret
        exact ⟨rfl, (Below.refl _ _).alloc (Nat.le_refl _) _⟩
      · skip
        rcases h3 : decide (S ≤ 1000000) with _ | _
        · obtain rfl : false = r := by rw [← HR.out, h0, h1, h2, h3]; rfl
          go_enter Tryz.func98, Tryz.ntmps98
          go_wp2
          go_ret
          exact ⟨rfl, (Below.refl _ _).alloc (Nat.le_refl _) _⟩
        · skip
          rcases h4 : decide (L ≤ F) with _ | _
          · obtain rfl : false = r := by rw [← HR.out, h0, h1, h2, h3, h4]; rfl
            go_enter Tryz.func98, Tryz.ntmps98
            go_wp2
            go_ret
            exact ⟨rfl, (Below.refl _ _).alloc (Nat.le_refl _) _⟩
          · obtain rfl : decide (F ≤ 1000000) = r := by rw [← HR.out, h0, h1, h2, h3, h4]; rfl
            go_enter Tryz.func98, Tryz.ntmps98
            go_wp2
            go_ret
            exact ⟨rfl, (Below.refl _ _).alloc (Nat.le_refl _) _⟩
set_option maxHeartbeats 4000000 in
theorem r_after (f L S F q p : Int) (t : Bool) (hb : 0 ≤ L ∧ L ≤ 1000000 ∧ 0 ≤ q ∧ q ≤ 100000000 ∧ 0 ≤ p ∧ p ≤ 100000000) (y : Int × Bool) (hy : nx L S F (q, t) p = y) (w : World) :
    Calls Tryz.prog 64 #[bkV f L S F, stV (q, t), .int .i64 p] w fun e w' => e = .returned (stV y) ∧ Below w.heap.size w w' := by
  unfold bkV stV
  obtain ⟨b1, b2, b3, b4, b5, b6⟩ := hb
  cases t
  · rw [nx_live] at hy
    rcases h1 : decide (F < p) with _ | _
    · rw [h1, Bool.false_or] at hy
      subst hy
      go_enter Tryz.func64, Tryz.ntmps64
      go_wp2
      all_goals exact ret2 (b := w.heap.size + 1 + 1) rfl rfl rfl (row_new4 _ _ _ (by simp)) ⟨ret_eq (by omega) (decide_eq_decide.2 (by omega)), below_a3 _ _ _ _⟩
    · rw [h1, Bool.true_or] at hy
      subst hy
      go_enter Tryz.func64, Tryz.ntmps64
      go_wp2
      all_goals exact ret2 (b := w.heap.size + 1 + 1) rfl rfl rfl (row_new4 _ _ _ (by simp)) ⟨ret_eq (by omega) rfl, below_a3 _ _ _ _⟩
  · obtain rfl : (q, true) = y := hy
    go_enter Tryz.func64, Tryz.ntmps64
    go_wp2
    refine ret2 (b := w.heap.size + 1 + 1) rfl rfl rfl (row_new4 _ _ _ (by simp)) ⟨?_, below_a3 _ _ _ _⟩
    rfl
theorem lsOk_single (p : Int) : lsOk [p] = wOk p := by simp [lsOk]
end Go.Proofs.YtidpiokkfnhobaaGreat.v7

namespace Go.Proofs.YtidpiokkfnhobaaGreat.v7
open Go.RowKit
set_option maxRecDepth 100000

theorem fltH_single (L S F h p : Int) : fltH L S F h [p] = if bOk L S F = true then (if ((decide (0 ≤ h) && decide (h ≤ S)) && wOk p) = true then 0 else 2) else 1 := by
  unfold fltH; rw [lsOk_single]
set_option maxHeartbeats 4000000 in
theorem r_steady (f L S F q p : Int) (r : Int) (hr : fltH L S F q [p] = r) (w : World) :
    Calls Tryz.prog 63 #[bkV f L S F, .int .i64 q, .int .i64 p] w fun e w' => e = .returned (.int .i64 r) ∧ Below w.heap.size w w' := by
  obtain ⟨W, hW⟩ : ∃ W, W = w.alloc (.cells #[.int .i64 f, .int .i64 L, .int .i64 S, .int .i64 F] 48) := ⟨_, rfl⟩
  have B0 : Below w.heap.size w W := by subst hW; exact (Below.refl _ _).alloc (Nat.le_refl _) _
  have HB := Lib.hid B0
  have HK := Lib.hid (show Bk W w.heap.size f L S F by subst hW; exact bk_new _ _ _ _ _)
  have hz : w.heap.size < W.heap.size := block_lt HK.out
  have HC := Lib.hid (fun (r1 : Bool) (h1 : bOk L S F = r1) => r_Valid f L S F r1 h1 W)
  unfold bkV
  unfold bkV at HC
  obtain ⟨x0, x1, x2, x3⟩ := HK.out.cells
  clear B0
  rw [fltH_single] at hr
  rcases h1 : bOk L S F with _ | _
  · rw [h1, if_neg (by decide)] at hr
    subst hr
    have H1 := Lib.hid h1
    clear h1
    go_enter Tryz.func63, Tryz.ntmps63
    go_wp2_with (fail)
    rw [← hW]
    clear hW
    go_at_call 98
    refine (HC.out _ H1.out).mono ?_
    rintro e w1 ⟨rfl, b1⟩
    have HB1 := Lib.hid (below_join HB.out b1 HB.out.size)
    clear b1 x0 x1 x2 x3
    go_wp2_with (fail)
    go_ret
    exact ⟨rfl, HB1.out⟩
  · rw [h1, if_pos rfl] at hr
    have H1 := Lib.hid h1
    clear h1
    have hc : (r = 0 ∧ 0 ≤ q ∧ q ≤ S ∧ 0 ≤ p ∧ p ≤ 100000000) ∨ (r = 2 ∧ q < 0) ∨ (r = 2 ∧ 0 ≤ q ∧ S < q) ∨ (r = 2 ∧ 0 ≤ q ∧ q ≤ S ∧ p < 0) ∨ (r = 2 ∧ 0 ≤ q ∧ q ≤ S ∧ 0 ≤ p ∧ 100000000 < p) := by
      by_cases h2 : ((decide (0 ≤ q) && decide (q ≤ S)) && wOk p) = true
      · rw [if_pos h2] at hr
        simp only [Bool.and_eq_true, decide_eq_true_eq, wOk_iff] at h2
        exact .inl ⟨hr.symm, h2.1.1, h2.1.2, h2.2.1, h2.2.2⟩
      · rw [if_neg h2] at hr
        simp only [Bool.and_eq_true, decide_eq_true_eq, wOk_iff] at h2
        omega
    clear hr
    rcases hc with ⟨rfl, k1, k2, k3, k4⟩ | ⟨rfl, k1⟩ | ⟨rfl, k1, k2⟩ | ⟨rfl, k1, k2, k3⟩ | ⟨rfl, k1, k2, k3, k4⟩
    all_goals
      go_enter Tryz.func63, Tryz.ntmps63
      go_wp2_with (fail)
      rw [← hW]
      clear hW
      go_at_call 98
      refine (HC.out _ H1.out).mono ?_
      rintro e w1 ⟨rfl, b1⟩
      have HB1 := Lib.hid (below_join HB.out b1 HB.out.size)
      have HK1 := Lib.hid (HK.out.on b1 (by omega))
      clear b1 x0 x1 x2 x3
      obtain ⟨x0, x1, x2, x3⟩ := HK1.out.cells
      go_wp2_with (fail)
      go_ret
      exact ⟨rfl, HB1.out⟩

/-- In the reference's loops. -/
def LastsRel (w : World) (b c : Nat) (f L S F q p : Int) (n : Value) (wr : World) : Prop :=
  ∃ (k : Nat) (x : Int), n = .int .i64 (k : Int) ∧ Bk wr b f L S F ∧ St wr c x false ∧ Hid (x = q + (k : Int) * (p - L)) ∧ x ≤ S ∧ q ≤ x ∧ (k : Int) ≤ x - q ∧ Hid (k = 0 ∨ p ≤ F) ∧ Hid (Below w.heap.size w wr)
theorem st_kept {X : World} {b c : Nat} {f L S F : Int} (h : Bk X b f L S F) (hbc : b ≠ c) (x y : Value) : Bk ((X.setCell ⟨c, 0, none⟩ x).setCell ⟨c, 1, none⟩ y) b f L S F := by
  unfold Bk at *
  rw [Below.heap_setCell _ ⟨c, 1, none⟩ y b (by exact hbc), Below.heap_setCell _ ⟨c, 0, none⟩ x b (by exact hbc)]
  exact h
set_option maxHeartbeats 8000000 in
theorem r_Lasts (f L S F q p : Int) (y r : Int) (hr : lastsP L S F q p = (y, r)) (w : World) :
    Calls Tryz.prog 41 #[bkV f L S F, .int .i64 q, .int .i64 p] w fun e w' => e = .returned (.tuple #[.int .i64 y, .int .i64 r]) ∧ Below w.heap.size w w' := by
  obtain ⟨W, hW⟩ : ∃ W, W = w.alloc (.cells #[.int .i64 f, .int .i64 L, .int .i64 S, .int .i64 F] 48) := ⟨_, rfl⟩
  have B0 : Below w.heap.size w W := by subst hW; exact (Below.refl _ _).alloc (Nat.le_refl _) _
  have HB := Lib.hid B0
  have HK := Lib.hid (show Bk W w.heap.size f L S F by subst hW; exact bk_new _ _ _ _ _)
  have hz : w.heap.size < W.heap.size := block_lt HK.out
  have HC := Lib.hid (fun (r1 : Int) (h1 : fltH L S F q [p] = r1) => r_steady f L S F q p r1 h1 W)
  unfold bkV
  unfold bkV at HC
  obtain ⟨x0, x1, x2, x3⟩ := HK.out.cells
  clear B0
  unfold lastsP at hr
  by_cases h1 : fltH L S F q [p] = 0
  · rw [if_pos h1] at hr
    injection hr with hy hr
    subst hr
    obtain ⟨g1, g2, g3, g5⟩ := fltH_zero h1
    have g4 := bOk_iff.1 g1
    have g6 := lsOk_one g5
    have H1 := Lib.hid h1
    clear h1 g1 g5
    by_cases hpL : p ≤ L
    · obtain rfl : y = -1 := by rw [← hy]; unfold lst; rw [if_pos hpL]
      clear hy
      go_enter Tryz.func41, Tryz.ntmps41
      go_wp2_with (fail)
      rw [← hW]
      clear hW
      go_at_call 63
      refine (HC.out _ H1.out).mono ?_
      rintro e w1 ⟨rfl, b1⟩
      have HB1 := Lib.hid (below_join HB.out b1 HB.out.size)
      have HK1 := Lib.hid (HK.out.on b1 hz)
      clear b1 x0 x1 x2 x3
      obtain ⟨x0, x1, x2, x3⟩ := HK1.out.cells
      go_wp2_with (fail)
      exact retTT rfl rfl rfl rfl ⟨rfl, HB1.out⟩
    · have HY := Lib.hid hy
      clear hy
      go_enter Tryz.func41, Tryz.ntmps41
      go_wp2_with (fail)
      rw [← hW]
      clear hW
      go_at_call 63
      refine (HC.out _ H1.out).mono ?_
      rintro e w1 ⟨rfl, b1⟩
      have HB1 := Lib.hid (below_join HB.out b1 HB.out.size)
      have HK1 := Lib.hid (HK.out.on b1 hz)
      have hz1 := Nat.lt_of_lt_of_le hz b1.size
      clear b1 x0 x1 x2 x3
      obtain ⟨x0, x1, x2, x3⟩ := HK1.out.cells
      go_wp2_with (fail)
      have hpk : 1 ≤ p - L := by omega
      go_loopw [10] (fun n wr => LastsRel w w.heap.size w1.heap.size f L S F q p n wr) (fun n wr => (S - (q + intOf n * (p - L))).toNat)
      case atStart => exact ⟨0, q, rfl, old_heap _ HK1.out, st_new _ _ _, Lib.hid (by simp), g3, Int.le_refl _, by simp, Lib.hid (.inl rfl), Lib.hid (HB1.out.alloc HB1.out.size _)⟩
      case round =>
        obtain ⟨k, x, rfl, hK, hS, hx, hxS, hqx, hkx, hF, hBW⟩ := hrel
        have HKr := Lib.hid hK
        have HSr := Lib.hid hS
        have hzr : w1.heap.size < wr.heap.size := block_lt hS
        obtain ⟨z, hzz⟩ : ∃ z, z = nx L S F (x, false) p := ⟨_, rfl⟩
        have HN := Lib.hid (fun (X : World) => r_after f L S F x p false ⟨g4.1, g4.2.1, by omega, by omega, g6.1, g6.2⟩ z hzz.symm X)
        unfold bkV stV at HN
        have hst : (k : Int) * (p - L) + (p - L) = ((k : Int) + 1) * (p - L) := by rw [Int.add_mul]; omega
        obtain ⟨q0, q1, q2, q3⟩ := hK.cells
        obtain ⟨y0, y1⟩ := hS.cells
        clear x0 x1 x2 x3 hK hS
        by_cases ht : F < p ∨ S < x + (p - L)
        · obtain ⟨z1, z2⟩ := z
          obtain rfl : z2 = true := by
            have := nx_trips (L := L) (S := S) (F := F) (h := q) (w := p) (k : Int) (by rcases ht with h | h; exact .inl h; right; have := hx.out; omega)
            rw [← hx.out, ← hzz] at this; exact this
          have HY2 := Lib.hid (show (k : Int) = y by
            rw [← HY.out]
            by_cases hp : F < p
            · rcases hF.out with h | h
              · subst h; unfold lst; rw [if_neg (by omega), if_pos hp]; rfl
              · omega
            · rcases ht with h | h
              · omega
              · exact (lst_steps (by omega) (by omega) (by have := hx.out; omega) (by have := hx.out; omega)).symm)
          clear hzz ht hst
          go_wp2_with (fail)
          go_at_call 64
          refine (HN.out _).mono ?_
          rintro e w2 ⟨rfl, b2⟩
          have HB2 := Lib.hid (below_join hBW.out b2 (by have := hBW.out.size; exact this))
          have HS2 := Lib.hid (HSr.out.on b2 hzr)
          have hz2 := Nat.lt_of_lt_of_le hzr b2.size
          obtain ⟨f0, f1⟩ := HS2.out.frozen
          clear b2 q0 q1 q2 q3 y0 y1
          obtain ⟨y0, y1⟩ := HS2.out.cells
          go_wp2_with (fail)
          exact retTT rfl rfl rfl rfl ⟨(show Ending.returned (.tuple #[.int .i64 (k : Int), .int .i64 0]) = .returned (.tuple #[.int .i64 y, .int .i64 0]) by rw [HY2.out]), below_store2 HB2.out (by omega) _ _⟩
        · have e := nx_rise (L := L) (S := S) (F := F) (h := q) (w := p) g4.2.2.2.1 g2 (by omega) (by omega) (k : Int) (by omega) (by have := hx.out; omega)
          rw [← hx.out, ← hzz] at e
          have HX2 := Lib.hid (show x + (p - L) = q + ((k : Int) + 1) * (p - L) by have := hx.out; omega)
          rw [← HX2.out] at e
          subst e
          clear hzz
          have hpF : p ≤ F := by omega
          have hle : x + (p - L) ≤ S := by omega
          clear ht
          go_wp2_with (fail)
          go_at_call 64
          refine (HN.out _).mono ?_
          rintro e w2 ⟨rfl, b2⟩
          have HB2 := Lib.hid (below_join hBW.out b2 (by have := hBW.out.size; exact this))
          have HK2 := Lib.hid (HKr.out.on b2 (by omega))
          have HS2 := Lib.hid (HSr.out.on b2 hzr)
          have hz2 := Nat.lt_of_lt_of_le hzr b2.size
          obtain ⟨f0, f1⟩ := HS2.out.frozen
          clear b2 q0 q1 q2 q3 y0 y1
          obtain ⟨y0, y1⟩ := HS2.out.cells
          go_wp2_with (fail)
          go_roundw
          case rel => exact ⟨k + 1, x + (p - L), by go_num, st_kept HK2.out (by omega) _ _, row_store2 HS2.out _ _, Lib.hid (by rw [HX2.out]; push_cast; rfl), hle, by omega, by push_cast; omega, Lib.hid (.inr hpF), Lib.hid (below_store2 HB2.out (by omega) _ _)⟩
          case measure =>
            simp only [intOf]
            have := hx.out
            omega
  · rw [if_neg h1] at hr
    injection hr with hy hr
    subst hy
    have H1 := Lib.hid hr
    have hne : (r == 0) = false := by rw [beq_eq_false_iff_ne, ← hr]; exact h1
    clear h1 hr
    go_enter Tryz.func41, Tryz.ntmps41
    go_wp2_with (fail)
    rw [← hW]
    clear hW
    go_at_call 63
    refine (HC.out _ H1.out).mono ?_
    rintro e w1 ⟨rfl, b1⟩
    have HB1 := Lib.hid (below_join HB.out b1 HB.out.size)
    clear b1 x0 x1 x2 x3
    go_wp2_with (fail)
    exact retTT rfl rfl rfl rfl ⟨rfl, HB1.out⟩
end Go.Proofs.YtidpiokkfnhobaaGreat.v7
