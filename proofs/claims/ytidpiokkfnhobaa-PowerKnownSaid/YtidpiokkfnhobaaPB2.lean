/-
  DERIVED. Several texts in one.
-/
import Derived.Test.YtidpiokkfnhobaaPB1
import Derived.RegionTactic
import Derived.Deep.RegionHeld3
import Derived.Laws.StructEq
import Derived.Lib.AppendZerosOnto
import Derived.Lib.Walk
import Derived.Laws.AppendOwnNone
import Derived.Laws.CopyOwn
import Derived.Lib.SliceRun
set_option linter.unusedVariables false
set_option linter.unusedSimpArgs false

namespace Go.Proofs.Ytidpiokkfnhobaa
open Go.RowKit
set_option maxRecDepth 100000
set_option linter.unusedVariables false
set_option linter.unusedSimpArgs false

set_option maxHeartbeats 8000000 in
theorem c_stValid (p : SP) (s : SiteD) (r : Bool) (hr : siteOk s = r) (w : World) (h : SiAt w p s) :
    Calls Try.prog 28 #[siV p s] w fun e w' => e = .returned (.bool r) ∧ Below w.heap.size w w' := by
  unfold siV
  obtain ⟨W, hW⟩ : ∃ W, W = w.alloc (.cells #[.slice p.a1 s.feeds.length p.c1, .slice p.a2 s.brks.length p.c2, .slice p.a3 s.loops.length p.c3, .slice p.a4 s.racks.length p.c4, .int .i64 s.sw, .slice p.a5 s.links.length p.c5, .slice p.a6 s.hosts.length p.c6] 41) := ⟨_, rfl⟩
  have B0 : Below w.heap.size w W := by subst hW; exact (Below.refl _ _).alloc (Nat.le_refl _) _
  have HB0 := Lib.hid B0
  have HX := Lib.hid (show SiBox W w.heap.size p s by subst hW; exact siBox_new _ _ _)
  have HA := Lib.hid (h.on B0 (Nat.le_refl _))
  have HR := Lib.hid (show (areB 1 8 [s.sw] && (goodB feedBad 1 4 s.feeds && (goodB (brkBad s.feeds.length) 1 8 s.brks && (goodB lpBad 1 4 s.loops && (goodB (rkBad s.brks.length s.loops.length s.sw) 1 8 s.racks && (goodB (lkBad s.sw) 0 16 s.links && (goodB (hsBad s.racks.length) 1 16 s.hosts))))))) = r from hr)
  have KW := Lib.hid (Below.refl W.heap.size W)
  clear B0 hr h
  have x0 := HX.out.c4
  rw [hW] at x0
  obtain ⟨V, hV⟩ : ∃ X, X = W.alloc (.cells #[.int .i64 s.sw] 3) := ⟨_, rfl⟩
  have bV : Below W.heap.size W V := by subst hV; exact (Below.refl _ _).alloc (Nat.le_refl _) _
  have RV := Lib.hid (show Rw 1 inF V (some ⟨w.heap.size + 1, 0, none⟩) 1 [s.sw] by subst hV; have h := rw_lit [s.sw] (by simp [maxLen]) W; rw [show W.heap.size = w.heap.size + 1 from by rw [hW, World.size_alloc]] at h; exact h)
  have HV := Lib.hid bV
  clear bV
  go_enter Try.func28, Try.ntmps28
  obtain ⟨r0, h0⟩ : ∃ b, areB 1 8 [s.sw] = b := ⟨_, rfl⟩
  have Q0 := Lib.hid h0
  clear h0
  go_wp2_with (fail)
  rw [← hW, ← hV]
  clear hW hV x0
  go_at_call 41
  refine (c_areFrom 1 8 (some ⟨w.heap.size + 1, 0, none⟩) 1 [s.sw] V RV.out r0 Q0.out).mono ?_
  rintro e w1 ⟨rfl, b1⟩
  have K1 := Lib.hid (below_join HV.out b1 HV.out.size)
  clear b1
  cases r0
  · obtain rfl : false = r := by have h := HR.out; rw [show (areB 1 8 [s.sw]) = false from Q0.out] at h; exact h
    go_wp2_with (fail)
    go_ret
    exact ⟨rfl, below_join HB0.out K1.out HB0.out.size⟩
  have x1 := (HX.out.on K1.out (Nat.le_refl _)).c0
  obtain ⟨r1, h1⟩ : ∃ b, goodB feedBad 1 4 s.feeds = b := ⟨_, rfl⟩
  have Q1 := Lib.hid h1
  clear h1
  go_wp2_with (fail)
  clear x1
  go_at_call 48
  refine (c_goodFeed 1 4 p.a1 p.c1 s.feeds w1 ((HA.out.on K1.out (Nat.le_refl _)).feeds) r1 Q1.out).mono ?_
  rintro e w2 ⟨rfl, b2⟩
  have K2 := Lib.hid (below_join K1.out b2 K1.out.size)
  clear b2
  cases r1
  · obtain rfl : false = r := by have h := HR.out; rw [show (areB 1 8 [s.sw]) = true from Q0.out, show (goodB feedBad 1 4 s.feeds) = false from Q1.out] at h; exact h
    go_wp2_with (fail)
    go_ret
    exact ⟨rfl, below_join HB0.out K2.out HB0.out.size⟩
  have x2 := (HX.out.on K2.out (Nat.le_refl _)).c1
  obtain ⟨r2, h2⟩ : ∃ b, goodB (brkBad s.feeds.length) 1 8 s.brks = b := ⟨_, rfl⟩
  have Q2 := Lib.hid h2
  clear h2
  go_wp2_with (fail)
  clear x2
  go_at_call 49
  refine (c_goodBreaker w.heap.size p s 1 8 p.a2 p.c2 s.brks w2 (HX.out.on K2.out (Nat.le_refl _)) ((HA.out.on K2.out (Nat.le_refl _)).brks) r2 Q2.out).mono ?_
  rintro e w3 ⟨rfl, b3⟩
  have K3 := Lib.hid (below_join K2.out b3 K2.out.size)
  clear b3
  cases r2
  · obtain rfl : false = r := by have h := HR.out; rw [show (areB 1 8 [s.sw]) = true from Q0.out, show (goodB feedBad 1 4 s.feeds) = true from Q1.out, show (goodB (brkBad s.feeds.length) 1 8 s.brks) = false from Q2.out] at h; exact h
    go_wp2_with (fail)
    go_ret
    exact ⟨rfl, below_join HB0.out K3.out HB0.out.size⟩
  have x3 := (HX.out.on K3.out (Nat.le_refl _)).c2
  obtain ⟨r3, h3⟩ : ∃ b, goodB lpBad 1 4 s.loops = b := ⟨_, rfl⟩
  have Q3 := Lib.hid h3
  clear h3
  go_wp2_with (fail)
  clear x3
  go_at_call 50
  refine (c_goodLoop 1 4 p.a3 p.c3 s.loops w3 ((HA.out.on K3.out (Nat.le_refl _)).loops) r3 Q3.out).mono ?_
  rintro e w4 ⟨rfl, b4⟩
  have K4 := Lib.hid (below_join K3.out b4 K3.out.size)
  clear b4
  cases r3
  · obtain rfl : false = r := by have h := HR.out; rw [show (areB 1 8 [s.sw]) = true from Q0.out, show (goodB feedBad 1 4 s.feeds) = true from Q1.out, show (goodB (brkBad s.feeds.length) 1 8 s.brks) = true from Q2.out, show (goodB lpBad 1 4 s.loops) = false from Q3.out] at h; exact h
    go_wp2_with (fail)
    go_ret
    exact ⟨rfl, below_join HB0.out K4.out HB0.out.size⟩
  have x4 := (HX.out.on K4.out (Nat.le_refl _)).c3
  obtain ⟨r4, h4⟩ : ∃ b, goodB (rkBad s.brks.length s.loops.length s.sw) 1 8 s.racks = b := ⟨_, rfl⟩
  have Q4 := Lib.hid h4
  clear h4
  go_wp2_with (fail)
  clear x4
  go_at_call 51
  refine (c_goodRack w.heap.size p s 1 8 p.a4 p.c4 s.racks w4 (HX.out.on K4.out (Nat.le_refl _)) ((HA.out.on K4.out (Nat.le_refl _)).racks) r4 Q4.out).mono ?_
  rintro e w5 ⟨rfl, b5⟩
  have K5 := Lib.hid (below_join K4.out b5 K4.out.size)
  clear b5
  cases r4
  · obtain rfl : false = r := by have h := HR.out; rw [show (areB 1 8 [s.sw]) = true from Q0.out, show (goodB feedBad 1 4 s.feeds) = true from Q1.out, show (goodB (brkBad s.feeds.length) 1 8 s.brks) = true from Q2.out, show (goodB lpBad 1 4 s.loops) = true from Q3.out, show (goodB (rkBad s.brks.length s.loops.length s.sw) 1 8 s.racks) = false from Q4.out] at h; exact h
    go_wp2_with (fail)
    go_ret
    exact ⟨rfl, below_join HB0.out K5.out HB0.out.size⟩
  have x5 := (HX.out.on K5.out (Nat.le_refl _)).c5
  obtain ⟨r5, h5⟩ : ∃ b, goodB (lkBad s.sw) 0 16 s.links = b := ⟨_, rfl⟩
  have Q5 := Lib.hid h5
  clear h5
  go_wp2_with (fail)
  clear x5
  go_at_call 52
  refine (c_goodLink w.heap.size p s 0 16 p.a5 p.c5 s.links w5 (HX.out.on K5.out (Nat.le_refl _)) ((HA.out.on K5.out (Nat.le_refl _)).links) r5 Q5.out).mono ?_
  rintro e w6 ⟨rfl, b6⟩
  have K6 := Lib.hid (below_join K5.out b6 K5.out.size)
  clear b6
  cases r5
  · obtain rfl : false = r := by have h := HR.out; rw [show (areB 1 8 [s.sw]) = true from Q0.out, show (goodB feedBad 1 4 s.feeds) = true from Q1.out, show (goodB (brkBad s.feeds.length) 1 8 s.brks) = true from Q2.out, show (goodB lpBad 1 4 s.loops) = true from Q3.out, show (goodB (rkBad s.brks.length s.loops.length s.sw) 1 8 s.racks) = true from Q4.out, show (goodB (lkBad s.sw) 0 16 s.links) = false from Q5.out] at h; exact h
    go_wp2_with (fail)
    go_ret
    exact ⟨rfl, below_join HB0.out K6.out HB0.out.size⟩
  have x6 := (HX.out.on K6.out (Nat.le_refl _)).c6
  obtain ⟨r6, h6⟩ : ∃ b, goodB (hsBad s.racks.length) 1 16 s.hosts = b := ⟨_, rfl⟩
  have Q6 := Lib.hid h6
  clear h6
  go_wp2_with (fail)
  clear x6
  go_at_call 53
  refine (c_goodHost w.heap.size p s 1 16 p.a6 p.c6 s.hosts w6 (HX.out.on K6.out (Nat.le_refl _)) ((HA.out.on K6.out (Nat.le_refl _)).hosts) r6 Q6.out).mono ?_
  rintro e w7 ⟨rfl, b7⟩
  have K7 := Lib.hid (below_join K6.out b7 K6.out.size)
  clear b7
  cases r6
  · obtain rfl : false = r := by have h := HR.out; rw [show (areB 1 8 [s.sw]) = true from Q0.out, show (goodB feedBad 1 4 s.feeds) = true from Q1.out, show (goodB (brkBad s.feeds.length) 1 8 s.brks) = true from Q2.out, show (goodB lpBad 1 4 s.loops) = true from Q3.out, show (goodB (rkBad s.brks.length s.loops.length s.sw) 1 8 s.racks) = true from Q4.out, show (goodB (lkBad s.sw) 0 16 s.links) = true from Q5.out, show (goodB (hsBad s.racks.length) 1 16 s.hosts) = false from Q6.out] at h; exact h
    go_wp2_with (fail)
    go_ret
    exact ⟨rfl, below_join HB0.out K7.out HB0.out.size⟩
  · obtain rfl : true = r := by have h := HR.out; rw [show (areB 1 8 [s.sw]) = true from Q0.out, show (goodB feedBad 1 4 s.feeds) = true from Q1.out, show (goodB (brkBad s.feeds.length) 1 8 s.brks) = true from Q2.out, show (goodB lpBad 1 4 s.loops) = true from Q3.out, show (goodB (rkBad s.brks.length s.loops.length s.sw) 1 8 s.racks) = true from Q4.out, show (goodB (lkBad s.sw) 0 16 s.links) = true from Q5.out, show (goodB (hsBad s.racks.length) 1 16 s.hosts) = true from Q6.out] at h; exact h
    go_wp2_with (fail)
    go_ret
    exact ⟨rfl, below_join HB0.out K7.out HB0.out.size⟩
end Go.Proofs.Ytidpiokkfnhobaa

namespace Go.Proofs.Ytidpiokkfnhobaa
open Go.RowKit
set_option maxRecDepth 100000
set_option linter.unusedVariables false
set_option linter.unusedSimpArgs false

theorem set_field {W : World} {b o : Nat} {cs : Array Value} {T : TypeId} (h : W.heap[b]? = some (.cells cs T (0, 0))) (v : Value) : (W.setCell ⟨b, o, none⟩ v).heap[b]? = some (.cells (cs.setIfInBounds o v) T (0, 0)) := by
  simp only [World.setCell, Array.getElem?_modify, if_pos trivial, h]
  simp
theorem frz {X : World} {b : Nat} {cs : Array Value} {T : TypeId} (h : X.heap[b]? = some (.cells cs T (0, 0))) (o : Nat) : X.frozen? ⟨b, o, none⟩ = false := by
  simp [World.frozen?, h]
end Go.Proofs.Ytidpiokkfnhobaa

namespace Go.Proofs.Ytidpiokkfnhobaa
open Go.RowKit
set_option maxRecDepth 100000
set_option linter.unusedVariables false
set_option linter.unusedSimpArgs false

theorem info_parts {P : Program} {T : TypeId} {z : Value} {s b : Nat} (h : (P.info? T).map (fun i => (i.zero, i.size, i.bytes)) = some (some z, s, b)) : ∃ i, P.info? T = some i ∧ i.zero = some z ∧ i.size = s ∧ i.bytes = b := by
  cases hi : P.info? T with
  | none => rw [hi] at h; cases h
  | some i => rw [hi] at h; simp at h; exact ⟨i, rfl, h.1, h.2.1, h.2.2⟩
theorem ownsRow_lt {X : World} {base : Nat} {e : TypeId} {size n : Nat} {v : Value} {xs : List Value} (h : X.ownsRow base e size v n xs) {g : Nat} (hg : v.ownBlock = some g) : base ≤ g ∧ g < X.heap.size := by
  obtain ⟨k1, ⟨rfl, -⟩ | ⟨g', cap, cur, rfl, k3, k4, k⟩⟩ := h
  · cases hg
  · have hg2 : some g' = some g := hg
    injection hg2 with hg2
    subst hg2
    exact ⟨k3, at_lt k4⟩
theorem own_shape {X : World} {base : Nat} {e : TypeId} {size n : Nat} {v : Value} {xs : List Value} (h : X.ownsRow base e size v n xs) : ∃ A c, v = .slice A n c := by
  obtain ⟨k1, ⟨rfl, h0⟩ | ⟨g, cap, cur, rfl, k⟩⟩ := h
  · subst h0; exact ⟨_, _, rfl⟩
  · exact ⟨_, _, rfl⟩
theorem own_mono {w : World} {base base' : Nat} {e : TypeId} {size : Nat} {v : Value} {n : Nat} {xs : List Value} (h : w.ownsRow base e size v n xs) (hb : base' ≤ base) : w.ownsRow base' e size v n xs := by
  obtain ⟨k1, h | ⟨g, cap, cur, rfl, k3, k4, k⟩⟩ := h
  · exact ⟨k1, .inl h⟩
  · exact ⟨k1, .inr ⟨g, cap, cur, rfl, Nat.le_trans hb k3, k4, k⟩⟩
theorem own_on {X Y : World} {base : Nat} {e : TypeId} {size n B : Nat} {v : Value} {xs : List Value} (h : X.ownsRow base e size v n xs) (hb : Below B X Y) (hB : X.heap.size ≤ B) : Y.ownsRow base e size v n xs := by
  obtain ⟨k1, h | ⟨g, cap, cur, rfl, k3, k4, k⟩⟩ := h
  · exact ⟨k1, .inl h⟩
  · exact ⟨k1, .inr ⟨g, cap, cur, rfl, k3, (hb.block _ (Nat.lt_of_lt_of_le (at_lt k4) hB)).trans k4, k⟩⟩
end Go.Proofs.Ytidpiokkfnhobaa

namespace Go.Proofs.Ytidpiokkfnhobaa
open Go.RowKit
set_option maxRecDepth 100000
set_option linter.unusedVariables false
set_option linter.unusedSimpArgs false

theorem set_else {W : World} {b k o : Nat} {v : Value} {ob : Obj} (h : W.heap[k]? = some ob) (hne : k ≠ b) : (W.setCell ⟨b, o, none⟩ v).heap[k]? = some ob := by
  rw [Below.heap_setCell _ ⟨b, o, none⟩ v k hne]; exact h
theorem old_heap {X : World} {b : Nat} {o : Obj} (o' : Obj) (h : X.heap[b]? = some o) : (X.alloc o').heap[b]? = some o := (Below.heap_alloc _ _ _ (at_lt h)).trans h
end Go.Proofs.Ytidpiokkfnhobaa

namespace Go.Proofs.Ytidpiokkfnhobaa
open Go.RowKit
attribute [local go_sem] Oper.semAt_some
set_option maxRecDepth 100000
set_option linter.unusedVariables false
set_option linter.unusedSimpArgs false

theorem wrap_in {x : Int} (h : -9223372036854775808 ≤ x) (h2 : x ≤ 9223372036854775807) : IntKind.i64.wrap x = x := by
  unfold IntKind.wrap
  simp [IntKind.signed, IntKind.bits]
  omega
/-- Rows of k cells, as a slice's address and capacity. -/
def Rv {α : Type} (k : Nat) (F : α → Nat → Value) (w : World) (A : Option Addr) (c : Nat) (l : List α) : Prop :=
  l.length ≤ c ∧ c ≤ maxLen ∧ (A = none → c = 0) ∧ (0 < l.length → ∃ b o, A = some ⟨b, o, none⟩ ∧ b < w.heap.size ∧ ∀ (j : Nat) (x : α), l[j]? = some x → ∀ i, i < k → w.cell? ⟨b, o + j * k + i, none⟩ = some (F x i))
section
variable {α : Type} {k : Nat} {F : α → Nat → Value} {w w' : World} {A : Option Addr} {c : Nat} {l : List α}
theorem Rv.on {B : Nat} (h : Rv k F w A c l) (hb : Below B w w') (hB : w.heap.size ≤ B) : Rv k F w' A c l := by
  obtain ⟨h1, h2, h3, h4⟩ := h
  refine ⟨h1, h2, h3, fun h0 => ?_⟩
  obtain ⟨b, o, e, hlt, hc⟩ := h4 h0
  exact ⟨b, o, e, Nat.lt_of_lt_of_le hlt hb.size, fun j x hj i hi => (hb.cell (p := ⟨b, o + j * k + i, none⟩) (by show b < B; omega)).trans (hc j x hj i hi)⟩
theorem Rv.at_ (h : Rv k F w A c l) {j : Nat} {x : α} (hj : l[j]? = some x) : ∃ b o, A = some ⟨b, o, none⟩ ∧ b < w.heap.size ∧ ∀ i, i < k → w.cell? ⟨b, o + j * k + i, none⟩ = some (F x i) := by
  obtain ⟨h1, h2, -, h4⟩ := h
  obtain ⟨b, o, e, hlt, hc⟩ := h4 (by have := (List.getElem?_eq_some_iff.1 hj).1; omega)
  exact ⟨b, o, e, hlt, fun i hi => hc j x hj i hi⟩
theorem Rv.nil (w : World) : Rv k F w none 0 ([] : List α) := ⟨Nat.le_refl _, Nat.zero_le _, fun _ => rfl, fun h => absurd h (Nat.lt_irrefl _)⟩
theorem Rv.take (h : Rv k F w A c l) (m : Nat) (hm : m ≤ l.length) : Rv k F w A c (l.take m) := by
  obtain ⟨h1, h2, h3, h4⟩ := h
  have hl : (l.take m).length = m := by rw [List.length_take]; omega
  refine ⟨by omega, h2, h3, fun h0 => ?_⟩
  obtain ⟨b, o, e, hlt, hc⟩ := h4 (by omega)
  refine ⟨b, o, e, hlt, fun j x hj => hc j x ?_⟩
  rw [List.getElem?_take] at hj
  split at hj
  · exact hj
  · cases hj
theorem Rv.drop {b o : Nat} (h : Rv k F w (some ⟨b, o, none⟩) c l) (m : Nat) (hm : m ≤ l.length) : Rv k F w (some ⟨b, o + m * k, none⟩) (c - m) (l.drop m) := by
  obtain ⟨h1, h2, h3, h4⟩ := h
  refine ⟨by simp; omega, by omega, (by intro h; cases h), fun h0 => ?_⟩
  obtain ⟨b', o', e, hlt, hc⟩ := h4 (by simp at h0; omega)
  injection e with e
  injection e with e1 e2
  subst e1 e2
  refine ⟨b, o + m * k, rfl, hlt, fun j x hj i hi => ?_⟩
  rw [List.getElem?_drop] at hj
  have := hc (m + j) x hj i hi
  rwa [show o + (m + j) * k + i = o + m * k + j * k + i by rw [Nat.add_mul]; omega] at this
end
/-- Rows as cells. -/
def cellsV {α : Type} (k : Nat) (F : α → Nat → Value) (l : List α) : List Value := l.flatMap fun x => (List.range k).map fun i => F x i
section
variable {α : Type} {k : Nat} {F : α → Nat → Value}
theorem cellsV_at : ∀ {l : List α} {j : Nat} {x : α}, l[j]? = some x → ∀ i, i < k → (cellsV k F l)[j * k + i]? = some (F x i) := by
  intro l
  induction l with
  | nil => intro j x h; simp at h
  | cons y l ih =>
    intro j x h i hi
    have e : cellsV k F (y :: l) = ((List.range k).map fun i => F y i) ++ cellsV k F l := rfl
    rw [e]
    cases j with
    | zero =>
      simp at h
      subst h
      rw [Nat.zero_mul, Nat.zero_add, List.getElem?_append_left (by simp; omega)]
      simp [hi]
    | succ j =>
      rw [List.getElem?_append_right (by simp; rw [Nat.succ_mul]; omega)]
      have := ih (j := j) (x := x) (by simpa using h) i hi
      rw [show (j + 1) * k + i - (List.map (fun i => F y i) (List.range k)).length = j * k + i by simp [Nat.succ_mul]; omega]
      exact this
theorem cellsV_len (l : List α) : (cellsV k F l).length = l.length * k := by
  induction l with
  | nil => simp [cellsV]
  | cons y l ih =>
    have e : cellsV k F (y :: l) = ((List.range k).map fun i => F y i) ++ cellsV k F l := rfl
    rw [e, List.length_append, ih, List.length_cons, Nat.succ_mul]
    simp; omega
/-- What lies in the cells behind a slice's address. -/
theorem Rv.cells {w : World} {A : Option Addr} {c : Nat} {l : List α} (h : Rv k F w A c l) (hk : 0 < k) : ∀ ad, A = some ad → ∀ j u, (cellsV k F l)[j]? = some u → w.cell? (ad.add j) = some u := by
  intro ad hA j u hj
  have hjl := (List.getElem?_eq_some_iff.1 hj).1
  rw [cellsV_len] at hjl
  have hq : j / k < l.length := Nat.div_lt_of_lt_mul (by rw [Nat.mul_comm]; exact hjl)
  obtain ⟨x, hx⟩ : ∃ x, l[j / k]? = some x := ⟨_, List.getElem?_eq_getElem hq⟩
  obtain ⟨b, o, e, -, hc⟩ := h.at_ hx
  rw [hA] at e
  injection e with e
  subst e
  have hr : j % k < k := Nat.mod_lt _ hk
  have hd : j / k * k + j % k = j := by rw [Nat.mul_comm]; exact Nat.div_add_mod j k
  have h1 := cellsV_at (F := F) hx (j % k) hr
  rw [hd, hj] at h1
  injection h1 with h1
  have h2 := hc (j % k) hr
  rw [show o + j / k * k + j % k = o + j by omega] at h2
  rw [h1]
  have e : (⟨b, o, none⟩ : Addr).add j = ⟨b, o + j, none⟩ := by unfold Addr.add; split <;> simp_all
  rw [e]; exact h2
/-- A block of rows is a list in memory. -/
theorem rv_block {l : List α} {w : World} {b : Nat} {T : TypeId} (h : w.heap[b]? = some (.cells (cellsV k F l).toArray T (0, 0))) (hl : l.length ≤ maxLen) : Rv k F w (some ⟨b, 0, none⟩) l.length l := by
  refine ⟨Nat.le_refl _, hl, (by intro h; cases h), fun _ => ⟨b, 0, rfl, at_lt h, fun j x hj i hi => ?_⟩⟩
  rw [Nat.zero_add]
  refine cell_of h ?_
  have := cellsV_at (F := F) hj i hi
  simpa using this
/-- A list that a walk has made is a list in memory. -/
theorem own_rv {w : World} {base : Nat} {T : TypeId} {v : Value} {l : List α} (h : w.ownsRow base T k v l.length (cellsV k F l)) : ∃ A c, v = .slice A l.length c ∧ Rv k F w A c l := by
  have hc := h
  obtain ⟨k1, ⟨e, e2⟩ | ⟨g, cap, cur, e, k3, k4, k5, k6, k7, k8⟩⟩ := h
  · subst e
    obtain rfl : l = [] := List.eq_nil_of_length_eq_zero e2
    exact ⟨none, 0, rfl, Rv.nil _⟩
  · subst e
    refine ⟨some ⟨g, 0, none⟩, cap, rfl, k5, k6, (by intro h; cases h), fun _ => ⟨g, 0, rfl, at_lt k4, fun j x hj i hi => ?_⟩⟩
    have h1 := cellsV_at (F := F) hj i hi
    have h2 := (List.getElem?_eq_some_iff.1 h1).1
    have := hc.cellAt (j * k + i) (by rwa [cellsV_len] at h2)
    rw [show 0 + j * k + i = j * k + i by omega, this, h1]
end
theorem rv_int {α : Type} {k : Nat} {G : α → Nat → Int} {w : World} {A : Option Addr} {c : Nat} {l : List α} (h : Rv k (fun x i => .int .i64 (G x i)) w A c l) : Rw k G w A c l := ⟨h.1, h.2.1, h.2.2.2⟩
def hstV (x : Hst) : Nat → Value
  | 0 => .int .u8 (x.phase : Int)
  | _ => .int .i64 x.fw
def repV (x : Rep) : Nat → Value
  | 0 => .int .i64 x.svc
  | _ => .int .i64 x.host
def nrV (x : Nr) : Nat → Value
  | 0 => .int .i64 x.svc
  | _ => .int .i64 x.lat
def inV (x : Int) (_ : Nat) : Value := .int .i64 x
/-- Where a service's lists lie. -/
structure SvA where
  a1 : Option Addr
  c1 : Nat
  a2 : Option Addr
  c2 : Nat
def svV (x : Svc × SvA) : Nat → Value
  | 0 => .int .i64 x.1.cores
  | 1 => .int .i64 x.1.reps
  | 2 => .int .i64 x.1.least
  | 3 => .int .u8 (x.1.dom : Int)
  | 4 => .int .i64 x.1.spread
  | 5 => .slice x.2.a1 x.1.apart.length x.2.c1
  | 6 => .slice x.2.a2 x.1.near.length x.2.c2
  | _ => .int .i64 x.1.fw
def svA (x : Svc × SvA) : Array Value := #[.int .i64 x.1.cores, .int .i64 x.1.reps, .int .i64 x.1.least, .int .u8 (x.1.dom : Int), .int .i64 x.1.spread, .slice x.2.a1 x.1.apart.length x.2.c1, .slice x.2.a2 x.1.near.length x.2.c2, .int .i64 x.1.fw]
/-- A service's lists. -/
structure SvAt (w : World) (x : Svc × SvA) : Prop where
  apart : Rv 1 inV w x.2.a1 x.2.c1 x.1.apart
  near : Rv 2 nrV w x.2.a2 x.2.c2 x.1.near
  dom : x.1.dom < 256
theorem SvAt.on {w w' : World} {x : Svc × SvA} {B : Nat} (h : SvAt w x) (hb : Below B w w') (hB : w.heap.size ≤ B) : SvAt w' x := ⟨h.apart.on hb hB, h.near.on hb hB, h.dom⟩
/-- A wish's services in memory. -/
structure WiAt (w : World) (A : Option Addr) (c : Nat) (xs : List (Svc × SvA)) : Prop where
  row : Rv 8 svV w A c xs
  each : ∀ x ∈ xs, SvAt w x
theorem WiAt.on {w w' : World} {A : Option Addr} {c : Nat} {xs : List (Svc × SvA)} {B : Nat} (h : WiAt w A c xs) (hb : Below B w w') (hB : w.heap.size ≤ B) : WiAt w' A c xs := ⟨h.row.on hb hB, fun x hx => (h.each x hx).on hb hB⟩
def svs (xs : List (Svc × SvA)) : List Svc := xs.map (·.1)
theorem svs_len (xs : List (Svc × SvA)) : (svs xs).length = xs.length := by simp [svs]
theorem svs_at {xs : List (Svc × SvA)} {i : Nat} {x : Svc × SvA} (h : xs[i]? = some x) : (svs xs)[i]? = some x.1 := by simp [svs, h]
/-- Where a world's lists lie. -/
structure WP where
  a1 : Option Addr
  c1 : Nat
  a2 : Option Addr
  c2 : Nat
def woA (p : WP) (d : WorldD) : Array Value := #[.slice p.a1 d.hosts.length p.c1, .slice p.a2 d.reps.length p.c2]
structure WoAt (w : World) (p : WP) (d : WorldD) : Prop where
  hosts : Rv 2 hstV w p.a1 p.c1 d.hosts
  reps : Rv 2 repV w p.a2 p.c2 d.reps
  phase : ∀ h ∈ d.hosts, h.phase < 256
theorem WoAt.on {w w' : World} {p : WP} {d : WorldD} {B : Nat} (h : WoAt w p d) (hb : Below B w w') (hB : w.heap.size ≤ B) : WoAt w' p d := ⟨h.hosts.on hb hB, h.reps.on hb hB, h.phase⟩
def WoBox (w : World) (b : Nat) (p : WP) (d : WorldD) : Prop := w.heap[b]? = some (.cells (woA p d) 25 (0, 0))
theorem WoBox.on {w w' : World} {b : Nat} {p : WP} {d : WorldD} {B : Nat} (h : WoBox w b p d) (hb : Below B w w') (hB : w.heap.size ≤ B) : WoBox w' b p d := (hb.block _ (Nat.lt_of_lt_of_le (at_lt h) hB)).trans h
theorem WoBox.c0 {w : World} {b : Nat} {p : WP} {d : WorldD} (h : WoBox w b p d) : w.cell? ⟨b, 0, none⟩ = some (.slice p.a1 d.hosts.length p.c1) := cell_of h rfl
theorem WoBox.c1 {w : World} {b : Nat} {p : WP} {d : WorldD} (h : WoBox w b p d) : w.cell? ⟨b, 1, none⟩ = some (.slice p.a2 d.reps.length p.c2) := cell_of h rfl
def WiBox (w : World) (b : Nat) (A : Option Addr) (n c : Nat) : Prop := w.heap[b]? = some (.cells #[.slice A n c] 45 (0, 0))
theorem WiBox.on {w w' : World} {b : Nat} {A : Option Addr} {n c B : Nat} (h : WiBox w b A n c) (hb : Below B w w') (hB : w.heap.size ≤ B) : WiBox w' b A n c := (hb.block _ (Nat.lt_of_lt_of_le (at_lt h) hB)).trans h
theorem WiBox.c0 {w : World} {b : Nat} {A : Option Addr} {n c : Nat} (h : WiBox w b A n c) : w.cell? ⟨b, 0, none⟩ = some (.slice A n c) := cell_of h rfl
theorem box_new (w : World) (cs : Array Value) (T : TypeId) : (w.alloc (.cells cs T)).heap[w.heap.size]? = some (.cells cs T (0, 0)) := heap_alloc_new _ _
theorem box_on {w w' : World} {b : Nat} {o : Obj} {B : Nat} (h : w.heap[b]? = some o) (hb : Below B w w') (hB : w.heap.size ≤ B) : w'.heap[b]? = some o := (hb.block _ (Nat.lt_of_lt_of_le (at_lt h) hB)).trans h
theorem rep_at {w : World} {b o c : Nat} {l : List Rep} (h : Rv 2 repV w (some ⟨b, o, none⟩) c l) {j : Nat} {x : Rep} (hj : l[j]? = some x) : w.cell? ⟨b, o + j * 2, none⟩ = some (.int .i64 x.svc) ∧ w.cell? ⟨b, o + j * 2 + 1, none⟩ = some (.int .i64 x.host) := by
  obtain ⟨b', o', e, -, h0⟩ := h.at_ hj
  injection e with e
  injection e with e1 e2
  subst e1 e2
  exact ⟨h0 0 (by omega), h0 1 (by omega)⟩
theorem hst_at {w : World} {b o c : Nat} {l : List Hst} (h : Rv 2 hstV w (some ⟨b, o, none⟩) c l) {j : Nat} {x : Hst} (hj : l[j]? = some x) : w.cell? ⟨b, o + j * 2, none⟩ = some (.int .u8 (x.phase : Int)) ∧ w.cell? ⟨b, o + j * 2 + 1, none⟩ = some (.int .i64 x.fw) := by
  obtain ⟨b', o', e, -, h0⟩ := h.at_ hj
  injection e with e
  injection e with e1 e2
  subst e1 e2
  exact ⟨h0 0 (by omega), h0 1 (by omega)⟩
theorem near_at {w : World} {b o c : Nat} {l : List Nr} (h : Rv 2 nrV w (some ⟨b, o, none⟩) c l) {j : Nat} {x : Nr} (hj : l[j]? = some x) : w.cell? ⟨b, o + j * 2, none⟩ = some (.int .i64 x.svc) ∧ w.cell? ⟨b, o + j * 2 + 1, none⟩ = some (.int .i64 x.lat) := by
  obtain ⟨b', o', e, -, h0⟩ := h.at_ hj
  injection e with e
  injection e with e1 e2
  subst e1 e2
  exact ⟨h0 0 (by omega), h0 1 (by omega)⟩
theorem int_at {w : World} {b o c : Nat} {l : List Int} (h : Rv 1 inV w (some ⟨b, o, none⟩) c l) {j : Nat} {x : Int} (hj : l[j]? = some x) : w.cell? ⟨b, o + j, none⟩ = some (.int .i64 x) := by
  obtain ⟨b', o', e, -, h0⟩ := h.at_ hj
  injection e with e
  injection e with e1 e2
  subst e1 e2
  have := h0 0 (by omega)
  rwa [Nat.mul_one, Nat.add_zero] at this
theorem sv_at {w : World} {b o c : Nat} {l : List (Svc × SvA)} (h : Rv 8 svV w (some ⟨b, o, none⟩) c l) {j : Nat} {x : Svc × SvA} (hj : l[j]? = some x) :
    w.cell? ⟨b, o + j * 8, none⟩ = some (.int .i64 x.1.cores) ∧ w.cell? ⟨b, o + j * 8 + 1, none⟩ = some (.int .i64 x.1.reps) ∧ w.cell? ⟨b, o + j * 8 + 2, none⟩ = some (.int .i64 x.1.least) ∧ w.cell? ⟨b, o + j * 8 + 3, none⟩ = some (.int .u8 (x.1.dom : Int)) ∧ w.cell? ⟨b, o + j * 8 + 4, none⟩ = some (.int .i64 x.1.spread) ∧ w.cell? ⟨b, o + j * 8 + 5, none⟩ = some (.slice x.2.a1 x.1.apart.length x.2.c1) ∧ w.cell? ⟨b, o + j * 8 + 6, none⟩ = some (.slice x.2.a2 x.1.near.length x.2.c2) ∧ w.cell? ⟨b, o + j * 8 + 7, none⟩ = some (.int .i64 x.1.fw) := by
  obtain ⟨b', o', e, -, h0⟩ := h.at_ hj
  injection e with e
  injection e with e1 e2
  subst e1 e2
  exact ⟨h0 0 (by omega), h0 1 (by omega), h0 2 (by omega), h0 3 (by omega), h0 4 (by omega), h0 5 (by omega), h0 6 (by omega), h0 7 (by omega)⟩
end Go.Proofs.Ytidpiokkfnhobaa

namespace Go.Proofs.Ytidpiokkfnhobaa
open Go.RowKit
set_option maxRecDepth 100000
set_option linter.unusedVariables false
set_option linter.unusedSimpArgs false

set_option maxHeartbeats 2000000 in
theorem c_woIsFrom (lo hi n : Int) (r : Bool) (hr : inB n lo hi = r) (w : World) : Calls Try.prog 25 #[.int .i64 lo, .int .i64 hi, .int .i64 n] w fun e w' => e = .returned (.bool r) ∧ w' = w := by
  unfold inB at hr
  rcases h1 : decide (lo ≤ n) with _ | _
  · rw [h1] at hr
    obtain rfl : false = r := hr
    go_enter Try.func25, Try.ntmps25
    go_wp2
    go_ret
    exact ⟨rfl, rfl⟩
  · rw [h1] at hr
    obtain rfl : decide (n ≤ hi) = r := hr
    go_enter Try.func25, Try.ntmps25
    go_wp2
    go_ret
    exact ⟨rfl, rfl⟩
set_option maxHeartbeats 2000000 in
theorem c_woIsIndex (x m : Int) (r : Bool) (hr : ixB x m = r) (w : World) : Calls Try.prog 27 #[.int .i64 x, .int .i64 m] w fun e w' => e = .returned (.bool r) ∧ w' = w := by
  unfold ixB at hr
  rcases h1 : decide (0 ≤ x) with _ | _
  · rw [h1] at hr
    obtain rfl : false = r := hr
    go_enter Try.func27, Try.ntmps27
    go_wp2
    go_ret
    exact ⟨rfl, rfl⟩
  · rw [h1] at hr
    obtain rfl : decide (x < m) = r := hr
    go_enter Try.func27, Try.ntmps27
    go_wp2
    go_ret
    exact ⟨rfl, rfl⟩
def cmpI (x y : Int) : Int := if x < y then -1 else if y < x then 1 else 0
theorem c_cmpInt (x y : Int) (w : World) : Calls Try.prog 81 #[.int .i64 x, .int .i64 y] w fun e w' => e = .returned (.int .i64 (cmpI x y)) ∧ w' = w := by
  unfold cmpI
  have hn : ∀ (z : Int) (w : World), Calls Try.prog 93 #[.int .i64 z] w fun e w' => e = .returned (.bool false) ∧ w' = w := by
    intro z w
    go_enter Try.func93, Try.ntmps93
    go_wp2
    go_ret
    exact ⟨by simp, rfl⟩
  have HN := Lib.hid hn
  clear hn
  by_cases h1 : x < y
  · rw [if_pos h1]
    go_enter Try.func81, Try.ntmps81
    go_wp2_with (go_at_call 93; refine (HN.out _ _).mono ?_; rintro e w' ⟨rfl, rfl⟩)
    go_ret
    exact ⟨rfl, rfl⟩
  · rw [if_neg h1]
    by_cases h2 : y < x
    · rw [if_pos h2]
      go_enter Try.func81, Try.ntmps81
      go_wp2_with (go_at_call 93; refine (HN.out _ _).mono ?_; rintro e w' ⟨rfl, rfl⟩)
      go_ret
      exact ⟨rfl, rfl⟩
    · rw [if_neg h2]
      go_enter Try.func81, Try.ntmps81
      go_wp2_with (go_at_call 93; refine (HN.out _ _).mono ?_; rintro e w' ⟨rfl, rfl⟩)
      go_ret
      exact ⟨rfl, rfl⟩
set_option maxHeartbeats 2000000 in
theorem c_orInt (b : Nat) (x y : Int) (r : Int) (hr : (if x = 0 then y else x) = r) (w : World) (hb : w.heap[b]? = some (.cells #[.int .i64 x, .int .i64 y] 3 (0, 0))) :
    Calls Try.prog 80 #[.slice (some ⟨b, 0, none⟩) 2 2] w fun e w' => e = .returned (.int .i64 r) ∧ w' = w := by
  have x0 : w.cell? ⟨b, 0, none⟩ = some (.int .i64 x) := cell_of hb rfl
  have x1 : w.cell? ⟨b, 1, none⟩ = some (.int .i64 y) := cell_of hb rfl
  clear hb
  have HR := Lib.hid hr
  clear hr
  go_enter Try.func80, Try.ntmps80
  go_wp2_with (fail)
  go_loopw [8] (fun i wr => ∃ k : Nat, k ≤ 2 ∧ i = .int .i64 (k : Int) ∧ wr = w ∧ Hid ((1 ≤ k → x = 0) ∧ (2 ≤ k → y = 0))) (fun i _ => 2 - (intOf i).toNat)
  case atStart => exact ⟨0, by omega, rfl, rfl, Lib.hid ⟨by omega, by omega⟩⟩
  case round =>
    obtain ⟨k, hk, rfl, rfl, hz⟩ := hrel
    match k, hk with
    | 0, _ =>
      rcases hx : (x != 0) with _ | _
      · have HX := Lib.hid (show x = 0 by simpa using hx)
        go_wp2_with (fail)
        go_roundw
        case rel => exact ⟨1, by omega, rfl, trivial, Lib.hid ⟨fun _ => HX.out, by omega⟩⟩
        case measure => simp [intOf]
      · have HX := Lib.hid (show x = r by rw [← HR.out, if_neg (by simpa using hx)])
        go_wp2_with (fail)
        go_ret
        exact ⟨(show Ending.returned (.int .i64 x) = .returned (.int .i64 r) by rw [HX.out]), rfl⟩
    | 1, _ =>
      have HY := Lib.hid (show y = r by rw [← HR.out, if_pos (hz.out.1 (by omega))])
      rcases hy : (y != 0) with _ | _
      · have HX := Lib.hid (show y = 0 by simpa using hy)
        go_wp2_with (fail)
        go_roundw
        case rel => exact ⟨2, by omega, rfl, trivial, Lib.hid ⟨fun _ => hz.out.1 (by omega), fun _ => HX.out⟩⟩
        case measure => simp [intOf]
      · go_wp2_with (fail)
        go_ret
        exact ⟨(show Ending.returned (.int .i64 y) = .returned (.int .i64 r) by rw [HY.out]), rfl⟩
    | 2, _ =>
      have HY := Lib.hid (show 0 = r by rw [← HR.out, if_pos (hz.out.1 (by omega)), hz.out.2 (by omega)])
      go_wp2_with (fail)
      go_ret
      exact ⟨(show Ending.returned (.int .i64 0) = .returned (.int .i64 r) by rw [HY.out]), rfl⟩
def cmpR (a b : Rep) : Int := if cmpI a.svc b.svc = 0 then cmpI a.host b.host else cmpI a.svc b.svc
theorem cmpR_less (a b : Rep) : decide (0 ≤ cmpR a b) = !lessR a b := by
  have h : 0 ≤ cmpR a b ↔ ¬ lessR a b = true := by
    rw [lessR_iff]
    unfold cmpR cmpI
    repeat' split
    all_goals omega
  cases h2 : lessR a b
  · simp [h, h2]
  · simp [h, h2]
set_option maxHeartbeats 4000000 in
theorem c_compare (p q : Rep) (r : Int) (hr : cmpR p q = r) (w : World) : Calls Try.prog 58 #[.agg #[.int .i64 p.svc, .int .i64 p.host], .agg #[.int .i64 q.svc, .int .i64 q.host]] w fun e w' => e = .returned (.int .i64 r) ∧ Below w.heap.size w w' := by
  obtain ⟨W1, hW1⟩ : ∃ W, W = w.alloc (.cells #[.int .i64 p.svc, .int .i64 p.host] 51) := ⟨_, rfl⟩
  obtain ⟨W2, hW2⟩ : ∃ W, W = W1.alloc (.cells #[.int .i64 q.svc, .int .i64 q.host] 51) := ⟨_, rfl⟩
  have hs1 : W1.heap.size = w.heap.size + 1 := by rw [hW1, World.size_alloc]
  have hs2 : W2.heap.size = w.heap.size + 2 := by rw [hW2, World.size_alloc]; omega
  have b1 : W1.heap[w.heap.size]? = some (.cells #[.int .i64 p.svc, .int .i64 p.host] 51 (0, 0)) := by rw [hW1]; exact box_new _ _ _
  have b2 : W2.heap[w.heap.size]? = some (.cells #[.int .i64 p.svc, .int .i64 p.host] 51 (0, 0)) := by rw [hW2]; exact old_heap _ b1
  have b3 : W2.heap[w.heap.size + 1]? = some (.cells #[.int .i64 q.svc, .int .i64 q.host] 51 (0, 0)) := by rw [← hs1, hW2]; exact box_new _ _ _
  have HB := Lib.hid (show Below w.heap.size w W2 by rw [hW2]; exact ((hW1 ▸ (Below.refl _ _).alloc (Nat.le_refl _) _ : Below w.heap.size w W1)).alloc (by omega) _)
  have HF := Lib.hid (fun (X : World) (hX : Below W2.heap.size W2 X) => (⟨cell_of (box_on b2 hX (Nat.le_refl _)) rfl, cell_of (box_on b2 hX (Nat.le_refl _)) rfl, cell_of (box_on b3 hX (Nat.le_refl _)) rfl, cell_of (box_on b3 hX (Nat.le_refl _)) rfl⟩ : X.cell? ⟨w.heap.size, 0, none⟩ = some (.int .i64 p.svc) ∧ X.cell? ⟨w.heap.size, 1, none⟩ = some (.int .i64 p.host) ∧ X.cell? ⟨w.heap.size + 1, 0, none⟩ = some (.int .i64 q.svc) ∧ X.cell? ⟨w.heap.size + 1, 1, none⟩ = some (.int .i64 q.host)))
  have HR := Lib.hid (show (if cmpI p.svc q.svc = 0 then cmpI p.host q.host else cmpI p.svc q.svc) = r from hr)
  clear hr b1 b2 b3 hs1 hs2
  obtain ⟨x0, x1, x2, x3⟩ := HF.out W2 (Below.refl _ _)
  generalize hA : w.heap.size = A at *
  go_enter Try.func58, Try.ntmps58
  go_wp2_with (fail)
  rw [← hW1, ← hW2]
  clear hW1 hW2
  have HO := Lib.hid (c_orInt W2.heap.size (cmpI p.svc q.svc) (cmpI p.host q.host) r HR.out (W2.alloc (.cells #[.int .i64 (cmpI p.svc q.svc), .int .i64 (cmpI p.host q.host)] 3)).drew (box_new W2 _ _))
  have HK := Lib.hid (HF.out (W2.alloc (.cells #[.int .i64 (cmpI p.svc q.svc), .int .i64 (cmpI p.host q.host)] 3)).drew ((Below.refl _ _).alloc (Nat.le_refl _) _).drew)
  go_region_held3 (fun X => X.cell? ⟨A, 0, none⟩ = some (.int .i64 p.svc) ∧ X.cell? ⟨A, 1, none⟩ = some (.int .i64 p.host) ∧ X.cell? ⟨A + 1, 0, none⟩ = some (.int .i64 q.svc) ∧ X.cell? ⟨A + 1, 1, none⟩ = some (.int .i64 q.host))
    (first | exact HF.out W2 (Below.refl _ _) | exact HF.out W2.drew (Below.refl _ _).drew | exact HK.out | fail)
    (first
      | (go_at_call 81; (with_reducible refine (c_cmpInt _ _ _).mono ?_); rintro e w1 ⟨rfl, rfl⟩)
      | (go_at_call 80; refine HO.out.mono ?_; rintro e w1 ⟨rfl, rfl⟩)
      | fail)
  go_wp2_with (fail)
  go_ret
  exact ⟨rfl, below_join HB.out (((Below.refl W2.heap.size W2).alloc (Nat.le_refl _) _).drew) (by have := HB.out.size; omega)⟩
set_option maxHeartbeats 8000000 in
theorem c_ascend (A : Option Addr) (c : Nat) (l : List Rep) (r : Bool) (hr : ascB l = r) (w : World) (h : Rv 2 repV w A c l) :
    Calls Try.prog 32 #[.slice A l.length c] w fun e w' => e = .returned (.bool r) ∧ Below w.heap.size w w' := by
  have H := Lib.hid h
  have HR := Lib.hid hr
  have k1 := h.1; have k2 := h.2.1
  unfold maxLen at k2
  clear h hr
  go_enter Try.func32, Try.ntmps32
  go_wp2_with (fail)
  go_loopw [3] (fun i wr => ∃ k : Nat, (k ≤ l.length ∨ k = 1) ∧ 1 ≤ k ∧ i = .int .i64 (k : Int) ∧ Hid (Below w.heap.size w wr) ∧ Hid (∀ j a b, j + 1 < k → l[j]? = some a → l[j + 1]? = some b → lessR a b = true)) (fun i _ => l.length - (intOf i).toNat)
  case atStart => exact ⟨1, .inr rfl, by omega, rfl, Lib.hid (Below.refl _ _), Lib.hid (fun j a b hj => absurd hj (by omega))⟩
  case round =>
    obtain ⟨k, hk, hk1, rfl, hB, hasc⟩ := hrel
    by_cases hlt : k < l.length
    · obtain ⟨m, hm⟩ : ∃ m, k = m + 1 := ⟨k - 1, by omega⟩
      obtain ⟨x, hx⟩ : ∃ x, l[m]? = some x := ⟨_, List.getElem?_eq_getElem (by omega)⟩
      obtain ⟨y, hy⟩ : ∃ y, l[k]? = some y := ⟨_, List.getElem?_eq_getElem hlt⟩
      obtain ⟨b, o, rfl, -, -⟩ := H.out.at_ hx
      have HF := Lib.hid (fun (X : World) (hX : Below w.heap.size w X) => (let z := rep_at (H.out.on hX (Nat.le_refl _)) hx; let u := rep_at (H.out.on hX (Nat.le_refl _)) hy; (⟨z.1, z.2, u.1, u.2⟩ : X.cell? ⟨b, o + m * 2, none⟩ = some (.int .i64 x.svc) ∧ X.cell? ⟨b, o + m * 2 + 1, none⟩ = some (.int .i64 x.host) ∧ X.cell? ⟨b, o + k * 2, none⟩ = some (.int .i64 y.svc) ∧ X.cell? ⟨b, o + k * 2 + 1, none⟩ = some (.int .i64 y.host))))
      obtain ⟨f0, f1, f2, f3⟩ := HF.out wr hB.out
      have hk2 : ((k : Nat) : Int) < (l.length : Int) := by omega
      have hk3 : IntKind.i64.wrap (((k : Nat) : Int) - 1) = (m : Int) := by rw [show ((k : Nat) : Int) - 1 = (m : Int) by omega]; exact wrap_in (by omega) (by omega)
      have hk0 : (0 : Int) ≤ (m : Int) := by omega
      have hk4 : ((m : Nat) : Int) < (l.length : Int) := by omega
      have hi1 : ((m : Nat) : Int).toNat = m := by omega
      have hi2 : ((k : Nat) : Int).toNat = k := by omega
      have HM := Lib.hid hm
      clear hm
      have HXX := Lib.hid hx
      have HYY := Lib.hid hy
      obtain ⟨z, hz⟩ : ∃ z, cmpR x y = z := ⟨_, rfl⟩
      have HZ := Lib.hid hz
      have HC := Lib.hid (c_compare x y z hz wr.drew)
      clear hx hy hz
      go_wp2_with (fail)
      go_region_held3 (fun X => X.cell? ⟨b, o + m * 2, none⟩ = some (.int .i64 x.svc) ∧ X.cell? ⟨b, o + m * 2 + 1, none⟩ = some (.int .i64 x.host) ∧ X.cell? ⟨b, o + k * 2, none⟩ = some (.int .i64 y.svc) ∧ X.cell? ⟨b, o + k * 2 + 1, none⟩ = some (.int .i64 y.host))
        (first | exact HF.out wr hB.out | exact HF.out w1 HB1.out | fail)
        (first
          | (go_at_call 58; refine HC.out.mono ?_; rintro e w1 ⟨rfl, bb1⟩; have HB1 := Lib.hid (below_join hB.out.drew bb1 hB.out.size); clear bb1)
          | fail)
      rcases hL : lessR x y with _ | _
      · obtain rfl : false = r := by
          rw [← HR.out]
          refine ((Bool.eq_false_iff).2 fun h => ?_).symm
          have := ascB_iff.1 h m x y HXX.out (by rw [← HM.out]; exact HYY.out)
          rw [hL] at this; cases this
        have hd : decide (0 ≤ z) = true := by rw [← HZ.out, cmpR_less, hL]; rfl
        rw [hd]
        go_wp2_with (fail)
        go_ret
        exact ⟨rfl, HB1.out⟩
      · have hd : decide (0 ≤ z) = false := by rw [← HZ.out, cmpR_less, hL]; rfl
        have HN := Lib.hid (show ∀ j a b, j + 1 < k + 1 → l[j]? = some a → l[j + 1]? = some b → lessR a b = true from fun j a b hj ha hb => by
          have hM := HM.out
          by_cases e : j + 1 < k
          · exact hasc.out j a b e ha hb
          · obtain rfl : j = m := by omega
            rw [HXX.out] at ha
            rw [← hM, HYY.out] at hb
            injection ha with ha
            injection hb with hb
            subst ha hb
            exact hL)
        rw [hd]
        go_wp2_with (fail)
        go_roundw
        case rel => exact ⟨k + 1, .inl (by omega), by omega, by go_num, HB1, HN⟩
        case measure => simp only [intOf]; omega
    · obtain rfl : true = r := by
        rw [← HR.out]
        refine (ascB_iff.2 fun i a b ha hb => hasc.out i a b ?_ ha hb).symm
        have := (List.getElem?_eq_some_iff.1 hb).1
        omega
      go_wp2_with (fail)
      go_ret
      exact ⟨rfl, hB.out⟩
end Go.Proofs.Ytidpiokkfnhobaa

namespace Go.Proofs.Ytidpiokkfnhobaa
open Go.RowKit
set_option maxRecDepth 100000
set_option linter.unusedVariables false
set_option linter.unusedSimpArgs false

set_option maxHeartbeats 4000000 in
theorem c_badNear (x : Nr) (r : Bool) (hr : nearBad x = r) (w : World) : Calls Try.prog 74 #[.agg #[.int .i64 x.svc, .int .i64 x.lat]] w fun e w' => e = .returned (.bool r) ∧ Below w.heap.size w w' := by
  obtain ⟨W, hW⟩ : ∃ W, W = w.alloc (.cells #[.int .i64 x.svc, .int .i64 x.lat] 131) := ⟨_, rfl⟩
  have HB := Lib.hid (show Below w.heap.size w W by subst hW; exact (Below.refl _ _).alloc (Nat.le_refl _) _)
  have x1 : W.cell? ⟨w.heap.size, 1, none⟩ = some (.int .i64 x.lat) := by subst hW; exact cell_of (box_new _ _ _) rfl
  obtain ⟨q, hq⟩ : ∃ q, inB x.lat 0 1000000 = q := ⟨_, rfl⟩
  have HQ := Lib.hid hq
  have HR := Lib.hid (show (!q) = r by rw [← hq]; exact hr)
  clear hr hq
  generalize hA : w.heap.size = A at *
  go_enter Try.func74, Try.ntmps74
  go_wp2_with (fail)
  rw [← hW]
  clear hW
  go_wp2_with (go_at_call 25; refine (c_woIsFrom _ _ _ q HQ.out _).mono ?_; rintro e w1 ⟨rfl, rfl⟩)
  go_ret
  exact ⟨(show Ending.returned (.bool (!q)) = .returned (.bool r) by rw [HR.out]), HB.out⟩
set_option maxHeartbeats 4000000 in
theorem c_badHst (x : Hst) (r : Bool) (hr : (!hstOk x) = r) (w : World) : Calls Try.prog 24 #[.agg #[.int .u8 (x.phase : Int), .int .i64 x.fw]] w fun e w' => e = .returned (.bool r) ∧ Below w.heap.size w w' := by
  obtain ⟨W, hW⟩ : ∃ W, W = w.alloc (.cells #[.int .u8 (x.phase : Int), .int .i64 x.fw] 29) := ⟨_, rfl⟩
  have HB := Lib.hid (show Below w.heap.size w W by subst hW; exact (Below.refl _ _).alloc (Nat.le_refl _) _)
  have x0 : W.cell? ⟨w.heap.size, 0, none⟩ = some (.int .u8 (x.phase : Int)) := by subst hW; exact cell_of (box_new _ _ _) rfl
  have x1 : W.cell? ⟨w.heap.size, 1, none⟩ = some (.int .i64 x.fw) := by subst hW; exact cell_of (box_new _ _ _) rfl
  obtain ⟨q, hq⟩ : ∃ q, inB x.fw 0 1000000 = q := ⟨_, rfl⟩
  have HQ := Lib.hid hq
  have HR := Lib.hid (show (!(decide (x.phase ≤ 4) && q)) = r by rw [← hq]; exact hr)
  clear hr hq
  generalize hA : w.heap.size = A at *
  by_cases hp : x.phase ≤ 4
  · have hd : decide ((4 : Int) < (x.phase : Int)) = false := decide_eq_false (by omega)
    have HE := Lib.hid (show (!q) = r by have h := HR.out; rw [decide_eq_true hp] at h; exact h)
    clear hp
    go_enter Try.func24, Try.ntmps24
    go_wp2_with (fail)
    rw [← hW]
    clear hW
    go_wp2_with (go_at_call 25; refine (c_woIsFrom _ _ _ q HQ.out _).mono ?_; rintro e w1 ⟨rfl, rfl⟩)
    go_ret
    exact ⟨(show Ending.returned (.bool (!q)) = .returned (.bool r) by rw [HE.out]), HB.out⟩
  · have hd : decide ((4 : Int) < (x.phase : Int)) = true := decide_eq_true (by omega)
    obtain rfl : true = r := by have h := HR.out; rw [decide_eq_false hp] at h; exact h
    clear hp
    go_enter Try.func24, Try.ntmps24
    go_wp2_with (fail)
    rw [← hW]
    clear hW
    go_wp2_with (fail)
    go_ret
    exact ⟨rfl, HB.out⟩
set_option maxHeartbeats 4000000 in
theorem c_badRep (wb sb : Nat) (p : SP) (s : SiteD) (WA : Option Addr) (n wc : Nat) (x : Rep) (r : Bool) (hr : (!repOk n s.hosts.length x) = r) (w : World) (hw : WiBox w wb WA n wc) (hs : SiBox w sb p s) :
    Calls Try.prog 26 #[.agg #[.int .i64 x.svc, .int .i64 x.host], .pointer (some ⟨wb, 0, none⟩), .pointer (some ⟨sb, 0, none⟩)] w fun e w' => e = .returned (.bool r) ∧ Below w.heap.size w w' := by
  obtain ⟨W, hW⟩ : ∃ W, W = w.alloc (.cells #[.int .i64 x.svc, .int .i64 x.host] 51) := ⟨_, rfl⟩
  have B0 : Below w.heap.size w W := by subst hW; exact (Below.refl _ _).alloc (Nat.le_refl _) _
  have HB := Lib.hid B0
  have x0 : W.cell? ⟨w.heap.size, 0, none⟩ = some (.int .i64 x.svc) := by subst hW; exact cell_of (box_new _ _ _) rfl
  have x1 : W.cell? ⟨w.heap.size, 1, none⟩ = some (.int .i64 x.host) := by subst hW; exact cell_of (box_new _ _ _) rfl
  have y0 := (hw.on B0 (Nat.le_refl _)).c0
  have y1 := (hs.on B0 (Nat.le_refl _)).c6
  obtain ⟨q1, hq1⟩ : ∃ q, ixB x.svc (n : Int) = q := ⟨_, rfl⟩
  obtain ⟨q2, hq2⟩ : ∃ q, ixB x.host (s.hosts.length : Int) = q := ⟨_, rfl⟩
  have HQ1 := Lib.hid hq1
  have HQ2 := Lib.hid hq2
  have HR := Lib.hid (show (!(q1 && q2)) = r by rw [← hq1, ← hq2]; exact hr)
  clear hr hq1 hq2 hw hs B0
  generalize hA : w.heap.size = A at *
  cases q1
  · obtain rfl : true = r := by have h := HR.out; exact h
    rw [hW] at x0 x1 y0 y1
    go_enter Try.func26, Try.ntmps26
    go_wp2_with (fail)
    rw [← hW] at x0 x1 y0 y1 ⊢
    clear hW
    go_at_call 27
    refine (c_woIsIndex _ _ false HQ1.out _).mono ?_
    rintro e w1 ⟨rfl, rfl⟩
    go_wp2_with (fail)
    go_ret
    exact ⟨rfl, HB.out⟩
  · have HE := Lib.hid (show (!q2) = r by have h := HR.out; exact h)
    rw [hW] at x0 x1 y0 y1
    go_enter Try.func26, Try.ntmps26
    go_wp2_with (fail)
    rw [← hW] at x0 x1 y0 y1 ⊢
    clear hW
    go_at_call 27
    refine (c_woIsIndex _ _ true HQ1.out _).mono ?_
    rintro e w1 ⟨rfl, rfl⟩
    go_wp2_with (fail)
    go_at_call 27
    refine (c_woIsIndex _ _ q2 HQ2.out _).mono ?_
    rintro e w1 ⟨rfl, rfl⟩
    go_wp2_with (fail)
    go_ret
    exact ⟨(show Ending.returned (.bool (!q2)) = .returned (.bool r) by rw [HE.out]), HB.out⟩
set_option maxHeartbeats 4000000 in
theorem c_IF_Near (A : Option Addr) (c : Nat) (l : List Nr) (w : World) (h : Rv 2 nrV w A c l) (y : Int) (hy : fidx nearBad l = y) :
    Calls Try.prog 92 #[.slice A l.length c, .func (.func 74) #[] #[]] w fun e w' => e = .returned (.int .i64 y) ∧ Below w.heap.size w w' := by
  have H := Lib.hid h
  have HY := Lib.hid hy
  have hc1 := h.1
  have hc2 := h.2.1
  unfold maxLen at hc2
  clear h hy
  go_enter Try.func92, Try.ntmps92
  go_wp2_with (fail)
  go_loopw [8] (fun i wr => ∃ k : Nat, k ≤ l.length ∧ i = .int .i64 (k : Int) ∧ Hid (∀ i y, i < k → l[i]? = some y → nearBad y = false) ∧ Hid (Below w.heap.size w wr)) (fun i _ => l.length - (intOf i).toNat)
  case atStart => exact ⟨0, Nat.zero_le _, rfl, Lib.hid (fun i y hi => absurd hi (by omega)), Lib.hid (Below.refl _ _)⟩
  case round =>
    obtain ⟨k, hk, rfl, hun, hB⟩ := hrel
    by_cases hlt : k < l.length
    · obtain ⟨⟨z0, z1⟩, hx⟩ : ∃ x, l[k]? = some x := ⟨_, List.getElem?_eq_getElem hlt⟩
      have HK := H.out
      obtain ⟨pb, o, rfl, -, -⟩ := HK.at_ hx
      obtain ⟨y0, y1⟩ := near_at (HK.on hB.out (Nat.le_refl _)) hx
      have HXX := Lib.hid hx
      have hki : ((k : Nat) : Int).toNat = k := by omega
      have hlt' : (k : Int) < ((l.length : Nat) : Int) := by omega
      have HC := Lib.hid (fun (r : Bool) (hr : nearBad ⟨z0, z1⟩ = r) => c_badNear ⟨z0, z1⟩ r hr wr)
      clear hx HK
      rcases hp : nearBad ⟨z0, z1⟩ with _ | _
      · have HP := Lib.hid hp
        clear hp
        go_wp2_with (go_at_call 74; refine (HC.out _ HP.out).mono ?_; rintro e w1 ⟨rfl, b1⟩; have HB1 := Lib.hid (below_join hB.out b1 hB.out.size); clear b1 y0 y1)
        go_roundw
        case rel => exact ⟨k + 1, by omega, by go_num, Lib.hid (fun i y hi hy => by
          rcases Nat.lt_or_ge i k with h | h
          · exact hun.out i y h hy
          · obtain rfl : i = k := by omega
            have := HXX.out
            rw [hy] at this
            injection this with this
            subst this
            exact HP.out), HB1⟩
        case measure => simp only [intOf]; omega
      · have HKY := Lib.hid (show (k : Int) = y by rw [← HY.out]; exact (fidx_at _ l k _ hun.out HXX.out hp).symm)
        have HP := Lib.hid hp
        clear hp
        go_wp2_with (go_at_call 74; refine (HC.out _ HP.out).mono ?_; rintro e w1 ⟨rfl, b1⟩; have HB1 := Lib.hid (below_join hB.out b1 hB.out.size); clear b1 y0 y1)
        go_ret
        exact ⟨(show Ending.returned (.int .i64 (k : Int)) = .returned (.int .i64 y) by rw [HKY.out]), HB1.out⟩
    · obtain rfl : k = l.length := by omega
      have HKY := Lib.hid (show (-1 : Int) = y by rw [← HY.out, fidx_none _ l (fun i y hy => hun.out i y (List.getElem?_eq_some_iff.1 hy).1 hy)])
      go_wp2_with (fail)
      go_ret
      exact ⟨(show Ending.returned (.int .i64 (-1)) = .returned (.int .i64 y) by rw [HKY.out]), hB.out⟩
set_option maxHeartbeats 4000000 in
theorem c_CF_Near (A : Option Addr) (c : Nat) (l : List Nr) (w : World) (h : Rv 2 nrV w A c l) (r : Bool) (hr : l.any nearBad = r) :
    Calls Try.prog 75 #[.slice A l.length c, .func (.func 74) #[] #[]] w fun e w' => e = .returned (.bool r) ∧ Below w.heap.size w w' := by
  obtain ⟨y, hy⟩ : ∃ y, fidx nearBad l = y := ⟨_, rfl⟩
  have HC := Lib.hid (c_IF_Near A c l w h y hy)
  have HR := Lib.hid (show decide (0 ≤ y) = r by rw [← hy, fidx_any, hr])
  clear hy hr h
  go_enter Try.func75, Try.ntmps75
  go_wp2_with (go_at_call 92; refine HC.out.mono ?_; rintro e w1 ⟨rfl, b1⟩; have HB1 := Lib.hid b1; clear b1)
  go_ret
  exact ⟨(show Ending.returned (.bool (decide (0 ≤ y))) = .returned (.bool r) by rw [HR.out]), HB1.out⟩
set_option maxHeartbeats 4000000 in
theorem c_IF_HostState (A : Option Addr) (c : Nat) (l : List Hst) (w : World) (h : Rv 2 hstV w A c l) (y : Int) (hy : fidx (fun x => !hstOk x) l = y) :
    Calls Try.prog 56 #[.slice A l.length c, .func (.func 24) #[] #[]] w fun e w' => e = .returned (.int .i64 y) ∧ Below w.heap.size w w' := by
  have H := Lib.hid h
  have HY := Lib.hid hy
  have hc1 := h.1
  have hc2 := h.2.1
  unfold maxLen at hc2
  clear h hy
  go_enter Try.func56, Try.ntmps56
  go_wp2_with (fail)
  go_loopw [8] (fun i wr => ∃ k : Nat, k ≤ l.length ∧ i = .int .i64 (k : Int) ∧ Hid (∀ i y, i < k → l[i]? = some y → (fun x => !hstOk x) y = false) ∧ Hid (Below w.heap.size w wr)) (fun i _ => l.length - (intOf i).toNat)
  case atStart => exact ⟨0, Nat.zero_le _, rfl, Lib.hid (fun i y hi => absurd hi (by omega)), Lib.hid (Below.refl _ _)⟩
  case round =>
    obtain ⟨k, hk, rfl, hun, hB⟩ := hrel
    by_cases hlt : k < l.length
    · obtain ⟨⟨z0, z1⟩, hx⟩ : ∃ x, l[k]? = some x := ⟨_, List.getElem?_eq_getElem hlt⟩
      have HK := H.out
      obtain ⟨pb, o, rfl, -, -⟩ := HK.at_ hx
      obtain ⟨y0, y1⟩ := hst_at (HK.on hB.out (Nat.le_refl _)) hx
      have HXX := Lib.hid hx
      have hki : ((k : Nat) : Int).toNat = k := by omega
      have hlt' : (k : Int) < ((l.length : Nat) : Int) := by omega
      have HC := Lib.hid (fun (r : Bool) (hr : (fun x => !hstOk x) ⟨z0, z1⟩ = r) => c_badHst ⟨z0, z1⟩ r hr wr)
      clear hx HK
      rcases hp : (fun x => !hstOk x) ⟨z0, z1⟩ with _ | _
      · have HP := Lib.hid hp
        clear hp
        go_wp2_with (go_at_call 24; refine (HC.out _ HP.out).mono ?_; rintro e w1 ⟨rfl, b1⟩; have HB1 := Lib.hid (below_join hB.out b1 hB.out.size); clear b1 y0 y1)
        go_roundw
        case rel => exact ⟨k + 1, by omega, by go_num, Lib.hid (fun i y hi hy => by
          rcases Nat.lt_or_ge i k with h | h
          · exact hun.out i y h hy
          · obtain rfl : i = k := by omega
            have := HXX.out
            rw [hy] at this
            injection this with this
            subst this
            exact HP.out), HB1⟩
        case measure => simp only [intOf]; omega
      · have HKY := Lib.hid (show (k : Int) = y by rw [← HY.out]; exact (fidx_at _ l k _ hun.out HXX.out hp).symm)
        have HP := Lib.hid hp
        clear hp
        go_wp2_with (go_at_call 24; refine (HC.out _ HP.out).mono ?_; rintro e w1 ⟨rfl, b1⟩; have HB1 := Lib.hid (below_join hB.out b1 hB.out.size); clear b1 y0 y1)
        go_ret
        exact ⟨(show Ending.returned (.int .i64 (k : Int)) = .returned (.int .i64 y) by rw [HKY.out]), HB1.out⟩
    · obtain rfl : k = l.length := by omega
      have HKY := Lib.hid (show (-1 : Int) = y by rw [← HY.out, fidx_none _ l (fun i y hy => hun.out i y (List.getElem?_eq_some_iff.1 hy).1 hy)])
      go_wp2_with (fail)
      go_ret
      exact ⟨(show Ending.returned (.int .i64 (-1)) = .returned (.int .i64 y) by rw [HKY.out]), hB.out⟩
set_option maxHeartbeats 4000000 in
theorem c_CF_HostState (A : Option Addr) (c : Nat) (l : List Hst) (w : World) (h : Rv 2 hstV w A c l) (r : Bool) (hr : l.any (fun x => !hstOk x) = r) :
    Calls Try.prog 30 #[.slice A l.length c, .func (.func 24) #[] #[]] w fun e w' => e = .returned (.bool r) ∧ Below w.heap.size w w' := by
  obtain ⟨y, hy⟩ : ∃ y, fidx (fun x => !hstOk x) l = y := ⟨_, rfl⟩
  have HC := Lib.hid (c_IF_HostState A c l w h y hy)
  have HR := Lib.hid (show decide (0 ≤ y) = r by rw [← hy, fidx_any, hr])
  clear hy hr h
  go_enter Try.func30, Try.ntmps30
  go_wp2_with (go_at_call 56; refine HC.out.mono ?_; rintro e w1 ⟨rfl, b1⟩; have HB1 := Lib.hid b1; clear b1)
  go_ret
  exact ⟨(show Ending.returned (.bool (decide (0 ≤ y))) = .returned (.bool r) by rw [HR.out]), HB1.out⟩
set_option maxHeartbeats 4000000 in
theorem c_IF_Replica (wb sb : Nat) (p : SP) (s : SiteD) (WA : Option Addr) (n wc : Nat) (A : Option Addr) (c : Nat) (l : List Rep) (w : World) (hw : WiBox w wb WA n wc) (hs : SiBox w sb p s) (h : Rv 2 repV w A c l) (y : Int) (hy : fidx (fun x => !repOk n s.hosts.length x) l = y) :
    Calls Try.prog 57 #[.slice A l.length c, .func (.func 26) #[] #[.pointer (some ⟨wb, 0, none⟩), .pointer (some ⟨sb, 0, none⟩)]] w fun e w' => e = .returned (.int .i64 y) ∧ Below w.heap.size w w' := by
  have H := Lib.hid h
  have HY := Lib.hid hy
  have hc1 := h.1
  have hc2 := h.2.1
  unfold maxLen at hc2
  have HW := Lib.hid hw
  have HS := Lib.hid hs
  clear h hy hw hs
  go_enter Try.func57, Try.ntmps57
  go_wp2_with (fail)
  go_loopw [8] (fun i wr => ∃ k : Nat, k ≤ l.length ∧ i = .int .i64 (k : Int) ∧ Hid (∀ i y, i < k → l[i]? = some y → (fun x => !repOk n s.hosts.length x) y = false) ∧ Hid (Below w.heap.size w wr)) (fun i _ => l.length - (intOf i).toNat)
  case atStart => exact ⟨0, Nat.zero_le _, rfl, Lib.hid (fun i y hi => absurd hi (by omega)), Lib.hid (Below.refl _ _)⟩
  case round =>
    obtain ⟨k, hk, rfl, hun, hB⟩ := hrel
    by_cases hlt : k < l.length
    · obtain ⟨⟨z0, z1⟩, hx⟩ : ∃ x, l[k]? = some x := ⟨_, List.getElem?_eq_getElem hlt⟩
      have HK := H.out
      obtain ⟨pb, o, rfl, -, -⟩ := HK.at_ hx
      obtain ⟨y0, y1⟩ := rep_at (HK.on hB.out (Nat.le_refl _)) hx
      have HXX := Lib.hid hx
      have hki : ((k : Nat) : Int).toNat = k := by omega
      have hlt' : (k : Int) < ((l.length : Nat) : Int) := by omega
      have HC := Lib.hid (fun (r : Bool) (hr : (fun x => !repOk n s.hosts.length x) ⟨z0, z1⟩ = r) => c_badRep wb sb p s WA n wc ⟨z0, z1⟩ r hr wr (HW.out.on hB.out (Nat.le_refl _)) (HS.out.on hB.out (Nat.le_refl _)))
      clear hx HK
      rcases hp : (fun x => !repOk n s.hosts.length x) ⟨z0, z1⟩ with _ | _
      · have HP := Lib.hid hp
        clear hp
        go_wp2_with (go_at_call 26; refine (HC.out _ HP.out).mono ?_; rintro e w1 ⟨rfl, b1⟩; have HB1 := Lib.hid (below_join hB.out b1 hB.out.size); clear b1 y0 y1)
        go_roundw
        case rel => exact ⟨k + 1, by omega, by go_num, Lib.hid (fun i y hi hy => by
          rcases Nat.lt_or_ge i k with h | h
          · exact hun.out i y h hy
          · obtain rfl : i = k := by omega
            have := HXX.out
            rw [hy] at this
            injection this with this
            subst this
            exact HP.out), HB1⟩
        case measure => simp only [intOf]; omega
      · have HKY := Lib.hid (show (k : Int) = y by rw [← HY.out]; exact (fidx_at _ l k _ hun.out HXX.out hp).symm)
        have HP := Lib.hid hp
        clear hp
        go_wp2_with (go_at_call 26; refine (HC.out _ HP.out).mono ?_; rintro e w1 ⟨rfl, b1⟩; have HB1 := Lib.hid (below_join hB.out b1 hB.out.size); clear b1 y0 y1)
        go_ret
        exact ⟨(show Ending.returned (.int .i64 (k : Int)) = .returned (.int .i64 y) by rw [HKY.out]), HB1.out⟩
    · obtain rfl : k = l.length := by omega
      have HKY := Lib.hid (show (-1 : Int) = y by rw [← HY.out, fidx_none _ l (fun i y hy => hun.out i y (List.getElem?_eq_some_iff.1 hy).1 hy)])
      go_wp2_with (fail)
      go_ret
      exact ⟨(show Ending.returned (.int .i64 (-1)) = .returned (.int .i64 y) by rw [HKY.out]), hB.out⟩
set_option maxHeartbeats 4000000 in
theorem c_CF_Replica (wb sb : Nat) (p : SP) (s : SiteD) (WA : Option Addr) (n wc : Nat) (A : Option Addr) (c : Nat) (l : List Rep) (w : World) (hw : WiBox w wb WA n wc) (hs : SiBox w sb p s) (h : Rv 2 repV w A c l) (r : Bool) (hr : l.any (fun x => !repOk n s.hosts.length x) = r) :
    Calls Try.prog 31 #[.slice A l.length c, .func (.func 26) #[] #[.pointer (some ⟨wb, 0, none⟩), .pointer (some ⟨sb, 0, none⟩)]] w fun e w' => e = .returned (.bool r) ∧ Below w.heap.size w w' := by
  obtain ⟨y, hy⟩ : ∃ y, fidx (fun x => !repOk n s.hosts.length x) l = y := ⟨_, rfl⟩
  have HC := Lib.hid (c_IF_Replica wb sb p s WA n wc A c l w hw hs h y hy)
  have HR := Lib.hid (show decide (0 ≤ y) = r by rw [← hy, fidx_any, hr])
  clear hy hr h hw hs
  go_enter Try.func31, Try.ntmps31
  go_wp2_with (go_at_call 57; refine HC.out.mono ?_; rintro e w1 ⟨rfl, b1⟩; have HB1 := Lib.hid b1; clear b1)
  go_ret
  exact ⟨(show Ending.returned (.bool (decide (0 ≤ y))) = .returned (.bool r) by rw [HR.out]), HB1.out⟩
end Go.Proofs.Ytidpiokkfnhobaa

namespace Go.Proofs.Ytidpiokkfnhobaa
open Go.RowKit
set_option maxRecDepth 100000
set_option linter.unusedVariables false
set_option linter.unusedSimpArgs false

set_option maxHeartbeats 8000000 in
theorem c_keeps0 (x : Svc × SvA) (hd : x.1.dom = 0) (r : Bool) (hr : keepB x.1 = r) (w : World) (h : SvAt w x) :
    Calls Try.prog 54 #[.agg (svA x)] w fun e w' => e = .returned (.bool r) ∧ Below w.heap.size w w' := by
  unfold svA
  obtain ⟨W, hW⟩ : ∃ W, W = w.alloc (.cells (svA x) 70) := ⟨_, rfl⟩
  have B0 : Below w.heap.size w W := by subst hW; exact (Below.refl _ _).alloc (Nat.le_refl _) _
  have HB := Lib.hid B0
  have HX : W.heap[w.heap.size]? = some (.cells (svA x) 70 (0, 0)) := by subst hW; exact box_new _ _ _
  have x0 : W.cell? ⟨w.heap.size, 0, none⟩ = some (.int .i64 x.1.cores) := cell_of HX rfl
  have x1 : W.cell? ⟨w.heap.size, 1, none⟩ = some (.int .i64 x.1.reps) := cell_of HX rfl
  have x2 : W.cell? ⟨w.heap.size, 2, none⟩ = some (.int .i64 x.1.least) := cell_of HX rfl
  have x3 : W.cell? ⟨w.heap.size, 3, none⟩ = some (.int .u8 (x.1.dom : Int)) := cell_of HX rfl
  have x4 : W.cell? ⟨w.heap.size, 4, none⟩ = some (.int .i64 x.1.spread) := cell_of HX rfl
  have x6 : W.cell? ⟨w.heap.size, 6, none⟩ = some (.slice x.2.a2 x.1.near.length x.2.c2) := cell_of HX rfl
  have x7 : W.cell? ⟨w.heap.size, 7, none⟩ = some (.int .i64 x.1.fw) := cell_of HX rfl
  have HN := Lib.hid (h.near.on B0 (Nat.le_refl _))
  have HR := Lib.hid (show (inB x.1.cores 1 1000 && (inB x.1.reps 0 24 && (inB x.1.least 0 x.1.reps && (inB x.1.fw 0 1000000 && (decide (x.1.dom ≤ 5) && (inB x.1.spread 0 0 && !x.1.near.any nearBad)))))) = r by unfold keepB at hr; simp only [if_pos hd] at hr; exact hr)
  have hd0 : ((x.1.dom : Int) == 0) = true := by rw [hd]; rfl
  clear hr h HX B0 hd
  generalize hA : w.heap.size = A at *
  unfold svA at hW
  rw [hW] at x0 x1 x2 x3 x4 x6 x7
  go_enter Try.func54, Try.ntmps54
  go_wp2_with (fail)
  rw [← hW] at x0 x1 x2 x3 x4 x6 x7 ⊢
  clear hW
  obtain ⟨r0, h0⟩ : ∃ b, inB x.1.cores 1 1000 = b := ⟨_, rfl⟩
  have Q0 := Lib.hid h0
  clear h0
  go_at_call 25
  refine (c_woIsFrom 1 1000 x.1.cores r0 Q0.out W).mono ?_
  rintro e wx ⟨rfl, hwx⟩
  rw [hwx]
  clear hwx wx
  cases r0
  · obtain rfl : false = r := by have h := HR.out; rw [show (inB x.1.cores 1 1000) = false from Q0.out] at h; exact h
    go_wp2_with (fail)
    go_ret
    exact ⟨rfl, HB.out⟩
  go_wp2_with (fail)
  obtain ⟨r1, h1⟩ : ∃ b, inB x.1.reps 0 24 = b := ⟨_, rfl⟩
  have Q1 := Lib.hid h1
  clear h1
  go_at_call 25
  refine (c_woIsFrom 0 24 x.1.reps r1 Q1.out W).mono ?_
  rintro e wx ⟨rfl, hwx⟩
  rw [hwx]
  clear hwx wx
  cases r1
  · obtain rfl : false = r := by have h := HR.out; rw [show (inB x.1.cores 1 1000) = true from Q0.out, show (inB x.1.reps 0 24) = false from Q1.out] at h; exact h
    go_wp2_with (fail)
    go_ret
    exact ⟨rfl, HB.out⟩
  go_wp2_with (fail)
  obtain ⟨r2, h2⟩ : ∃ b, inB x.1.least 0 x.1.reps = b := ⟨_, rfl⟩
  have Q2 := Lib.hid h2
  clear h2
  go_at_call 25
  refine (c_woIsFrom 0 x.1.reps x.1.least r2 Q2.out W).mono ?_
  rintro e wx ⟨rfl, hwx⟩
  rw [hwx]
  clear hwx wx
  cases r2
  · obtain rfl : false = r := by have h := HR.out; rw [show (inB x.1.cores 1 1000) = true from Q0.out, show (inB x.1.reps 0 24) = true from Q1.out, show (inB x.1.least 0 x.1.reps) = false from Q2.out] at h; exact h
    go_wp2_with (fail)
    go_ret
    exact ⟨rfl, HB.out⟩
  go_wp2_with (fail)
  obtain ⟨r3, h3⟩ : ∃ b, inB x.1.fw 0 1000000 = b := ⟨_, rfl⟩
  have Q3 := Lib.hid h3
  clear h3
  go_at_call 25
  refine (c_woIsFrom 0 1000000 x.1.fw r3 Q3.out W).mono ?_
  rintro e wx ⟨rfl, hwx⟩
  rw [hwx]
  clear hwx wx
  cases r3
  · obtain rfl : false = r := by have h := HR.out; rw [show (inB x.1.cores 1 1000) = true from Q0.out, show (inB x.1.reps 0 24) = true from Q1.out, show (inB x.1.least 0 x.1.reps) = true from Q2.out, show (inB x.1.fw 0 1000000) = false from Q3.out] at h; exact h
    go_wp2_with (fail)
    go_ret
    exact ⟨rfl, HB.out⟩
  obtain ⟨r4, h4⟩ : ∃ b, decide (x.1.dom ≤ 5) = b := ⟨_, rfl⟩
  have Q4 := Lib.hid h4
  have hd5 : decide ((x.1.dom : Int) ≤ 5) = r4 := by rw [← h4]; exact decide_eq_decide.2 (by omega)
  clear h4
  cases r4
  · obtain rfl : false = r := by have h := HR.out; rw [show (inB x.1.cores 1 1000) = true from Q0.out, show (inB x.1.reps 0 24) = true from Q1.out, show (inB x.1.least 0 x.1.reps) = true from Q2.out, show (inB x.1.fw 0 1000000) = true from Q3.out, show (decide (x.1.dom ≤ 5)) = false from Q4.out] at h; exact h
    go_wp2_with (fail)
    go_ret
    exact ⟨rfl, HB.out⟩
  go_wp2_with (fail)
  obtain ⟨r5, h5⟩ : ∃ b, inB x.1.spread 0 0 = b := ⟨_, rfl⟩
  have Q5 := Lib.hid h5
  clear h5
  go_at_call 25
  refine (c_woIsFrom 0 0 x.1.spread r5 Q5.out W).mono ?_
  rintro e wx ⟨rfl, hwx⟩
  rw [hwx]
  clear hwx wx
  cases r5
  · obtain rfl : false = r := by have h := HR.out; rw [show (inB x.1.cores 1 1000) = true from Q0.out, show (inB x.1.reps 0 24) = true from Q1.out, show (inB x.1.least 0 x.1.reps) = true from Q2.out, show (inB x.1.fw 0 1000000) = true from Q3.out, show (decide (x.1.dom ≤ 5)) = true from Q4.out, show (inB x.1.spread 0 0) = false from Q5.out] at h; exact h
    go_wp2_with (fail)
    go_ret
    exact ⟨rfl, HB.out⟩
  go_wp2_with (fail)
  obtain ⟨r6, h6⟩ : ∃ b, x.1.near.any nearBad = b := ⟨_, rfl⟩
  have Q6 := Lib.hid h6
  clear h6
  go_at_call 75
  refine (c_CF_Near x.2.a2 x.2.c2 x.1.near W HN.out r6 Q6.out).mono ?_
  rintro e w1 ⟨rfl, b1⟩
  have HB1 := Lib.hid (below_join HB.out b1 (by rw [← hA]; exact HB.out.size))
  clear b1
  cases r6
  · obtain rfl : true = r := by have h := HR.out; rw [show (inB x.1.cores 1 1000) = true from Q0.out, show (inB x.1.reps 0 24) = true from Q1.out, show (inB x.1.least 0 x.1.reps) = true from Q2.out, show (inB x.1.fw 0 1000000) = true from Q3.out, show (decide (x.1.dom ≤ 5)) = true from Q4.out, show (inB x.1.spread 0 0) = true from Q5.out, show (x.1.near.any nearBad) = false from Q6.out] at h; exact h
    go_wp2_with (fail)
    go_ret
    exact ⟨rfl, HB1.out⟩
  · obtain rfl : false = r := by have h := HR.out; rw [show (inB x.1.cores 1 1000) = true from Q0.out, show (inB x.1.reps 0 24) = true from Q1.out, show (inB x.1.least 0 x.1.reps) = true from Q2.out, show (inB x.1.fw 0 1000000) = true from Q3.out, show (decide (x.1.dom ≤ 5)) = true from Q4.out, show (inB x.1.spread 0 0) = true from Q5.out, show (x.1.near.any nearBad) = true from Q6.out] at h; exact h
    go_wp2_with (fail)
    go_ret
    exact ⟨rfl, HB1.out⟩
set_option maxHeartbeats 8000000 in
theorem c_keeps1 (x : Svc × SvA) (hd : x.1.dom ≠ 0) (r : Bool) (hr : keepB x.1 = r) (w : World) (h : SvAt w x) :
    Calls Try.prog 54 #[.agg (svA x)] w fun e w' => e = .returned (.bool r) ∧ Below w.heap.size w w' := by
  unfold svA
  obtain ⟨W, hW⟩ : ∃ W, W = w.alloc (.cells (svA x) 70) := ⟨_, rfl⟩
  have B0 : Below w.heap.size w W := by subst hW; exact (Below.refl _ _).alloc (Nat.le_refl _) _
  have HB := Lib.hid B0
  have HX : W.heap[w.heap.size]? = some (.cells (svA x) 70 (0, 0)) := by subst hW; exact box_new _ _ _
  have x0 : W.cell? ⟨w.heap.size, 0, none⟩ = some (.int .i64 x.1.cores) := cell_of HX rfl
  have x1 : W.cell? ⟨w.heap.size, 1, none⟩ = some (.int .i64 x.1.reps) := cell_of HX rfl
  have x2 : W.cell? ⟨w.heap.size, 2, none⟩ = some (.int .i64 x.1.least) := cell_of HX rfl
  have x3 : W.cell? ⟨w.heap.size, 3, none⟩ = some (.int .u8 (x.1.dom : Int)) := cell_of HX rfl
  have x4 : W.cell? ⟨w.heap.size, 4, none⟩ = some (.int .i64 x.1.spread) := cell_of HX rfl
  have x6 : W.cell? ⟨w.heap.size, 6, none⟩ = some (.slice x.2.a2 x.1.near.length x.2.c2) := cell_of HX rfl
  have x7 : W.cell? ⟨w.heap.size, 7, none⟩ = some (.int .i64 x.1.fw) := cell_of HX rfl
  have HN := Lib.hid (h.near.on B0 (Nat.le_refl _))
  have HR := Lib.hid (show (inB x.1.cores 1 1000 && (inB x.1.reps 0 24 && (inB x.1.least 0 x.1.reps && (inB x.1.fw 0 1000000 && (decide (x.1.dom ≤ 5) && (inB x.1.spread 1 24 && !x.1.near.any nearBad)))))) = r by unfold keepB at hr; simp only [if_neg hd] at hr; exact hr)
  have hd0 : ((x.1.dom : Int) == 0) = false := by simpa using hd
  clear hr h HX B0 hd
  generalize hA : w.heap.size = A at *
  unfold svA at hW
  rw [hW] at x0 x1 x2 x3 x4 x6 x7
  go_enter Try.func54, Try.ntmps54
  go_wp2_with (fail)
  rw [← hW] at x0 x1 x2 x3 x4 x6 x7 ⊢
  clear hW
  obtain ⟨r0, h0⟩ : ∃ b, inB x.1.cores 1 1000 = b := ⟨_, rfl⟩
  have Q0 := Lib.hid h0
  clear h0
  go_at_call 25
  refine (c_woIsFrom 1 1000 x.1.cores r0 Q0.out W).mono ?_
  rintro e wx ⟨rfl, hwx⟩
  rw [hwx]
  clear hwx wx
  cases r0
  · obtain rfl : false = r := by have h := HR.out; rw [show (inB x.1.cores 1 1000) = false from Q0.out] at h; exact h
    go_wp2_with (fail)
    go_ret
    exact ⟨rfl, HB.out⟩
  go_wp2_with (fail)
  obtain ⟨r1, h1⟩ : ∃ b, inB x.1.reps 0 24 = b := ⟨_, rfl⟩
  have Q1 := Lib.hid h1
  clear h1
  go_at_call 25
  refine (c_woIsFrom 0 24 x.1.reps r1 Q1.out W).mono ?_
  rintro e wx ⟨rfl, hwx⟩
  rw [hwx]
  clear hwx wx
  cases r1
  · obtain rfl : false = r := by have h := HR.out; rw [show (inB x.1.cores 1 1000) = true from Q0.out, show (inB x.1.reps 0 24) = false from Q1.out] at h; exact h
    go_wp2_with (fail)
    go_ret
    exact ⟨rfl, HB.out⟩
  go_wp2_with (fail)
  obtain ⟨r2, h2⟩ : ∃ b, inB x.1.least 0 x.1.reps = b := ⟨_, rfl⟩
  have Q2 := Lib.hid h2
  clear h2
  go_at_call 25
  refine (c_woIsFrom 0 x.1.reps x.1.least r2 Q2.out W).mono ?_
  rintro e wx ⟨rfl, hwx⟩
  rw [hwx]
  clear hwx wx
  cases r2
  · obtain rfl : false = r := by have h := HR.out; rw [show (inB x.1.cores 1 1000) = true from Q0.out, show (inB x.1.reps 0 24) = true from Q1.out, show (inB x.1.least 0 x.1.reps) = false from Q2.out] at h; exact h
    go_wp2_with (fail)
    go_ret
    exact ⟨rfl, HB.out⟩
  go_wp2_with (fail)
  obtain ⟨r3, h3⟩ : ∃ b, inB x.1.fw 0 1000000 = b := ⟨_, rfl⟩
  have Q3 := Lib.hid h3
  clear h3
  go_at_call 25
  refine (c_woIsFrom 0 1000000 x.1.fw r3 Q3.out W).mono ?_
  rintro e wx ⟨rfl, hwx⟩
  rw [hwx]
  clear hwx wx
  cases r3
  · obtain rfl : false = r := by have h := HR.out; rw [show (inB x.1.cores 1 1000) = true from Q0.out, show (inB x.1.reps 0 24) = true from Q1.out, show (inB x.1.least 0 x.1.reps) = true from Q2.out, show (inB x.1.fw 0 1000000) = false from Q3.out] at h; exact h
    go_wp2_with (fail)
    go_ret
    exact ⟨rfl, HB.out⟩
  obtain ⟨r4, h4⟩ : ∃ b, decide (x.1.dom ≤ 5) = b := ⟨_, rfl⟩
  have Q4 := Lib.hid h4
  have hd5 : decide ((x.1.dom : Int) ≤ 5) = r4 := by rw [← h4]; exact decide_eq_decide.2 (by omega)
  clear h4
  cases r4
  · obtain rfl : false = r := by have h := HR.out; rw [show (inB x.1.cores 1 1000) = true from Q0.out, show (inB x.1.reps 0 24) = true from Q1.out, show (inB x.1.least 0 x.1.reps) = true from Q2.out, show (inB x.1.fw 0 1000000) = true from Q3.out, show (decide (x.1.dom ≤ 5)) = false from Q4.out] at h; exact h
    go_wp2_with (fail)
    go_ret
    exact ⟨rfl, HB.out⟩
  go_wp2_with (fail)
  obtain ⟨r5, h5⟩ : ∃ b, inB x.1.spread 1 24 = b := ⟨_, rfl⟩
  have Q5 := Lib.hid h5
  clear h5
  go_at_call 25
  refine (c_woIsFrom 1 24 x.1.spread r5 Q5.out W).mono ?_
  rintro e wx ⟨rfl, hwx⟩
  rw [hwx]
  clear hwx wx
  cases r5
  · obtain rfl : false = r := by have h := HR.out; rw [show (inB x.1.cores 1 1000) = true from Q0.out, show (inB x.1.reps 0 24) = true from Q1.out, show (inB x.1.least 0 x.1.reps) = true from Q2.out, show (inB x.1.fw 0 1000000) = true from Q3.out, show (decide (x.1.dom ≤ 5)) = true from Q4.out, show (inB x.1.spread 1 24) = false from Q5.out] at h; exact h
    go_wp2_with (fail)
    go_ret
    exact ⟨rfl, HB.out⟩
  go_wp2_with (fail)
  obtain ⟨r6, h6⟩ : ∃ b, x.1.near.any nearBad = b := ⟨_, rfl⟩
  have Q6 := Lib.hid h6
  clear h6
  go_at_call 75
  refine (c_CF_Near x.2.a2 x.2.c2 x.1.near W HN.out r6 Q6.out).mono ?_
  rintro e w1 ⟨rfl, b1⟩
  have HB1 := Lib.hid (below_join HB.out b1 (by rw [← hA]; exact HB.out.size))
  clear b1
  cases r6
  · obtain rfl : true = r := by have h := HR.out; rw [show (inB x.1.cores 1 1000) = true from Q0.out, show (inB x.1.reps 0 24) = true from Q1.out, show (inB x.1.least 0 x.1.reps) = true from Q2.out, show (inB x.1.fw 0 1000000) = true from Q3.out, show (decide (x.1.dom ≤ 5)) = true from Q4.out, show (inB x.1.spread 1 24) = true from Q5.out, show (x.1.near.any nearBad) = false from Q6.out] at h; exact h
    go_wp2_with (fail)
    go_ret
    exact ⟨rfl, HB1.out⟩
  · obtain rfl : false = r := by have h := HR.out; rw [show (inB x.1.cores 1 1000) = true from Q0.out, show (inB x.1.reps 0 24) = true from Q1.out, show (inB x.1.least 0 x.1.reps) = true from Q2.out, show (inB x.1.fw 0 1000000) = true from Q3.out, show (decide (x.1.dom ≤ 5)) = true from Q4.out, show (inB x.1.spread 1 24) = true from Q5.out, show (x.1.near.any nearBad) = true from Q6.out] at h; exact h
    go_wp2_with (fail)
    go_ret
    exact ⟨rfl, HB1.out⟩
theorem c_keeps (x : Svc × SvA) (r : Bool) (hr : keepB x.1 = r) (w : World) (h : SvAt w x) :
    Calls Try.prog 54 #[.agg (svA x)] w fun e w' => e = .returned (.bool r) ∧ Below w.heap.size w w' := by
  by_cases hd : x.1.dom = 0
  · exact c_keeps0 x hd r hr w h
  · exact c_keeps1 x hd r hr w h
end Go.Proofs.Ytidpiokkfnhobaa

namespace Go.Proofs.Ytidpiokkfnhobaa
open Go.RowKit
set_option maxRecDepth 100000
set_option linter.unusedVariables false
set_option linter.unusedSimpArgs false

theorem drop_at {α : Type} {l : List α} {k : Nat} {x : α} (h : l[k]? = some x) : l.drop k = x :: l.drop (k + 1) := by
  obtain ⟨h1, h2⟩ := List.getElem?_eq_some_iff.1 h
  rw [← h2]; exact List.drop_eq_getElem_cons h1
set_option maxHeartbeats 2000000 in
theorem c_itself (x : Int) (w : World) : Calls Try.prog 76 #[.int .i64 x] w fun e w' => e = .returned (.int .i64 x) ∧ w' = w := by
  go_enter Try.func76, Try.ntmps76
  go_wp2
  go_ret
  exact ⟨rfl, rfl⟩
set_option maxHeartbeats 2000000 in
theorem c_ofNear (x : Nr) (w : World) : Calls Try.prog 77 #[.agg #[.int .i64 x.svc, .int .i64 x.lat]] w fun e w' => e = .returned (.int .i64 x.svc) ∧ Below w.heap.size w w' := by
  go_enter Try.func77, Try.ntmps77
  go_wp2
  go_ret
  exact ⟨rfl, (Below.refl _ _).alloc (Nat.le_refl _) _⟩
set_option maxHeartbeats 8000000 in
theorem c_others_int (own many : Int) (A : Option Addr) (c : Nat) (l : List Int) (r : Bool) (hr : othB own many l = r) (w : World) (h : Rv 1 inV w A c l) :
    Calls Try.prog 78 #[.slice A l.length c, .func (.func 76) #[] #[], .int .i64 own, .int .i64 many] w fun e w' => e = .returned (.bool r) ∧ Below w.heap.size w w' := by
  have H := Lib.hid h
  have HR := Lib.hid hr
  have hc1 := h.1
  have hc2 := h.2.1
  unfold maxLen at hc2
  clear h hr
  go_enter Try.func78, Try.ntmps78
  go_wp2_with (fail)
  go_loopw [9, 15] (fun la i wr => ∃ (k : Nat) (last : Int), k ≤ l.length ∧ la = .int .i64 last ∧ i = .int .i64 (k : Int) ∧ Hid (othB own many l = othGo own many last (l.drop k)) ∧ Hid (Below w.heap.size w wr)) (fun _ i _ => l.length - (intOf i).toNat)
  case atStart => exact ⟨0, -1, Nat.zero_le _, rfl, rfl, Lib.hid rfl, Lib.hid (Below.refl _ _)⟩
  case round =>
    obtain ⟨k, last, hk, rfl, rfl, hgo, hB⟩ := hrel
    by_cases hlt : k < l.length
    · obtain ⟨x, hx⟩ : ∃ x, l[k]? = some x := ⟨_, List.getElem?_eq_getElem hlt⟩
      have HK := H.out.on hB.out (Nat.le_refl _)
      obtain ⟨pb, o, rfl, -, -⟩ := HK.at_ hx
      have y0 := int_at HK hx
      have HD := Lib.hid (show othB own many l = othGo own many last (x :: l.drop (k + 1)) by rw [hgo.out, drop_at (show l[k]? = some x by simp [hx])])
      have hki : ((k : Nat) : Int).toNat = k := by omega
      have hlt' : (k : Int) < ((l.length : Nat) : Int) := by omega
      have hs := hB.out.size
      clear hx HK hgo
      rcases h1 : decide (x ≤ last) with _ | _
      · rcases h2 : decide (many ≤ x) with _ | _
        · rcases h3 : (x == own) with _ | _
          · have HN := Lib.hid (show othB own many l = othGo own many x (l.drop (k + 1)) by rw [HD.out, othGo_cons_ok (fun h => h.elim (fun h => of_decide_eq_false h1 h) (fun h => h.elim (fun h => of_decide_eq_false h2 h) (fun h => (beq_eq_false_iff_ne.1 h3) h)))])
            go_wp2_with (go_at_call 76; refine (c_itself x _).mono ?_; rintro e w1 ⟨rfl, rfl⟩)
            go_roundw
            case rel => exact ⟨k + 1, x, by omega, rfl, by go_num, HN, hB⟩
            case measure => simp only [intOf]; omega
          · obtain rfl : false = r := by rw [← HR.out, HD.out, othGo_cons_no (.inr (.inr (eq_of_beq h3)))]
            go_wp2_with (go_at_call 76; refine (c_itself x _).mono ?_; rintro e w1 ⟨rfl, rfl⟩)
            go_ret
            exact ⟨rfl, hB.out⟩
        · obtain rfl : false = r := by rw [← HR.out, HD.out, othGo_cons_no (.inr (.inl (of_decide_eq_true h2)))]
          go_wp2_with (go_at_call 76; refine (c_itself x _).mono ?_; rintro e w1 ⟨rfl, rfl⟩)
          go_ret
          exact ⟨rfl, hB.out⟩
      · obtain rfl : false = r := by rw [← HR.out, HD.out, othGo_cons_no (.inl (of_decide_eq_true h1))]
        go_wp2_with (go_at_call 76; refine (c_itself x _).mono ?_; rintro e w1 ⟨rfl, rfl⟩)
        go_ret
        exact ⟨rfl, hB.out⟩
    · obtain rfl : k = l.length := by omega
      obtain rfl : true = r := by rw [← HR.out, hgo.out, List.drop_eq_nil_of_le (by simp)]; rfl
      go_wp2_with (fail)
      go_ret
      exact ⟨rfl, hB.out⟩
set_option maxHeartbeats 8000000 in
theorem c_others_Near (own many : Int) (A : Option Addr) (c : Nat) (l : List Nr) (r : Bool) (hr : othB own many (l.map (·.svc)) = r) (w : World) (h : Rv 2 nrV w A c l) :
    Calls Try.prog 79 #[.slice A l.length c, .func (.func 77) #[] #[], .int .i64 own, .int .i64 many] w fun e w' => e = .returned (.bool r) ∧ Below w.heap.size w w' := by
  have H := Lib.hid h
  have HR := Lib.hid hr
  have hc1 := h.1
  have hc2 := h.2.1
  unfold maxLen at hc2
  clear h hr
  go_enter Try.func79, Try.ntmps79
  go_wp2_with (fail)
  go_loopw [9, 15] (fun la i wr => ∃ (k : Nat) (last : Int), k ≤ l.length ∧ la = .int .i64 last ∧ i = .int .i64 (k : Int) ∧ Hid (othB own many (l.map (·.svc)) = othGo own many last ((l.map (·.svc)).drop k)) ∧ Hid (Below w.heap.size w wr)) (fun _ i _ => l.length - (intOf i).toNat)
  case atStart => exact ⟨0, -1, Nat.zero_le _, rfl, rfl, Lib.hid rfl, Lib.hid (Below.refl _ _)⟩
  case round =>
    obtain ⟨k, last, hk, rfl, rfl, hgo, hB⟩ := hrel
    by_cases hlt : k < l.length
    · obtain ⟨x, hx⟩ : ∃ x, l[k]? = some x := ⟨_, List.getElem?_eq_getElem hlt⟩
      have HK := H.out.on hB.out (Nat.le_refl _)
      obtain ⟨pb, o, rfl, -, -⟩ := HK.at_ hx
      obtain ⟨y0, y1⟩ := near_at HK hx
      have HD := Lib.hid (show othB own many (l.map (·.svc)) = othGo own many last (x.svc :: (l.map (·.svc)).drop (k + 1)) by rw [hgo.out, drop_at (show (l.map (·.svc))[k]? = some x.svc by simp [hx])])
      have hki : ((k : Nat) : Int).toNat = k := by omega
      have hlt' : (k : Int) < ((l.length : Nat) : Int) := by omega
      have hs := hB.out.size
      clear hx HK hgo
      rcases h1 : decide (x.svc ≤ last) with _ | _
      · rcases h2 : decide (many ≤ x.svc) with _ | _
        · rcases h3 : (x.svc == own) with _ | _
          · have HN := Lib.hid (show othB own many (l.map (·.svc)) = othGo own many x.svc ((l.map (·.svc)).drop (k + 1)) by rw [HD.out, othGo_cons_ok (fun h => h.elim (fun h => of_decide_eq_false h1 h) (fun h => h.elim (fun h => of_decide_eq_false h2 h) (fun h => (beq_eq_false_iff_ne.1 h3) h)))])
            go_wp2_with (go_at_call 77; refine (c_ofNear x _).mono ?_; rintro e w1 ⟨rfl, b1⟩; have HB1 := Lib.hid (below_join (hB.out.alloc hB.out.size _) b1 (by rw [World.size_alloc]; have := hB.out.size; omega)); clear b1 y0 y1)
            go_roundw
            case rel => exact ⟨k + 1, x.svc, by omega, rfl, by go_num, HN, HB1⟩
            case measure => simp only [intOf]; omega
          · obtain rfl : false = r := by rw [← HR.out, HD.out, othGo_cons_no (.inr (.inr (eq_of_beq h3)))]
            go_wp2_with (go_at_call 77; refine (c_ofNear x _).mono ?_; rintro e w1 ⟨rfl, b1⟩; have HB1 := Lib.hid (below_join (hB.out.alloc hB.out.size _) b1 (by rw [World.size_alloc]; have := hB.out.size; omega)); clear b1 y0 y1)
            go_ret
            exact ⟨rfl, HB1.out⟩
        · obtain rfl : false = r := by rw [← HR.out, HD.out, othGo_cons_no (.inr (.inl (of_decide_eq_true h2)))]
          go_wp2_with (go_at_call 77; refine (c_ofNear x _).mono ?_; rintro e w1 ⟨rfl, b1⟩; have HB1 := Lib.hid (below_join (hB.out.alloc hB.out.size _) b1 (by rw [World.size_alloc]; have := hB.out.size; omega)); clear b1 y0 y1)
          go_ret
          exact ⟨rfl, HB1.out⟩
      · obtain rfl : false = r := by rw [← HR.out, HD.out, othGo_cons_no (.inl (of_decide_eq_true h1))]
        go_wp2_with (go_at_call 77; refine (c_ofNear x _).mono ?_; rintro e w1 ⟨rfl, b1⟩; have HB1 := Lib.hid (below_join (hB.out.alloc hB.out.size _) b1 (by rw [World.size_alloc]; have := hB.out.size; omega)); clear b1 y0 y1)
        go_ret
        exact ⟨rfl, HB1.out⟩
    · obtain rfl : k = l.length := by omega
      obtain rfl : true = r := by rw [← HR.out, hgo.out, List.drop_eq_nil_of_le (by simp)]; rfl
      go_wp2_with (fail)
      go_ret
      exact ⟨rfl, hB.out⟩
set_option maxHeartbeats 8000000 in
theorem c_names (x : Svc × SvA) (own many : Int) (r : Bool) (hr : nameB x.1 own many = r) (w : World) (h : SvAt w x) :
    Calls Try.prog 55 #[.agg (svA x), .int .i64 own, .int .i64 many] w fun e w' => e = .returned (.bool r) ∧ Below w.heap.size w w' := by
  unfold svA
  obtain ⟨W, hW⟩ : ∃ W, W = w.alloc (.cells (svA x) 70) := ⟨_, rfl⟩
  have B0 : Below w.heap.size w W := by subst hW; exact (Below.refl _ _).alloc (Nat.le_refl _) _
  have HB := Lib.hid B0
  have HX : W.heap[w.heap.size]? = some (.cells (svA x) 70 (0, 0)) := by subst hW; exact box_new _ _ _
  have HX2 := Lib.hid HX
  have x5 : W.cell? ⟨w.heap.size, 5, none⟩ = some (.slice x.2.a1 x.1.apart.length x.2.c1) := cell_of HX rfl
  have H := Lib.hid (h.on B0 (Nat.le_refl _))
  have HR := Lib.hid (show (othB own many x.1.apart && othB own many (x.1.near.map (·.svc))) = r from hr)
  clear hr h HX B0
  generalize hA : w.heap.size = A at *
  unfold svA at hW
  rw [hW] at x5
  obtain ⟨r1, h1⟩ : ∃ b, othB own many x.1.apart = b := ⟨_, rfl⟩
  have Q1 := Lib.hid h1
  clear h1
  go_enter Try.func55, Try.ntmps55
  go_wp2_with (fail)
  rw [← hW] at x5 ⊢
  clear hW
  go_at_call 78
  refine (c_others_int own many x.2.a1 x.2.c1 x.1.apart r1 Q1.out W H.out.apart).mono ?_
  rintro e w1 ⟨rfl, b1⟩
  have K1 := Lib.hid b1
  have HB1 := Lib.hid (below_join HB.out b1 (by rw [← hA]; exact HB.out.size))
  clear b1
  cases r1
  · obtain rfl : false = r := by have h := HR.out; rw [Q1.out] at h; exact h
    go_wp2_with (fail)
    go_ret
    exact ⟨rfl, HB1.out⟩
  · obtain ⟨r2, h2⟩ : ∃ b, othB own many (x.1.near.map (·.svc)) = b := ⟨_, rfl⟩
    have Q2 := Lib.hid h2
    clear h2
    have HE := Lib.hid (show r2 = r by have h := HR.out; rw [Q1.out, Q2.out] at h; exact h)
    have x6 : w1.cell? ⟨A, 6, none⟩ = some (.slice x.2.a2 x.1.near.length x.2.c2) := cell_of (box_on HX2.out K1.out (Nat.le_refl _)) rfl
    go_wp2_with (fail)
    go_at_call 79
    refine (c_others_Near own many x.2.a2 x.2.c2 x.1.near r2 Q2.out w1 (H.out.near.on K1.out (Nat.le_refl _))).mono ?_
    rintro e w2 ⟨rfl, b2⟩
    have HB2 := Lib.hid (below_join HB1.out b2 (by rw [← hA]; exact HB1.out.size))
    clear b2
    go_wp2_with (fail)
    go_ret
    exact ⟨(show Ending.returned (.bool r2) = .returned (.bool r) by rw [HE.out]), HB2.out⟩
end Go.Proofs.Ytidpiokkfnhobaa

namespace Go.Proofs.Ytidpiokkfnhobaa
open Go.RowKit
set_option maxRecDepth 100000
set_option linter.unusedVariables false
set_option linter.unusedSimpArgs false

theorem sumR_take {ss : List Svc} {k : Nat} {s : Svc} (h : ss[k]? = some s) : sumR (ss.take (k + 1)) = sumR (ss.take k) + s.reps := by
  unfold sumR
  rw [List.take_add_one, h, List.map_append, List.sum_append]
  simp
theorem keepB_reps {s : Svc} (h : keepB s = true) : 0 ≤ s.reps ∧ s.reps ≤ 24 := (keepB_iff.1 h).2.1
theorem sumR_bound {ss : List Svc} : ∀ {k : Nat}, k ≤ ss.length → (∀ (i : Nat) s, i < k → ss[i]? = some s → 0 ≤ s.reps ∧ s.reps ≤ 24) → 0 ≤ sumR (ss.take k) ∧ sumR (ss.take k) ≤ 24 * k := by
  intro k
  induction k with
  | zero => intro _ _; simp [sumR]
  | succ k ih =>
    intro hk h
    have h1 := ih (by omega) fun i s hi hs => h i s (by omega) hs
    have h2 : ss[k]? = some ss[k] := List.getElem?_eq_getElem (by omega)
    rw [sumR_take h2]
    have := h k _ (by omega) h2
    omega
theorem sv_box {w : World} {b : Nat} {x : Svc × SvA} (h : w.heap[b]? = some (.cells (svA x) 70 (0, 0))) :
    w.cell? ⟨b, 0, none⟩ = some (.int .i64 x.1.cores) ∧ w.cell? ⟨b, 1, none⟩ = some (.int .i64 x.1.reps) ∧ w.cell? ⟨b, 2, none⟩ = some (.int .i64 x.1.least) ∧ w.cell? ⟨b, 3, none⟩ = some (.int .u8 (x.1.dom : Int)) ∧ w.cell? ⟨b, 4, none⟩ = some (.int .i64 x.1.spread) ∧ w.cell? ⟨b, 5, none⟩ = some (.slice x.2.a1 x.1.apart.length x.2.c1) ∧ w.cell? ⟨b, 6, none⟩ = some (.slice x.2.a2 x.1.near.length x.2.c2) ∧ w.cell? ⟨b, 7, none⟩ = some (.int .i64 x.1.fw) :=
  ⟨cell_of h rfl, cell_of h rfl, cell_of h rfl, cell_of h rfl, cell_of h rfl, cell_of h rfl, cell_of h rfl, cell_of h rfl⟩
theorem wish_no {xs : List (Svc × SvA)} {k : Nat} {s : Svc} (h : (svs xs)[k]? = some s) (hb : svcB s k xs.length = false) : ¬ WishOk (svs xs) := fun hw => by
  have := hw.2.1 k s h
  rw [svs_len, hb] at this
  cases this
set_option maxHeartbeats 16000000 in
theorem c_ValidWish (A : Option Addr) (c : Nat) (xs : List (Svc × SvA)) (r : Bool) (hr : r = true ↔ WishOk (svs xs)) (w : World) (h : WiAt w A c xs) :
    Calls Try.prog 29 #[.agg #[.slice A xs.length c]] w fun e w' => e = .returned (.bool r) ∧ Below w.heap.size w w' := by
  obtain ⟨W, hW⟩ : ∃ W, W = w.alloc (.cells #[.slice A xs.length c] 45) := ⟨_, rfl⟩
  have B0 : Below w.heap.size w W := by subst hW; exact (Below.refl _ _).alloc (Nat.le_refl _) _
  have HB := Lib.hid B0
  have HX : W.heap[w.heap.size]? = some (.cells #[.slice A xs.length c] 45 (0, 0)) := by subst hW; exact box_new _ _ _
  have HX2 := Lib.hid HX
  have x0 : W.cell? ⟨w.heap.size, 0, none⟩ = some (.slice A xs.length c) := cell_of HX rfl
  have H := Lib.hid (h.on B0 (Nat.le_refl _))
  have hc1 := h.row.1
  have hc2 := h.row.2.1
  unfold maxLen at hc2
  have hsl := svs_len xs
  have HR := Lib.hid hr
  have HWS := Lib.hid (show w.heap.size < W.heap.size by rw [hW, World.size_alloc]; omega)
  clear hr h HX B0
  generalize hA : w.heap.size = B at *
  rw [hW] at x0
  by_cases h8 : xs.length ≤ 8
  · have hd8 : decide ((8 : Int) < (xs.length : Int)) = false := decide_eq_false (by omega)
    go_enter Try.func29, Try.ntmps29
    go_wp2_with (fail)
    rw [← hW] at x0 ⊢
    clear hW
    go_loopw [4, 15] (fun sm i wr => ∃ k : Nat, k ≤ xs.length ∧ sm = .int .i64 (sumR ((svs xs).take k)) ∧ i = .int .i64 (k : Int) ∧ Hid (∀ (i : Nat) s, i < k → (svs xs)[i]? = some s → svcB s i xs.length = true) ∧ Hid (Below W.heap.size W wr)) (fun _ i _ => xs.length - (intOf i).toNat)
    case atStart => exact ⟨0, Nat.zero_le _, rfl, rfl, Lib.hid (fun i s hi => absurd hi (by omega)), Lib.hid (Below.refl _ _)⟩
    case round =>
      obtain ⟨k, hk, rfl, rfl, hok, hK⟩ := hrel
      have hbd := sumR_bound (ss := svs xs) (k := k) (by omega) fun i s hi hs => keepB_reps (by have := hok.out i s hi hs; unfold svcB at this; rw [Bool.and_eq_true] at this; exact this.1)
      obtain ⟨sm, hsm⟩ : ∃ sm, sumR ((svs xs).take k) = sm := ⟨_, rfl⟩
      have HSM := Lib.hid hsm
      rw [hsm] at hbd ⊢
      clear hsm
      by_cases hlt : k < xs.length
      · obtain ⟨x, hx⟩ : ∃ x, xs[k]? = some x := ⟨_, List.getElem?_eq_getElem hlt⟩
        have HK := H.out.on hK.out (Nat.le_refl _)
        obtain ⟨pb, o, rfl, -, -⟩ := HK.row.at_ hx
        obtain ⟨y0, y1, y2, y3, y4, y5, y6, y7⟩ := sv_at HK.row hx
        have HS := Lib.hid (HK.each x (List.mem_of_getElem? hx))
        have HXX := Lib.hid hx
        have HSV := Lib.hid (svs_at hx)
        have hki : ((k : Nat) : Int).toNat = k := by omega
        have hlt' : (k : Int) < ((xs.length : Nat) : Int) := by omega
        obtain ⟨V, hV⟩ : ∃ V, V = wr.alloc (.cells (svA x) 70) := ⟨_, rfl⟩
        have bV : Below wr.heap.size wr V := by subst hV; exact (Below.refl _ _).alloc (Nat.le_refl _) _
        have HV := Lib.hid (show V.heap[wr.heap.size]? = some (.cells (svA x) 70 (0, 0)) by subst hV; exact box_new _ _ _)
        have HKV := Lib.hid (hK.out.trans (bV.mono hK.out.size))
        have HSV2 := Lib.hid (HS.out.on bV (Nat.le_refl _))
        clear hx HK bV
        unfold svA at hV
        go_wp2_with (fail)
        rw [← hV]
        clear hV y0 y1 y2 y3 y4 y5 y6 y7
        obtain ⟨q1, hq1⟩ : ∃ q, keepB x.1 = q := ⟨_, rfl⟩
        have Q1 := Lib.hid hq1
        clear hq1
        obtain ⟨pv, hpv⟩ : ∃ pv, wr.heap.size = pv := ⟨_, rfl⟩
        rw [hpv] at HV ⊢
        have HPV := Lib.hid hpv
        clear hpv
        go_at_call 54
        refine (c_keeps x q1 Q1.out V HSV2.out).mono ?_
        rintro e w1 ⟨rfl, b1⟩
        have K1 := Lib.hid (below_join HKV.out b1 HKV.out.size)
        have HV1 := Lib.hid (box_on HV.out b1 (Nat.le_refl _))
        have HS1 := Lib.hid (HSV2.out.on b1 (Nat.le_refl _))
        clear b1
        obtain ⟨z0, z1, z2, z3, z4, z5, z6, z7⟩ := sv_box HV1.out
        cases q1
        · obtain rfl : false = r := by
            rcases r with _ | _
            · rfl
            · exact absurd (HR.out.1 rfl) (wish_no HSV.out (by unfold svcB; rw [Q1.out]; rfl))
          go_wp2_with (fail)
          go_ret
          exact ⟨rfl, below_join HB.out K1.out (by rw [← hA]; exact HB.out.size)⟩
        · go_wp2_with (fail)
          obtain ⟨q2, hq2⟩ : ∃ q, nameB x.1 (k : Int) (xs.length : Int) = q := ⟨_, rfl⟩
          have Q2 := Lib.hid hq2
          clear hq2
          go_at_call 55
          refine (c_names x (k : Int) (xs.length : Int) q2 Q2.out w1 HS1.out).mono ?_
          rintro e w2 ⟨rfl, b2⟩
          have K2 := Lib.hid (below_join K1.out b2 K1.out.size)
          have HV2 := Lib.hid (box_on HV1.out b2 (Nat.le_refl _))
          clear b2 z0 z1 z2 z3 z4 z5 z6 z7
          obtain ⟨z0, z1, z2, z3, z4, z5, z6, z7⟩ := sv_box HV2.out
          cases q2
          · obtain rfl : false = r := by
              rcases r with _ | _
              · rfl
              · exact absurd (HR.out.1 rfl) (wish_no HSV.out (by unfold svcB; rw [Q1.out, Q2.out]; rfl))
            go_wp2_with (fail)
            go_ret
            exact ⟨rfl, below_join HB.out K2.out (by rw [← hA]; exact HB.out.size)⟩
          · have hrp := keepB_reps Q1.out
            have HN := Lib.hid (show sumR ((svs xs).take (k + 1)) = sm + x.1.reps by rw [sumR_take HSV.out, HSM.out])
            have HO := Lib.hid (show ∀ (i : Nat) s, i < k + 1 → (svs xs)[i]? = some s → svcB s i xs.length = true from fun i s hi hs => by
              rcases Nat.lt_or_ge i k with h | h
              · exact hok.out i s h hs
              · obtain rfl : i = k := by omega
                rw [HSV.out] at hs
                injection hs with hs
                subst hs
                unfold svcB
                rw [Q1.out, Q2.out]; rfl)
            go_wp2_with (fail)
            go_roundw
            case rel => exact ⟨k + 1, by omega, by rw [HN.out], by go_num, HO, K2⟩
            case measure => simp only [intOf]; omega
      · obtain rfl : k = xs.length := by omega
        have hd : decide (sm ≤ 24) = r := by
          have e : sumR (svs xs) = sm := by rw [← HSM.out, ← hsl, List.take_length]
          rw [Bool.eq_iff_iff, decide_eq_true_eq, HR.out, ← e]
          exact ⟨fun h => ⟨by omega, fun i s hs => by rw [hsl]; exact hok.out i s (by have := (List.getElem?_eq_some_iff.1 hs).1; omega) hs, h⟩, fun h => h.2.2⟩
        go_wp2_with (fail)
        go_ret
        exact ⟨rfl, below_join HB.out hK.out (by rw [← hA]; exact HB.out.size)⟩
  · have hd8 : decide ((8 : Int) < (xs.length : Int)) = true := decide_eq_true (by omega)
    obtain rfl : false = r := by
      rcases r with _ | _
      · rfl
      · exact absurd (HR.out.1 rfl).1 (by omega)
    go_enter Try.func29, Try.ntmps29
    go_wp2_with (fail)
    go_ret
    rw [← hW]
    exact ⟨rfl, HB.out⟩
end Go.Proofs.Ytidpiokkfnhobaa

namespace Go.Proofs.Ytidpiokkfnhobaa
open Go.RowKit
set_option maxRecDepth 100000
set_option linter.unusedVariables false
set_option linter.unusedSimpArgs false

theorem any_bad {α : Type} {f : α → Bool} {l : List α} : l.any (fun x => !f x) = false ↔ ∀ x ∈ l, f x = true := by simp
set_option maxHeartbeats 16000000 in
theorem c_woValid (p : SP) (s : SiteD) (A : Option Addr) (c : Nat) (xs : List (Svc × SvA)) (q : WP) (d : WorldD) (r : Bool) (hr : r = true ↔ WorldOk s (svs xs) d) (w : World) (hs : SiAt w p s) (hx : WiAt w A c xs) (hd : WoAt w q d) :
    Calls Try.prog 14 #[siV p s, .agg #[.slice A xs.length c], .agg (woA q d)] w fun e w' => e = .returned (.bool r) ∧ Below w.heap.size w w' := by
  unfold siV woA
  obtain ⟨W1, h1⟩ : ∃ W, W = w.alloc (.cells #[.slice p.a1 s.feeds.length p.c1, .slice p.a2 s.brks.length p.c2, .slice p.a3 s.loops.length p.c3, .slice p.a4 s.racks.length p.c4, .int .i64 s.sw, .slice p.a5 s.links.length p.c5, .slice p.a6 s.hosts.length p.c6] 41) := ⟨_, rfl⟩
  obtain ⟨W2, h2⟩ : ∃ W, W = W1.alloc (.cells #[.slice A xs.length c] 45) := ⟨_, rfl⟩
  obtain ⟨W, h3⟩ : ∃ W, W = W2.alloc (.cells (woA q d) 25) := ⟨_, rfl⟩
  have s1 : W1.heap.size = w.heap.size + 1 := by rw [h1, World.size_alloc]
  have s2 : W2.heap.size = w.heap.size + 1 + 1 := by rw [h2, World.size_alloc, s1]
  have s3 : W.heap.size = w.heap.size + 1 + 1 + 1 := by rw [h3, World.size_alloc, s2]
  have B0 : Below w.heap.size w W := by
    have e1 : Below w.heap.size w W1 := by rw [h1]; exact (Below.refl _ _).alloc (Nat.le_refl _) _
    have e2 : Below w.heap.size w W2 := by rw [h2]; exact e1.alloc (by omega) _
    rw [h3]; exact e2.alloc (by omega) _
  have HB := Lib.hid B0
  have X1 : SiBox W w.heap.size p s := by
    have e1 : SiBox W1 w.heap.size p s := by rw [h1]; exact siBox_new _ _ _
    unfold SiBox at e1 ⊢
    rw [h3, h2]; exact old_heap _ (old_heap _ e1)
  have X2 : WiBox W (w.heap.size + 1) A xs.length c := by
    have e1 : W2.heap[w.heap.size + 1]? = some (.cells #[.slice A xs.length c] 45 (0, 0)) := by rw [h2, ← s1]; exact box_new _ _ _
    unfold WiBox
    rw [h3]; exact old_heap _ e1
  have X3 : WoBox W (w.heap.size + 1 + 1) q d := by
    unfold WoBox
    rw [h3, ← s2]; exact box_new _ _ _
  have HS := Lib.hid (hs.on B0 (Nat.le_refl _))
  have HX := Lib.hid (hx.on B0 (Nat.le_refl _))
  have HD := Lib.hid (hd.on B0 (Nat.le_refl _))
  have B1 := Lib.hid X1
  have B2 := Lib.hid X2
  have B3 := Lib.hid X3
  have HF := Lib.hid (fun (X : World) (hX : Below W.heap.size W X) => (⟨(X1.on hX (Nat.le_refl _)).c0, (X1.on hX (Nat.le_refl _)).c1, (X1.on hX (Nat.le_refl _)).c2, (X1.on hX (Nat.le_refl _)).c3, (X1.on hX (Nat.le_refl _)).c4, (X1.on hX (Nat.le_refl _)).c5, (X1.on hX (Nat.le_refl _)).c6, (X2.on hX (Nat.le_refl _)).c0, (X3.on hX (Nat.le_refl _)).c0, (X3.on hX (Nat.le_refl _)).c1⟩ : X.cell? ⟨w.heap.size, 0, none⟩ = some (.slice p.a1 s.feeds.length p.c1) ∧ X.cell? ⟨w.heap.size, 1, none⟩ = some (.slice p.a2 s.brks.length p.c2) ∧ X.cell? ⟨w.heap.size, 2, none⟩ = some (.slice p.a3 s.loops.length p.c3) ∧ X.cell? ⟨w.heap.size, 3, none⟩ = some (.slice p.a4 s.racks.length p.c4) ∧ X.cell? ⟨w.heap.size, 4, none⟩ = some (.int .i64 s.sw) ∧ X.cell? ⟨w.heap.size, 5, none⟩ = some (.slice p.a5 s.links.length p.c5) ∧ X.cell? ⟨w.heap.size, 6, none⟩ = some (.slice p.a6 s.hosts.length p.c6) ∧ X.cell? ⟨w.heap.size + 1, 0, none⟩ = some (.slice A xs.length c) ∧ X.cell? ⟨w.heap.size + 1 + 1, 0, none⟩ = some (.slice q.a1 d.hosts.length q.c1) ∧ X.cell? ⟨w.heap.size + 1 + 1, 1, none⟩ = some (.slice q.a2 d.reps.length q.c2)))
  have n1 := hd.hosts.1; have n2 := hd.hosts.2.1; have n3 := hd.reps.1; have n4 := hd.reps.2.1; have n5 := hs.hosts.1; have n6 := hs.hosts.2.1
  unfold maxLen at n2 n4 n6
  have HR := Lib.hid hr
  have KW := Lib.hid (Below.refl W.heap.size W)
  have hle : w.heap.size ≤ W.heap.size := B0.size
  clear B0 hr hs hx hd X1 X2 X3 s1 s2 s3
  obtain ⟨f0, f1, f2, f3, f4, f5, f6, g0, g1, g2⟩ := HF.out W KW.out
  unfold woA at h3
  rw [h3, h2, h1] at f0 f1 f2 f3 f4 f5 f6 g0 g1 g2
  generalize hA : w.heap.size = B at *
  go_enter Try.func14, Try.ntmps14
  go_wp2_with (fail)
  rw [← h1, ← h2, ← h3] at f0 f1 f2 f3 f4 f5 f6 g0 g1 g2 ⊢
  clear h1 h2 h3
  obtain ⟨q0, h0⟩ : ∃ b, siteOk s = b := ⟨_, rfl⟩
  have Q0 := Lib.hid h0
  clear h0
  go_at_call 28
  refine (c_stValid p s q0 Q0.out W HS.out).mono ?_
  rintro e w1 ⟨rfl, b1⟩
  have K1 := Lib.hid b1
  clear b1
  clear f0 f1 f2 f3 f4 f5 f6 g0 g1 g2
  obtain ⟨f0, f1, f2, f3, f4, f5, f6, g0, g1, g2⟩ := HF.out w1 K1.out
  cases q0
  · obtain rfl : false = r := by
      rcases r with _ | _
      · rfl
      · exact absurd (HR.out.1 rfl) (fun h => by have := h.1; rw [Q0.out] at this; cases this)
    go_wp2_with (fail)
    go_ret
    exact ⟨rfl, below_join HB.out K1.out hle⟩
  go_wp2_with (fail)
  obtain ⟨q1, h1⟩ : ∃ b : Bool, b = true ↔ WishOk (svs xs) := by
    by_cases h : WishOk (svs xs)
    · exact ⟨true, by simp [h]⟩
    · exact ⟨false, by simp [h]⟩
  have Q1 := Lib.hid h1
  clear h1
  go_at_call 29
  refine (c_ValidWish A c xs q1 Q1.out w1 (HX.out.on K1.out (Nat.le_refl _))).mono ?_
  rintro e w2 ⟨rfl, b2⟩
  have K2 := Lib.hid (below_join K1.out b2 K1.out.size)
  clear b2
  clear f0 f1 f2 f3 f4 f5 f6 g0 g1 g2
  obtain ⟨f0, f1, f2, f3, f4, f5, f6, g0, g1, g2⟩ := HF.out w2 K2.out
  cases q1
  · obtain rfl : false = r := by
      rcases r with _ | _
      · rfl
      · exact absurd (HR.out.1 rfl) (fun h => by have := Q1.out.2 h.2.1; cases this)
    go_wp2_with (fail)
    go_ret
    exact ⟨rfl, below_join HB.out K2.out hle⟩
  rcases h2 : ((d.hosts.length : Int) == (s.hosts.length : Int)) with _ | _
  · have Q2 := Lib.hid h2
    obtain rfl : false = r := by
      rcases r with _ | _
      · rfl
      · exact absurd (HR.out.1 rfl) (fun h => by have e := h.2.2.1; have := Q2.out; rw [e] at this; simp at this)
    go_wp2_with (fail)
    go_ret
    exact ⟨rfl, below_join HB.out K2.out hle⟩
  have Q2 := Lib.hid (show d.hosts.length = s.hosts.length by have := eq_of_beq h2; omega)
  go_wp2_with (fail)
  clear h2
  obtain ⟨q3, h3⟩ : ∃ b, d.hosts.any (fun x => !hstOk x) = b := ⟨_, rfl⟩
  have Q3 := Lib.hid h3
  clear h3
  go_at_call 30
  refine (c_CF_HostState q.a1 q.c1 d.hosts w2 (HD.out.on K2.out (Nat.le_refl _)).hosts q3 Q3.out).mono ?_
  rintro e w3 ⟨rfl, b3⟩
  have K3 := Lib.hid (below_join K2.out b3 K2.out.size)
  clear b3
  clear f0 f1 f2 f3 f4 f5 f6 g0 g1 g2
  obtain ⟨f0, f1, f2, f3, f4, f5, f6, g0, g1, g2⟩ := HF.out w3 K3.out
  cases q3
  rotate_left
  · obtain rfl : false = r := by
      rcases r with _ | _
      · rfl
      · exact absurd (HR.out.1 rfl) (fun h => by have := any_bad.2 h.2.2.2.1; rw [Q3.out] at this; cases this)
    go_wp2_with (fail)
    go_ret
    exact ⟨rfl, below_join HB.out K3.out hle⟩
  rcases h4 : decide ((d.reps.length : Int) ≤ 24) with _ | _
  · have Q4 := Lib.hid h4
    obtain rfl : false = r := by
      rcases r with _ | _
      · rfl
      · exact absurd (HR.out.1 rfl) (fun h => by have e := h.2.2.2.2.1; have := of_decide_eq_false Q4.out; omega)
    go_wp2_with (fail)
    go_ret
    exact ⟨rfl, below_join HB.out K3.out hle⟩
  have Q4 := Lib.hid (show d.reps.length ≤ 24 by have := of_decide_eq_true h4; omega)
  go_wp2_with (fail)
  clear h4
  obtain ⟨q5, h5⟩ : ∃ b, d.reps.any (fun x => !repOk xs.length s.hosts.length x) = b := ⟨_, rfl⟩
  have Q5 := Lib.hid h5
  clear h5
  go_at_call 31
  refine (c_CF_Replica (B + 1) B p s A xs.length c q.a2 q.c2 d.reps w3 (B2.out.on K3.out (Nat.le_refl _)) (B1.out.on K3.out (Nat.le_refl _)) (HD.out.on K3.out (Nat.le_refl _)).reps q5 Q5.out).mono ?_
  rintro e w4 ⟨rfl, b4⟩
  have K4 := Lib.hid (below_join K3.out b4 K3.out.size)
  clear b4
  clear f0 f1 f2 f3 f4 f5 f6 g0 g1 g2
  obtain ⟨f0, f1, f2, f3, f4, f5, f6, g0, g1, g2⟩ := HF.out w4 K4.out
  cases q5
  rotate_left
  · obtain rfl : false = r := by
      rcases r with _ | _
      · rfl
      · exact absurd (HR.out.1 rfl) (fun h => by have e := h.2.2.2.2.2.1; rw [svs_len] at e; have := any_bad.2 e; rw [Q5.out] at this; cases this)
    go_wp2_with (fail)
    go_ret
    exact ⟨rfl, below_join HB.out K4.out hle⟩
  go_wp2_with (fail)
  obtain ⟨q6, h6⟩ : ∃ b, ascB d.reps = b := ⟨_, rfl⟩
  have Q6 := Lib.hid h6
  clear h6
  have HE := Lib.hid (show q6 = r by
    rw [Bool.eq_iff_iff, HR.out, ← Q6.out]
    exact ⟨fun h => ⟨Q0.out, Q1.out.1 (by trivial), Q2.out, any_bad.1 Q3.out, Q4.out, by rw [svs_len]; exact any_bad.1 Q5.out, h⟩, fun h => h.2.2.2.2.2.2⟩)
  go_at_call 32
  refine (c_ascend q.a2 q.c2 d.reps q6 Q6.out w4 (HD.out.on K4.out (Nat.le_refl _)).reps).mono ?_
  rintro e w5 ⟨rfl, b5⟩
  have K5 := Lib.hid (below_join K4.out b5 K4.out.size)
  clear b5
  go_wp2_with (fail)
  go_ret
  exact ⟨(show Ending.returned (.bool q6) = .returned (.bool r) by rw [HE.out]), below_join HB.out K5.out hle⟩
end Go.Proofs.Ytidpiokkfnhobaa

namespace Go.Proofs.Ytidpiokkfnhobaa
open Go.RowKit
set_option maxRecDepth 100000
set_option linter.unusedVariables false
set_option linter.unusedSimpArgs false

theorem two_boxes {w : World} {c1 c2 : Array Value} {T1 T2 : TypeId} {W1 W : World} (h1 : W1 = w.alloc (.cells c1 T1)) (h2 : W = W1.alloc (.cells c2 T2)) :
    Below w.heap.size w W ∧ W.heap[w.heap.size]? = some (.cells c1 T1 (0, 0)) ∧ W.heap[w.heap.size + 1]? = some (.cells c2 T2 (0, 0)) ∧ W.heap.size = w.heap.size + 1 + 1 := by
  have s1 : W1.heap.size = w.heap.size + 1 := by rw [h1, World.size_alloc]
  have e1 : Below w.heap.size w W1 := by rw [h1]; exact (Below.refl _ _).alloc (Nat.le_refl _) _
  have b1 : W1.heap[w.heap.size]? = some (.cells c1 T1 (0, 0)) := by rw [h1]; exact box_new _ _ _
  refine ⟨by rw [h2]; exact e1.alloc (by omega) _, by rw [h2]; exact old_heap _ b1, by rw [h2, ← s1]; exact box_new _ _ _, by rw [h2, World.size_alloc, s1]⟩
end Go.Proofs.Ytidpiokkfnhobaa

namespace Go.Proofs.Ytidpiokkfnhobaa
open Go.RowKit
set_option maxRecDepth 100000
set_option linter.unusedVariables false
set_option linter.unusedSimpArgs false

theorem used_take {ss : List Svc} {l : List Rep} {k : Nat} {x : Rep} (h : l[k]? = some x) (host : Int) : usedD ss (l.take (k + 1)) host = usedStep ss host (usedD ss (l.take k) host) x := by
  rw [List.take_add_one, h]; exact used_snoc _ _ _ _
theorem cores_at {xs : List (Svc × SvA)} {m : Nat} {y : Svc × SvA} (h : xs[m]? = some y) : coresAt (svs xs) (m : Int) = y.1.cores := by
  unfold coresAt
  rw [show ((m : Nat) : Int).toNat = m by omega, svs_at h]; rfl
set_option maxHeartbeats 16000000 in
theorem c_woUsed (A : Option Addr) (c : Nat) (xs : List (Svc × SvA)) (p : WP) (d : WorldD) (host : Int) (w : World) (hx : WiAt w A c xs) (h : WoAt w p d) :
    Calls Try.prog 33 #[.agg #[.slice A xs.length c], .agg (woA p d), .int .i64 host] w fun e w' => e = .returned (.int .i64 (usedD (svs xs) d.reps host)) ∧ Below w.heap.size w w' := by
  unfold woA
  obtain ⟨W1, h1⟩ : ∃ W, W = w.alloc (.cells #[.slice A xs.length c] 45) := ⟨_, rfl⟩
  obtain ⟨W, h2⟩ : ∃ W, W = W1.alloc (.cells (woA p d) 25) := ⟨_, rfl⟩
  obtain ⟨B0, b1, b2, -⟩ := two_boxes h1 h2
  have HB := Lib.hid B0
  have HF := Lib.hid (fun (X : World) (hX : Below W.heap.size W X) => (⟨cell_of (box_on b1 hX (Nat.le_refl _)) rfl, cell_of (box_on b2 hX (Nat.le_refl _)) rfl⟩ : X.cell? ⟨w.heap.size, 0, none⟩ = some (.slice A xs.length c) ∧ X.cell? ⟨w.heap.size + 1, 1, none⟩ = some (.slice p.a2 d.reps.length p.c2)))
  have H := Lib.hid (h.on B0 (Nat.le_refl _)).reps
  have HX := Lib.hid (hx.on B0 (Nat.le_refl _))
  have hc1 := h.reps.1; have hc2 := h.reps.2.1; have hc3 := hx.row.1; have hc4 := hx.row.2.1
  unfold maxLen at hc2 hc4
  have hle := B0.size
  have HSL := Lib.hid (svs_len xs)
  obtain ⟨x0, x1⟩ := HF.out W (Below.refl _ _)
  clear h hx B0 b1 b2
  unfold woA at h2
  rw [h2, h1] at x0 x1
  generalize hA : w.heap.size = B at *
  go_enter Try.func33, Try.ntmps33
  go_wp2_with (fail)
  rw [← h1, ← h2]
  clear h1 h2 x0 x1
  go_loopw [7, 13] (fun v i wr => ∃ (k : Nat) (acc : Int), k ≤ d.reps.length ∧ v = .int .i64 acc ∧ i = .int .i64 (k : Int) ∧ Hid (acc = usedD (svs xs) (d.reps.take k) host) ∧ Hid (Below W.heap.size W wr)) (fun _ i _ => d.reps.length - (intOf i).toNat)
  case atStart => exact ⟨0, 0, Nat.zero_le _, rfl, rfl, Lib.hid rfl, Lib.hid (Below.refl _ _)⟩
  case round =>
    obtain ⟨k, acc, hk, rfl, rfl, hacc, hK⟩ := hrel
    have hki : ((k : Nat) : Int).toNat = k := by omega
    by_cases hlt : k < d.reps.length
    · obtain ⟨⟨sv, ho⟩, hx⟩ : ∃ x, d.reps[k]? = some x := ⟨_, List.getElem?_eq_getElem hlt⟩
      have HK := H.out.on hK.out (Nat.le_refl _)
      obtain ⟨b, o, e0, -, -⟩ := HK.at_ hx
      rw [e0] at HK
      obtain ⟨y0, y1⟩ := rep_at HK hx
      simp only at y0 y1
      have HXX := Lib.hid hx
      have hkl : (k : Int) < (d.reps.length : Int) := by omega
      obtain ⟨V, hV⟩ : ∃ V, V = wr.alloc (.cells #[.int .i64 sv, .int .i64 ho] 51) := ⟨_, rfl⟩
      have bV : Below wr.heap.size wr V := by subst hV; exact (Below.refl _ _).alloc (Nat.le_refl _) _
      have HKV := Lib.hid (below_join hK.out bV hK.out.size)
      have z0 : V.cell? ⟨wr.heap.size, 0, none⟩ = some (.int .i64 sv) := by subst hV; exact cell_of (box_new _ _ _) rfl
      have z1 : V.cell? ⟨wr.heap.size, 1, none⟩ = some (.int .i64 ho) := by subst hV; exact cell_of (box_new _ _ _) rfl
      obtain ⟨x0, x1⟩ := HF.out V HKV.out
      clear hx HK bV
      rw [e0]
      rcases hf : (ho == host) with _ | _
      · have HO := Lib.hid (show acc = usedD (svs xs) (d.reps.take (k + 1)) host by
          rw [used_take HXX.out]; unfold usedStep
          rw [show (({ svc := sv, host := ho } : Rep).host == host) = false from hf]
          simp only [Bool.false_and, Bool.false_eq_true, if_false]
          exact hacc.out)
        rw [hV] at z0 z1 x0 x1
        go_wp2_with (fail)
        rw [← hV]
        clear hV
        go_roundw
        case rel => exact ⟨k + 1, acc, by omega, rfl, by go_num, HO, HKV⟩
        case measure => simp only [intOf]; omega
      · obtain ⟨q, hq⟩ : ∃ q, ixB sv (xs.length : Int) = q := ⟨_, rfl⟩
        have HQ := Lib.hid hq
        have HFF := Lib.hid hf
        rw [hV] at z0 z1 x0 x1
        clear hq
        go_wp2_with (fail)
        rw [← hV] at z0 z1 x0 x1 ⊢
        clear hV
        go_at_call 27
        refine (c_woIsIndex sv (xs.length : Int) q HQ.out V).mono ?_
        rintro e wx ⟨rfl, hwx⟩
        rw [hwx]
        clear hwx wx
        cases q
        · have HO := Lib.hid (show acc = usedD (svs xs) (d.reps.take (k + 1)) host by
            rw [used_take HXX.out]; unfold usedStep
            rw [HSL.out, show ixB ({ svc := sv, host := ho } : Rep).svc (xs.length : Int) = false from HQ.out]
            simp only [Bool.and_false, Bool.false_eq_true, if_false]
            exact hacc.out)
          go_wp2_with (fail)
          go_roundw
          case rel => exact ⟨k + 1, acc, by omega, rfl, by go_num, HO, HKV⟩
          case measure => simp only [intOf]; omega
        · have hr := ixB_iff.1 HQ.out
          obtain ⟨m, rfl⟩ : ∃ m : Nat, sv = m := ⟨sv.toNat, by omega⟩
          have hml : m < xs.length := by omega
          obtain ⟨y, hy⟩ : ∃ y, xs[m]? = some y := ⟨_, List.getElem?_eq_getElem hml⟩
          have HXV := HX.out.on HKV.out (Nat.le_refl _)
          obtain ⟨pb, po, rfl, -, -⟩ := HXV.row.at_ hy
          have t0 := (sv_at HXV.row hy).1
          have hmi : ((m : Nat) : Int).toNat = m := by omega
          have hml2 : (m : Int) < (xs.length : Int) := by omega
          have hm0 : (0 : Int) ≤ (m : Int) := by omega
          obtain ⟨z, hz⟩ : ∃ z, IntKind.i64.wrap (acc + y.1.cores) = z := ⟨_, rfl⟩
          have HO := Lib.hid (show z = usedD (svs xs) (d.reps.take (k + 1)) host by
            rw [used_take HXX.out]; unfold usedStep
            rw [HSL.out, show ixB ({ svc := ((m : Nat) : Int), host := ho } : Rep).svc (xs.length : Int) = true from HQ.out, show (({ svc := ((m : Nat) : Int), host := ho } : Rep).host == host) = true from HFF.out]
            simp only [Bool.and_true, if_true]
            rw [cores_at hy, ← hz, hacc.out])
          clear hr HXV hy
          go_wp2_with (fail)
          go_roundw
          case rel => exact ⟨k + 1, z, by omega, rfl, by go_num, HO, HKV⟩
          case measure => simp only [intOf]; omega
    · obtain rfl : k = d.reps.length := by omega
      have HO := Lib.hid (show acc = usedD (svs xs) d.reps host by have := hacc.out; rwa [List.take_length] at this)
      go_wp2_with (fail)
      go_ret
      exact ⟨(show Ending.returned (.int .i64 acc) = .returned (.int .i64 (usedD (svs xs) d.reps host)) by rw [HO.out]), below_join HB.out hK.out hle⟩
end Go.Proofs.Ytidpiokkfnhobaa

namespace Go.Proofs.Ytidpiokkfnhobaa
open Go.RowKit
set_option maxRecDepth 100000
set_option linter.unusedVariables false
set_option linter.unusedSimpArgs false

def RpBox (w : World) (b : Nat) (A : Option Addr) (n c : Nat) : Prop := w.heap[b]? = some (.cells #[.slice A n c] 23 (0, 0))
def XpBox (w : World) (b : Nat) (x : Rep) : Prop := w.heap[b]? = some (.cells #[.int .i64 x.svc, .int .i64 x.host] 51 (0, 0))
theorem RpBox.on {w w' : World} {b : Nat} {A : Option Addr} {n c B : Nat} (h : RpBox w b A n c) (hb : Below B w w') (hB : w.heap.size ≤ B) : RpBox w' b A n c := box_on h hb hB
theorem XpBox.on {w w' : World} {b : Nat} {x : Rep} {B : Nat} (h : XpBox w b x) (hb : Below B w w') (hB : w.heap.size ≤ B) : XpBox w' b x := box_on h hb hB
end Go.Proofs.Ytidpiokkfnhobaa

namespace Go.Proofs
open Go.RowKit
set_option maxRecDepth 100000
set_option linter.unusedVariables false
set_option linter.unusedSimpArgs false
namespace Ytidpiokkfnhobaa

theorem hst_info : (Try.prog.info? 29).map (fun i => (i.zero, i.size, i.bytes)) = some (some (.agg #[.int .u8 0, .int .i64 0]), 2, 16) := by kernel_rfl
end Ytidpiokkfnhobaa
end Go.Proofs
