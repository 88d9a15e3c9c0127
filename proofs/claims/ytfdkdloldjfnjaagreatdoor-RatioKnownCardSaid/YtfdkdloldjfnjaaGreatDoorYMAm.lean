/-
  DERIVED. Several texts in one.
-/
import Derived.Test.YtfdkdloldjfnjaaGreatDoorYRAm
import Derived.Test.YtfdkdloldjfnjaaGreatDoorProg
import Derived.WalkKit
import Derived.Below
import Derived.Laws.OwnMore
import Derived.Laws.Rows
import Derived.Deep.AppendLies
import Derived.Deep.Draws
import Derived.Deep.QuietTactic
import Derived.BigQuiet
import Derived.IntWalk
import Derived.Lib.Hide
set_option linter.unusedVariables false
set_option linter.unusedSimpArgs false

/- DERIVED. Limbs in memory: a block that is known whole, a slice that reads as limbs, and what a function that writes one block leaves. -/
namespace Go.Proofs.YtfdkdloldjfnjaaGreatDoor
open Go.RowKit

def u32s (l : List Nat) : List Value := l.map fun x : Nat => Value.int .u32 (x : Int)
theorem u32s_length (l : List Nat) : (u32s l).length = l.length := by simp [u32s]
theorem u32s_get (l : List Nat) (j : Nat) : (u32s l)[j]? = (l[j]?).map fun x : Nat => Value.int .u32 (x : Int) := by simp [u32s]
theorem u32s_append (a b : List Nat) : u32s (a ++ b) = u32s a ++ u32s b := by simp [u32s]
theorem u32s_set (a : List Nat) (i x : Nat) : u32s (a.set i x) = (u32s a).set i (.int .u32 (x : Int)) := by simp [u32s, List.map_set]
/-- Block b begins with these limbs; what is behind them does not matter. -/
def Row (w : World) (b : Nat) (l : List Nat) : Prop := ∃ cur : Array Value, w.heap[b]? = some (.cells cur 51 (0, 0)) ∧ cur.toList.take l.length = u32s l
/-- The slice v reads as the limbs l; its block is one of ok's. -/
def NatSl (w : World) (ok : Nat → Prop) (v : Value) (l : List Nat) : Prop :=
  ∃ A c, v = .slice A l.length c ∧ l.length ≤ c ∧ c ≤ maxLen ∧ (0 < l.length → ∃ b o, A = some ⟨b, o, none⟩ ∧ ok b ∧ ∀ j x : Nat, l[j]? = some x → w.cell? ⟨b, o + j, none⟩ = some (.int .u32 (x : Int)))
/-- The blocks below n stand, but for block b. -/
structure Keep (n b : Nat) (w w' : World) : Prop where
  os : w'.os = w.os
  tape : w'.tape = w.tape
  output : w'.output = w.output
  size : w.heap.size ≤ w'.heap.size
  block : ∀ k, k < n → k ≠ b → w'.heap[k]? = w.heap[k]?

section
variable {w w' w2 : World} {b n m : Nat} {l : List Nat} {ok ok' : Nat → Prop} {v : Value}
theorem Row.lt (h : Row w b l) : b < w.heap.size := by obtain ⟨cur, h, -⟩ := h; exact (Array.getElem?_eq_some_iff.1 h).1
theorem Row.cellN (h : Row w b l) {i : Nat} (hi : i < l.length) : w.cell? ⟨b, i, none⟩ = (l[i]?).map fun x : Nat => Value.int .u32 (x : Int) := by
  obtain ⟨cur, h, hc⟩ := h
  rw [cell_of_row w b i _ _ _ h, ← u32s_get, ← hc, List.getElem?_take_of_lt hi, Array.getElem?_toList]
theorem Row.cell (h : Row w b l) {i : Nat} (hi : i < l.length) : w.cell? ⟨b, i, none⟩ = some (.int .u32 ((l.getD i 0 : Nat) : Int)) := by
  rw [h.cellN hi, List.getD_eq_getElem?_getD, List.getElem?_eq_getElem hi]; rfl
theorem Row.frozen (h : Row w b l) (i : Nat) : w.frozen? ⟨b, i, none⟩ = false := by
  obtain ⟨cur, h, hc⟩ := h
  simp [World.frozen?, h]
theorem Row.of_heap (h : Row w b l) (e : w'.heap[b]? = w.heap[b]?) : Row w' b l := by
  obtain ⟨cur, h, hc⟩ := h
  exact ⟨cur, e.trans h, hc⟩
theorem Row.drew (h : Row w b l) : Row w.drew b l := h
theorem Row.drewN (h : Row w b l) (k : Nat) : Row (w.drewN k) b l := h
theorem Row.alloc (h : Row w b l) (o : Obj) : Row (w.alloc o) b l := h.of_heap (Below.heap_alloc w o b h.lt)
theorem Row.set (h : Row w b l) (i x : Nat) : Row (w.setCell ⟨b, i, none⟩ (.int .u32 (x : Int))) b (l.set i x) := by
  obtain ⟨cur, h, hc⟩ := h
  refine ⟨cur.setIfInBounds i (.int .u32 (x : Int)), by simp [World.setCell, Array.getElem?_modify, h], ?_⟩
  rw [List.length_set, u32s_set, ← hc, Array.toList_setIfInBounds, List.take_set]
theorem Row.far (h : Row w b l) {p : Addr} (hp : b ≠ p.block) (u : Value) : Row (w.setCell p u) b l := h.of_heap (Below.heap_setCell w p u b hp)
theorem Row.below {B : Nat} (h : Row w b l) (hb : Below B w w') (hg : b < B) : Row w' b l := h.of_heap (hb.block b hg)
theorem Row.keep {c : Nat} (h : Row w b l) (hk : Keep n c w w') (hn : b < n) (hc : b ≠ c) : Row w' b l := h.of_heap (hk.block b hn hc)

theorem NatSl.mono (h : NatSl w ok v l) (H : ∀ k, ok k → ok' k) : NatSl w ok' v l := by
  obtain ⟨A, c, h1, h2, h3, h4⟩ := h
  refine ⟨A, c, h1, h2, h3, fun hl => ?_⟩
  obtain ⟨b, o, e, hb, hc⟩ := h4 hl
  exact ⟨b, o, e, H _ hb, hc⟩
theorem NatSl.stand (h : NatSl w ok v l) (H : ∀ k, ok k → ok' k ∧ w'.heap[k]? = w.heap[k]?) : NatSl w' ok' v l := by
  obtain ⟨A, c, h1, h2, h3, h4⟩ := h
  refine ⟨A, c, h1, h2, h3, fun hl => ?_⟩
  obtain ⟨b, o, e, hb, hc⟩ := h4 hl
  exact ⟨b, o, e, (H b hb).1, fun j x hj => (World.cell?_of_block (a := ⟨b, o + j, none⟩) (H b hb).2).trans (hc j x hj)⟩
theorem NatSl.shape (h : NatSl w ok v l) : ∃ A c, v = .slice A l.length c := by obtain ⟨A, c, h1, -⟩ := h; exact ⟨A, c, h1⟩
theorem NatSl.at_ (h : NatSl w ok v l) {i : Nat} (hi : i < l.length) :
    ∃ b o c, v = .slice (some ⟨b, o, none⟩) l.length c ∧ ok b ∧ l.length ≤ c ∧ c ≤ maxLen ∧ ∀ j, j < l.length → w.cell? ⟨b, o + j, none⟩ = some (.int .u32 ((l.getD j 0 : Nat) : Int)) := by
  obtain ⟨A, c, h1, h2, h3, h4⟩ := h
  obtain ⟨b, o, rfl, hb, hc⟩ := h4 (by omega)
  exact ⟨b, o, c, h1, hb, h2, h3, fun j hj => by rw [List.getD_eq_getElem?_getD, List.getElem?_eq_getElem hj]; exact hc j _ (List.getElem?_eq_getElem hj)⟩
theorem NatSl.nil (w : World) (ok : Nat → Prop) : NatSl w ok (.slice none 0 0) [] := ⟨none, 0, rfl, Nat.le_refl _, Nat.zero_le _, fun h => absurd h (by decide)⟩
theorem Row.sl (h : Row w b l) {o n c : Nat} (hn : o + n ≤ l.length) (hc : n ≤ c) (hm : c ≤ maxLen) : NatSl w (· = b) (.slice (some ⟨b, o, none⟩) n c) ((l.drop o).take n) := by
  have hl : ((l.drop o).take n).length = n := by simp; omega
  refine ⟨_, c, by rw [hl], by omega, hm, fun _ => ⟨b, o, rfl, rfl, fun j x hj => ?_⟩⟩
  have hjn : j < n := by have := (List.getElem?_eq_some_iff.1 hj).1; omega
  rw [List.getElem?_take_of_lt hjn, List.getElem?_drop] at hj
  rw [h.cellN (by omega), hj]; rfl

theorem Keep.refl (n b : Nat) (w : World) : Keep n b w w := ⟨rfl, rfl, rfl, Nat.le_refl _, fun _ _ _ => rfl⟩
theorem Keep.trans (h : Keep n b w w') (k : Keep n b w' w2) : Keep n b w w2 :=
  ⟨k.os.trans h.os, k.tape.trans h.tape, k.output.trans h.output, Nat.le_trans h.size k.size, fun i hi hb => (k.block i hi hb).trans (h.block i hi hb)⟩
theorem Keep.mono (h : Keep n b w w') (hm : m ≤ n) : Keep m b w w' := ⟨h.os, h.tape, h.output, h.size, fun i hi hb => h.block i (by omega) hb⟩
theorem Keep.drew (h : Keep n b w w') : Keep n b w w'.drew := ⟨h.os, h.tape, h.output, h.size, h.block⟩
theorem Keep.drewN (h : Keep n b w w') (k : Nat) : Keep n b w (w'.drewN k) := ⟨h.os, h.tape, h.output, h.size, h.block⟩
theorem Keep.set (h : Keep n b w w') (i : Nat) (u : Value) : Keep n b w (w'.setCell ⟨b, i, none⟩ u) :=
  ⟨h.os, h.tape, h.output, by simpa [World.setCell] using h.size, fun k hk hb => (Below.heap_setCell w' ⟨b, i, none⟩ u k hb).trans (h.block k hk hb)⟩
theorem Keep.below (h : Keep n b w w') (hb : n ≤ b) : Below n w w' := ⟨h.os, h.tape, h.output, h.size, fun k hk => h.block k hk (by omega)⟩
theorem Keep.low (h : Keep n b w w') {B : Nat} (hn : B ≤ n) (hb : B ≤ b) : Below B w w' := ⟨h.os, h.tape, h.output, h.size, fun k hk => h.block k (by omega) (by omega)⟩
theorem Keep.of_below (h : Below n w w') (b : Nat) : Keep n b w w' := ⟨h.os, h.tape, h.output, h.size, fun k hk _ => h.block k hk⟩
theorem NatSl.below {B : Nat} (h : NatSl w ok v l) (hb : Below B w w') (H : ∀ k, ok k → k < B ∧ ok' k) : NatSl w' ok' v l :=
  h.stand fun k hk => ⟨(H k hk).2, hb.block k (H k hk).1⟩
theorem NatSl.keep (h : NatSl w ok v l) (hk : Keep n b w w') (H : ∀ k, ok k → (k < n ∧ k ≠ b) ∧ ok' k) : NatSl w' ok' v l :=
  h.stand fun k hk' => ⟨(H k hk').2, hk.block k (H k hk').1.1 (H k hk').1.2⟩
end
/-- A call that leaves its world, behind some draws: for a quiet region behind another one. -/
theorem calm_more {P : Program} {f : FuncId} {args : Array Value} {w : World} {a n : Nat} {v : Value} (h : ∀ W, Calls P f args W fun e w' => e = .returned v ∧ W = w') :
    Calls P f args (w.drewN (a + n)) fun e w'' => e = .returned v ∧ ∃ m, w'' = w.drewN (a + m) := (h _).mono fun _ _ ⟨he, hm⟩ => ⟨he, n, hm.symm⟩
theorem calm_once {P : Program} {f : FuncId} {args : Array Value} {w : World} {n : Nat} {v : Value} (h : ∀ k, Calls P f args (w.drewN k) fun e w' => e = .returned v ∧ w.drewN k = w') :
    Calls P f args (w.drewN n) fun e w'' => e = .returned v ∧ ∃ m, w'' = w.drewN m := (h _).mono fun _ _ ⟨he, hm⟩ => ⟨he, n, hm.symm⟩
end Go.Proofs.YtfdkdloldjfnjaaGreatDoor

/- DERIVED. limb, trim. -/
namespace Go.Proofs.YtfdkdloldjfnjaaGreatDoor
open Go.RowKit
set_option maxRecDepth 100000

theorem ret_nat {k : IntKind} {a b : Int} (h : a = b) : Ending.returned (.int k a) = .returned (.int k b) := by rw [h]
theorem c_limb (l : List Nat) (v : Value) (ok : Nat → Prop) (w : World) (h : NatSl w ok v l) (i : Nat) (hi : (i : Int) ≤ 9223372036854775807) :
    Calls Tryz.prog 79 #[v, .int .i64 i] w fun e w' => e = .returned (.int .u32 ((l.getD i 0 : Nat) : Int)) ∧ w = w' := by
  by_cases hlt : i < l.length
  · obtain ⟨b, o, c, rfl, -, h2, h3, hc⟩ := h.at_ hlt
    have h1 := hc i hlt
    unfold maxLen at h3
    clear h hc
    generalize l.getD i 0 = x at h1 ⊢
    go_enter Tryz.func79, Tryz.ntmps79
    go_wp2
    go_ret
    exact ⟨rfl, rfl⟩
  · have hg : l.getD i 0 = 0 := by rw [List.getD_eq_getElem?_getD, List.getElem?_eq_none (by omega)]; rfl
    rw [hg]
    obtain ⟨A, c, rfl, h2, h3, -⟩ := h
    unfold maxLen at h3
    clear hg
    go_enter Tryz.func79, Tryz.ntmps79
    go_wp2
    go_ret
    exact ⟨rfl, rfl⟩

/-- The slice without the limbs 0 at its end. -/
def TrimPost (l : List Nat) (v : Value) (ok : Nat → Prop) (w : World) (e : Ending) (w' : World) : Prop := ∃ r, e = .returned r ∧ (NatSl w ok r (nat (val l)) ∧ ∀ A n c, v = .slice A n c → r = .slice A (nat (val l)).length c) ∧ w = w'
set_option maxHeartbeats 1000000 in
theorem c_trim (l : List Nat) (hl : Lb l) (v : Value) (ok : Nat → Prop) (w : World) (h : NatSl w ok v l) :
    Calls Tryz.prog 93 #[v] w (TrimPost l v ok w) := by
  obtain ⟨A, c, rfl, h2, h3, h4⟩ := id h
  have H := Lib.hid h
  have HL := Lib.hid hl
  have H4 := Lib.hid h4
  have H3 := Lib.hid h3
  unfold maxLen at h3
  clear h hl h4
  go_enter Tryz.func93, Tryz.ntmps93
  go_wp2
  go_loop [3] (fun n => ∃ k : Nat, k ≤ l.length ∧ n = .int .i64 k ∧ Hid (∀ i, k ≤ i → i < l.length → l.getD i 0 = 0)) (fun n => (intOf n).toNat)
  case atStart => exact ⟨l.length, Nat.le_refl _, rfl, Lib.hid (fun i h1 h2 => by omega)⟩
  case round =>
    obtain ⟨k, hk, rfl, hz⟩ := hrel
    by_cases h0 : 0 < k
    · obtain ⟨b, o, c', e, -, -, -, hc⟩ := H.out.at_ (i := k - 1) (by omega)
      injection e with e1 _ e2
      subst e1 e2
      have hcell := hc (k - 1) (by omega)
      have hko : ((k : Int) - 1).toNat = k - 1 := by omega
      clear hc
      generalize hgx : l.getD (k - 1) 0 = x at hcell
      have HX := Lib.hid hgx
      clear hgx
      by_cases hx : x = 0
      · subst hx
        go_wp2
        go_round
        case rel => exact ⟨k - 1, by omega, by go_num, Lib.hid (fun i h1 h2 => by
          rcases Nat.lt_or_ge i k with h5 | h5
          · rw [show i = k - 1 by omega]; exact HX.out
          · exact hz.out i h5 h2)⟩
        case measure => simp [intOf]; omega
      · have hne : ((x : Int) == 0) = false := by rw [beq_eq_false_iff_ne]; omega
        have hlk : (l.take k).length = k := by simp; omega
        have HLK := Lib.hid hlk
        clear hlk
        go_wp2
        go_ret
        refine ⟨_, rfl, ?_, rfl⟩
        rw [← trim_nat HL.out hk hz.out (fun _ => by rw [HX.out]; exact hx)]
        refine ⟨?_, fun A n c e => by injection e with e1 e2 e3; subst e1 e3; rw [HLK.out]; rfl⟩
        refine ⟨some ⟨b, o, none⟩, c, by rw [HLK.out]; rfl, by rw [HLK.out]; omega, H3.out, fun hl => ?_⟩
        obtain ⟨b', o', e, hb, hc⟩ := H4.out (by omega)
        exact ⟨b', o', e, hb, fun j x hj => hc j x (by rw [← hj, List.getElem?_take_of_lt]; have := (List.getElem?_eq_some_iff.1 hj).1; rw [HLK.out] at this; exact this)⟩
    · obtain rfl : k = 0 := by omega
      go_wp2
      go_ret
      refine ⟨_, rfl, ?_, rfl⟩
      rw [← trim_nat HL.out (Nat.zero_le _) hz.out (fun h => absurd h (by omega))]
      exact ⟨⟨A, c, rfl, by simp, H3.out, fun h => absurd h (by simp)⟩, fun A n c e => by injection e with e1 e2 e3; subst e1 e3; rfl⟩
theorem c_cmpInt (x y : Int) (w : World) : Calls Tryz.prog 110 #[.int .i64 x, .int .i64 y] w fun e w' => e = .returned (.int .i64 (if x < y then -1 else if y < x then 1 else 0)) ∧ w = w' := by
  have hn : ∀ (z : Int) (w : World), Calls Tryz.prog 124 #[.int .i64 z] w fun e w' => e = .returned (.bool false) ∧ w = w' := by
    intro z w
    go_enter Tryz.func124, Tryz.ntmps124
    go_wp2
    go_ret
    exact ⟨by simp, rfl⟩
  have HN := Lib.hid hn
  clear hn
  by_cases h1 : x < y
  · rw [if_pos h1]
    go_enter Tryz.func110, Tryz.ntmps110
    go_wp2_with (go_at_call 124; refine (HN.out _ _).mono ?_; rintro e w' ⟨rfl, rfl⟩)
    go_ret
    exact ⟨rfl, rfl⟩
  · rw [if_neg h1]
    by_cases h2 : y < x
    · rw [if_pos h2]
      go_enter Tryz.func110, Tryz.ntmps110
      go_wp2_with (go_at_call 124; refine (HN.out _ _).mono ?_; rintro e w' ⟨rfl, rfl⟩)
      go_ret
      exact ⟨rfl, rfl⟩
    · rw [if_neg h2]
      go_enter Tryz.func110, Tryz.ntmps110
      go_wp2_with (go_at_call 124; refine (HN.out _ _).mono ?_; rintro e w' ⟨rfl, rfl⟩)
      go_ret
      exact ⟨rfl, rfl⟩
theorem c_cmpU32 (x y : Int) (w : World) : Calls Tryz.prog 111 #[.int .u32 x, .int .u32 y] w fun e w' => e = .returned (.int .i64 (if x < y then -1 else if y < x then 1 else 0)) ∧ w = w' := by
  have hn : ∀ (z : Int) (w : World), Calls Tryz.prog 125 #[.int .u32 z] w fun e w' => e = .returned (.bool false) ∧ w = w' := by
    intro z w
    go_enter Tryz.func125, Tryz.ntmps125
    go_wp2
    go_ret
    exact ⟨by simp, rfl⟩
  have HN := Lib.hid hn
  clear hn
  by_cases h1 : x < y
  · rw [if_pos h1]
    go_enter Tryz.func111, Tryz.ntmps111
    go_wp2_with (go_at_call 125; refine (HN.out _ _).mono ?_; rintro e w' ⟨rfl, rfl⟩)
    go_ret
    exact ⟨rfl, rfl⟩
  · rw [if_neg h1]
    by_cases h2 : y < x
    · rw [if_pos h2]
      go_enter Tryz.func111, Tryz.ntmps111
      go_wp2_with (go_at_call 125; refine (HN.out _ _).mono ?_; rintro e w' ⟨rfl, rfl⟩)
      go_ret
      exact ⟨rfl, rfl⟩
    · rw [if_neg h2]
      go_enter Tryz.func111, Tryz.ntmps111
      go_wp2_with (go_at_call 125; refine (HN.out _ _).mono ?_; rintro e w' ⟨rfl, rfl⟩)
      go_ret
      exact ⟨rfl, rfl⟩
theorem c_cmpI (x y z : Int) (w : World) (hz : (if x < y then (-1 : Int) else if y < x then 1 else 0) = z) : Calls Tryz.prog 110 #[.int .i64 x, .int .i64 y] w fun e w' => e = .returned (.int .i64 z) ∧ w = w' := by subst hz; exact c_cmpInt x y w
theorem c_cmpU (x y z : Int) (w : World) (hz : (if x < y then (-1 : Int) else if y < x then 1 else 0) = z) : Calls Tryz.prog 111 #[.int .u32 x, .int .u32 y] w fun e w' => e = .returned (.int .i64 z) ∧ w = w' := by subst hz; exact c_cmpU32 x y w
end Go.Proofs.YtfdkdloldjfnjaaGreatDoor

/- DERIVED. addTimes. -/
namespace Go.Proofs.YtfdkdloldjfnjaaGreatDoor
open Go.RowKit
set_option maxRecDepth 100000

/-- What addTimes leaves: the window's new limbs, and what does not fit. -/
def AddPost (rb o n t : Nat) (L bs : List Nat) (w : World) (e : Ending) (w' : World) : Prop :=
  ∃ (u : List Nat) (cy : Nat), e = .returned (.int .u32 (cy : Int)) ∧ u.length = n ∧ Lb u ∧ cy < BB ∧ val u + BB ^ n * cy = val ((L.drop o).take n) + t * val (bs.take n) ∧ Row w' rb (L.take o ++ u ++ L.drop (o + n)) ∧ Keep w.heap.size rb w w'
def AddRel (rb o n t : Nat) (L bs : List Nat) (w : World) (c i : Value) (wr : World) : Prop :=
  ∃ (k : Nat) (u : List Nat) (cy : Nat), k ≤ n ∧ i = .int .i64 k ∧ c = .int .u64 (cy : Int) ∧ u.length = k ∧ Lb u ∧ cy < BB ∧ val u + BB ^ k * cy = val ((L.drop o).take k) + t * val (bs.take k) ∧ Row wr rb (L.take o ++ u ++ L.drop (o + k)) ∧ Keep w.heap.size rb w wr
theorem mid_get {L u : List Nat} {o k : Nat} (ho : o + k ≤ L.length) (hu : u.length = k) : (L.take o ++ u ++ L.drop (o + k)).length = L.length ∧ (L.take o ++ u ++ L.drop (o + k)).getD (o + k) 0 = L.getD (o + k) 0 := by
  refine ⟨by simp [hu]; omega, ?_⟩
  rw [List.getD_eq_getElem?_getD, List.getElem?_append_right (by simp [hu]; omega), List.getElem?_drop, List.getD_eq_getElem?_getD]
  congr 2
  simp [hu]; omega
theorem mid_set {L u : List Nat} {o k x : Nat} (ho : o + k < L.length) (hu : u.length = k) : (L.take o ++ u ++ L.drop (o + k)).set (o + k) x = L.take o ++ (u ++ [x]) ++ L.drop (o + (k + 1)) := by
  have hl : (L.take o ++ u).length = o + k := by simp [hu]; omega
  rw [List.set_append_right _ _ (by omega), hl, Nat.sub_self, List.drop_eq_getElem_cons ho]
  simp [List.append_assoc, Nat.add_assoc]

theorem u64w {n : Nat} (h : n < 18446744073709551616) : IntKind.u64.wrap (n : Int) = n := IntWalk.u64_in _ ⟨by omega, by omega⟩
theorem add_word {cy x t y : Nat} (f1 : cy + (x + t * y) < 18446744073709551616) (f3 : t * y < 18446744073709551616) (f4 : x + t * y < 18446744073709551616) (hx : x < BB) (hy : y < BB) :
    IntKind.u64.wrap ((cy : Int) + IntKind.u64.wrap (IntKind.u64.wrap (x : Int) + IntKind.u64.wrap ((t : Int) * IntKind.u64.wrap (y : Int)))) = ((cy + (x + t * y) : Nat) : Int) := by
  unfold BB at hx hy
  rw [u64w (n := x) (by omega), u64w (n := y) (by omega), ← Int.natCast_mul, u64w f3, ← Int.natCast_add, u64w f4, ← Int.natCast_add, u64w f1]

set_option maxHeartbeats 4000000 in
theorem c_addTimes (rb o n c t : Nat) (L bs : List Nat) (hL : Lb L) (hbs : Lb bs) (ht : t < BB) (ho : o + n ≤ L.length) (hn : n ≤ 1000000) (vb : Value) (ok : Nat → Prop) (w : World) (hr : Row w rb L) (hb : NatSl w ok vb bs) (hok : ∀ k, ok k → k < w.heap.size ∧ k ≠ rb) :
    Calls Tryz.prog 106 #[.slice (some ⟨rb, o, none⟩) n c, vb, .int .u32 (t : Int)] w (AddPost rb o n t L bs w) := by
  have HR := Lib.hid hr
  have HB := Lib.hid hb
  have HL := Lib.hid hL
  have HBS := Lib.hid hbs
  have HOK := Lib.hid hok
  have HO := Lib.hid ho
  unfold BB at ht
  obtain ⟨vA, vc, rfl⟩ := hb.shape
  clear hr hb hL hbs hok ho
  go_enter Tryz.func106, Tryz.ntmps106
  go_wp2_with (fail)
  go_loopw [7, 11] (fun c i wr => AddRel rb o n t L bs w c i wr) (fun c i wr => n - (intOf i).toNat)
  case atStart => exact ⟨0, [], 0, Nat.zero_le _, rfl, rfl, rfl, lb_nil, by decide, by simp [val], by simpa using HR.out, Keep.refl _ _ _⟩
  case round =>
    obtain ⟨k, u, cy, hk, rfl, rfl, hu, hlu, hcy, hv, hrow, hkp⟩ := hrel
    by_cases hlt : k < n
    · have hm := mid_get (L := L) (u := u) (o := o) (k := k) (by have := HO.out; omega) hu
      have hcell := hrow.cell (i := o + k) (by have := HO.out; omega)
      rw [hm.2] at hcell
      have hfz := hrow.frozen (o + k)
      have hx := lb_get HL.out (o + k)
      have hy := lb_get HBS.out k
      have hB := HB.out.keep (ok' := ok) hkp (fun j hj => ⟨HOK.out j hj, hj⟩)
      have HLI := Lib.hid (fun m => c_limb bs _ ok (wr.drewN m) hB k (by omega))
      have HROW := Lib.hid hrow
      have HKP := Lib.hid hkp
      have HV := Lib.hid hv
      have HU := Lib.hid hu
      have HLU := Lib.hid hlu
      have HM := Lib.hid hm
      clear hrow hkp hB hv hu hlu hm
      generalize hgx : L.getD (o + k) 0 = x at *
      generalize hgy : bs.getD k 0 = y at *
      have HX := Lib.hid hgx
      have HY := Lib.hid hgy
      have hki : ((k : Nat) : Int).toNat = k := by omega
      have hkn : (k : Int) < (n : Int) := by omega
      have hk0 : (0 : Int) ≤ (k : Int) := by omega
      clear hgx hgy
      go_wp2_with (fail)
      go_quiet ((go_at_call 79; exact calm_once HLI.out))
      go_wp2_with (fail)
      obtain ⟨f1, f2, f3, f4⟩ := add_fits hx ht hy hcy
      rw [add_word f1 f3 f4 hx hy]
      have hd1 : (((cy + (x + t * y) : Nat) : Int) / 4294967296) = (((cy + (x + t * y)) / BB : Nat) : Int) := by simp [BB]
      have hd2 : (((cy + (x + t * y) : Nat) : Int) % 4294967296) = (((cy + (x + t * y)) % BB : Nat) : Int) := by simp [BB]
      rw [hd1, hd2]
      have hrd := add_round (i := k) (r := x) (b := y) HV.out
      refine ⟨⟨k + 1, u ++ [(cy + (x + t * y)) % BB], _, by omega, by go_num, rfl, by simp [HU.out], lb_append.2 ⟨HLU.out, lb_cons.2 ⟨Nat.mod_lt _ (by decide), lb_nil⟩⟩, f2, ?_, ?_, (HKP.out.drewN _).set _ _⟩, by simp [intOf]; omega⟩
      · rw [val_append, HU.out, val_take_succ, val_take_succ, HY.out]
        rw [show ((L.drop o).getD k 0) = x by rw [← HX.out, List.getD_eq_getElem?_getD, List.getElem?_drop, List.getD_eq_getElem?_getD]]
        simp only [val, Nat.mul_zero, Nat.add_zero]
        exact hrd
      · have := (HROW.out.drewN nq).set (o + k) ((cy + (x + t * y)) % BB)
        rwa [mid_set (by have := HO.out; omega) HU.out] at this
    · obtain rfl : k = n := by omega
      unfold BB at hcy
      have hcw : ((cy : Nat) : Int) % 4294967296 = (cy : Int) := by omega
      have HCW := Lib.hid hcw
      have HROW := Lib.hid hrow
      have HKP := Lib.hid hkp
      have HV := Lib.hid hv
      have HU := Lib.hid hu
      have HLU := Lib.hid hlu
      clear hcw hrow hkp hv hu hlu
      go_wp2_with (fail)
      go_ret
      refine ⟨u, cy, ?_, HU.out, HLU.out, by unfold BB; exact hcy, HV.out, HROW.out, HKP.out⟩
      first | rfl | exact ret_nat HCW.out | (refine ret_nat ?_; rw [HCW.out])
end Go.Proofs.YtfdkdloldjfnjaaGreatDoor

/- DERIVED. compare. -/
namespace Go.Proofs.YtfdkdloldjfnjaaGreatDoor
open Go.RowKit
set_option maxRecDepth 100000

theorem cmpI_lt {a b : Nat} (h : a < b) : cmpI a b = -1 := if_pos h
theorem cmpI_gt {a b : Nat} (h : b < a) : cmpI a b = 1 := by unfold cmpI; rw [if_neg (by omega), if_pos h]
theorem cmpI_eq (a : Nat) : cmpI a a = 0 := by unfold cmpI; simp
/-- What compare leaves: the answer, and some draws. -/
def CmpPost (z : Int) (w : World) (e : Ending) (w' : World) : Prop := e = .returned (.int .i64 z) ∧ ∃ n, w' = w.drewN n

set_option maxHeartbeats 4000000 in
theorem c_compare (a b : List Nat) (ha : Can a) (hb : Can b) (va vb : Value) (ok ok' : Nat → Prop) (w : World) (h : NatSl w ok va a) (k : NatSl w ok' vb b) :
    Calls Tryz.prog 78 #[va, vb] w (CmpPost (cmpI (val a) (val b)) w) := by
  obtain ⟨A, c, rfl, h2, h3, h4⟩ := id h
  obtain ⟨B, d, rfl, k2, k3, k4⟩ := id k
  have HA := Lib.hid h
  have HB := Lib.hid k
  have CA := Lib.hid ha
  have CB := Lib.hid hb
  unfold maxLen at h3 k3
  clear h k h4 k4 ha hb
  by_cases hl : a.length = b.length
  · have hne : (((a.length : Nat) : Int) != ((b.length : Nat) : Int)) = false := by rw [bne_eq_false_iff_eq]; omega
    have HL := Lib.hid hl
    clear hl
    go_enter Tryz.func78, Tryz.ntmps78
    go_wp2_with (fail)
    go_loopw [5] (fun i wr => ∃ (k n : Nat), k ≤ a.length ∧ i = .int .i64 ((k : Int) - 1) ∧ Hid (a.drop k = b.drop k) ∧ wr = w.drewN n) (fun i wr => (intOf i + 1).toNat)
    case atStart => exact ⟨a.length, 0, Nat.le_refl _, rfl, Lib.hid (by rw [List.drop_of_length_le (Nat.le_refl _), HL.out, List.drop_of_length_le (Nat.le_refl _)]), rfl⟩
    case round =>
      obtain ⟨k, n, hk, rfl, hd, rfl⟩ := hrel
      by_cases h0 : 0 < k
      · obtain ⟨b1, o1, c1, e1, -, -, -, g1⟩ := HA.out.at_ (i := k - 1) (by omega)
        obtain ⟨b2, o2, c2, e2, -, -, -, g2⟩ := HB.out.at_ (i := k - 1) (by have := HL.out; omega)
        injection e1 with e1 _ e1'
        injection e2 with e2 _ e2'
        subst e1 e1' e2 e2'
        have q1 := g1 (k - 1) (by omega)
        have q2 := g2 (k - 1) (by have := HL.out; omega)
        have hko : ((k : Int) - 1).toNat = k - 1 := by omega
        have hk0 : 0 ≤ (k : Int) - 1 := by omega
        have hk1 : (k : Int) - 1 < (a.length : Nat) := by omega
        have hk2 : (k : Int) - 1 < (b.length : Nat) := by have := HL.out; omega
        clear g1 g2
        generalize hx : a.getD (k - 1) 0 = x at q1
        generalize hy : b.getD (k - 1) 0 = y at q2
        have HX := Lib.hid hx
        have HY := Lib.hid hy
        clear hx hy
        by_cases hxy : x = y
        · have hn1 : ((x : Int) != (y : Int)) = false := by rw [bne_eq_false_iff_eq]; omega
          have HXY := Lib.hid hxy
          clear hxy
          go_wp2_with (fail)
          go_quiet (fail)
          go_wp2_with (fail)
          go_roundw
          case rel => exact ⟨k - 1, n + nq, by omega, by go_num, Lib.hid (by
            rw [List.drop_eq_getElem_cons (show k - 1 < a.length by omega), List.drop_eq_getElem_cons (show k - 1 < b.length by have := HL.out; omega), show k - 1 + 1 = k by omega, hd.out]
            congr 1
            have e1 := HX.out
            have e2 := HY.out
            rw [List.getD_eq_getElem?_getD, List.getElem?_eq_getElem (show k - 1 < a.length by omega)] at e1
            rw [List.getD_eq_getElem?_getD, List.getElem?_eq_getElem (show k - 1 < b.length by have := HL.out; omega)] at e2
            have := HXY.out
            simp at e1 e2; omega), rfl⟩
          case measure => simp [intOf]; omega
        · have hn1 : ((x : Int) != (y : Int)) = true := by rw [bne_iff_ne]; omega
          have hc : (if (x : Int) < (y : Int) then (-1 : Int) else if (y : Int) < (x : Int) then 1 else 0) = cmpI (val a) (val b) := by
            rcases Nat.lt_or_gt_of_ne hxy with hlt | hlt
            · rw [if_pos (by omega), cmpI_lt]
              exact cmp_lt CA.out.1 HL.out (i := k - 1) (by omega) (by rw [show k - 1 + 1 = k by omega]; exact hd.out) (by rw [HX.out, HY.out]; exact hlt)
            · rw [if_neg (by omega), if_pos (by omega), cmpI_gt]
              exact cmp_lt CB.out.1 HL.out.symm (i := k - 1) (by have := HL.out; omega) (by rw [show k - 1 + 1 = k by omega]; exact hd.out.symm) (by rw [HX.out, HY.out]; exact hlt)
          have HC := Lib.hid hc
          clear hc
          go_wp2_with (fail)
          go_quiet (fail)
          go_wp2_with (fail)
          go_quiet ((go_at_call 111; exact calm_more (fun W => c_cmpU _ _ _ W HC.out)))
          go_wp2_with (fail)
          go_ret
          exact ⟨rfl, _, (by rw [World.drewN_drewN, World.drewN_drewN])⟩
      · obtain rfl : k = 0 := by omega
        have hz : val a = val b := by have := hd.out; simp only [List.drop_zero] at this; rw [this]
        have hc : cmpI (val a) (val b) = 0 := by rw [hz, cmpI_eq]
        have HC := Lib.hid hc
        clear hc hz
        go_wp2_with (fail)
        go_ret
        exact ⟨ret_nat HC.out.symm, n, rfl⟩
  · have hne : (((a.length : Nat) : Int) != ((b.length : Nat) : Int)) = true := by rw [bne_iff_ne]; omega
    have hc : (if ((a.length : Nat) : Int) < ((b.length : Nat) : Int) then (-1 : Int) else if ((b.length : Nat) : Int) < ((a.length : Nat) : Int) then 1 else 0) = cmpI (val a) (val b) := by
      rcases Nat.lt_or_gt_of_ne hl with hlt | hlt
      · rw [if_pos (by omega), cmpI_lt (len_lt CA.out.1 CB.out hlt)]
      · rw [if_neg (by omega), if_pos (by omega), cmpI_gt (len_lt CB.out.1 CA.out hlt)]
    have HC := Lib.hid hc
    clear hc hl
    go_enter Tryz.func78, Tryz.ntmps78
    go_wp2_with (go_at_call 110; refine (c_cmpI _ _ _ _ HC.out).mono ?_; rintro e w' ⟨rfl, rfl⟩)
    go_ret
    exact ⟨rfl, 0, rfl⟩
end Go.Proofs.YtfdkdloldjfnjaaGreatDoor
