/-
  DERIVED. slices.Grow and slices.Concat, of loads and of states. (Written by gen/genCH.py.)
-/
import Derived.Test.YtomfaknemjbjcaaCC
import Derived.Test.YtomfaknemjbjcaaBQ
import Derived.Lib.AppendZerosOnto
import Derived.Lib.Walk
import Derived.Laws.AppendOwnNone
namespace Go.Proofs
open Go.Shelf Go.RowKit Go.Lib
set_option maxRecDepth 100000
namespace Ytomfaknemjbjcaa

theorem wpList_append_any {P : Program} (w : World) {ops : Array Oper} {rest : List Oper} {o : Oper} {a : Act} {Q : Exit → Act → World → Prop} (hgd : o.guard = none) (s x : Operand) (t : TypeId)
    (ho : o.op = .call { callee := .builtin .append, args := #[s, x], argTypes := #[t, t] })
    (base : Nat) (e : TypeId) (i : TypeInfo) (z : Value) (size bytes : Nat) (ht : P.underlying t = some (.slice e)) (hi : P.info? e = some i) (hz : i.zero = some z)
    (hsize : i.size = size) (hby : i.bytes = bytes) (hzs : z.cells.size = size) (hsz : 0 < size)
    (v : Value) (n : Nat) (xs : List Value) (hs : a.eval s = v) (hown : w.ownsRow base e size v n xs)
    (A : Option Addr) (m c : Nat) (news : List Value) (hx : a.eval x = .slice A m c) (hA : A = none → m = 0 ∧ c = 0) (hl : news.length = m * size) (hnews : ∀ ad, A = some ad → ∀ j u, news[j]? = some u → w.cell? (ad.add j) = some u) (h1 : ∀ u ∈ news, u.oneCell' = true)
    (h63 : n + m ≤ maxLen) (hbytes : (n + m) * bytes ≤ 140737488355328) (hbase : base ≤ w.heap.size)
    (h : ∀ v' w', w'.ownsRow base e size v' (n + m) (xs ++ news) → w.grownBy w' v.ownBlock → wpList P ops Q rest (a.put o.dst v') w') : wpList P ops Q (o :: rest) a w := by
  cases A with
  | some ad => exact wpList_append_own w hgd s x t ho base e i z size bytes ht hi hz hsize hby hzs hsz v n xs hs hown ad m c news hx hl (hnews ad rfl) h1 h63 hbytes hbase fun v' w' h2 h3 _ => h v' w' h2 h3
  | none =>
    obtain ⟨rfl, rfl⟩ := hA rfl
    have hn : news = [] := List.eq_nil_of_length_eq_zero (by simpa using hl)
    subst hn
    exact wpList_append_own_none hgd s x t ho base e i size ht hi v n xs hs hown hx (h v w (by simpa using hown) ⟨rfl, rfl, rfl, Nat.le_refl _, fun _ _ _ => rfl⟩)
theorem one_ints (l : List Int) : ∀ u ∈ ints l, u.oneCell' = true := by
  intro u hu
  obtain ⟨x, -, rfl⟩ := List.mem_map.1 hu
  rfl
theorem one_cellsS (l : List (Int × Bool)) : ∀ u ∈ cellsS l, u.oneCell' = true := by
  intro u hu
  obtain ⟨x, -, hx⟩ := List.mem_flatMap.1 hu
  simp at hx
  rcases hx with rfl | rfl <;> rfl
theorem ints_len (l : List Int) : (ints l).length = l.length * 1 := by simp [ints]
theorem cellsS_len (l : List (Int × Bool)) : (cellsS l).length = l.length * 2 := by
  induction l with
  | nil => rfl
  | cons x l ih => rw [show cellsS (x :: l) = .int .i64 x.1 :: .bool x.2 :: cellsS l from rfl, List.length_cons, List.length_cons, ih, List.length_cons]; omega
theorem ints_nil : ints [] = [] := rfl
theorem cellsS_nil : cellsS [] = [] := rfl
theorem ints_append (l m : List Int) : ints (l ++ m) = ints l ++ ints m := by simp [ints]
theorem cellsS_append (l m : List (Int × Bool)) : cellsS (l ++ m) = cellsS l ++ cellsS m := by simp [cellsS]
theorem add_eq (b o j : Nat) : (⟨b, o, none⟩ : Addr).add j = ⟨b, o + j, none⟩ := by unfold Addr.add; split <;> simp_all
theorem IntSl.all {w : World} {A : Option Addr} {n c : Nat} {l : List Int} (h : IntSl w (.slice A n c) l) : n = l.length ∧ l.length ≤ c ∧ c ≤ maxLen ∧ (A = none → n = 0 ∧ c = 0) ∧ ∀ ad, A = some ad → ∀ j u, (ints l)[j]? = some u → w.cell? (ad.add j) = some u := by
  obtain ⟨A', c', e, h2, h3, h5, h4⟩ := h
  injection e with e1 e2 e3
  subst e1 e2 e3
  refine ⟨rfl, h2, h3, fun hA => ⟨by have := h5 hA; omega, h5 hA⟩, fun ad hA j u hj => ?_⟩
  unfold ints at hj
  rw [List.getElem?_map] at hj
  obtain ⟨x, hx, rfl⟩ := Option.map_eq_some_iff.1 hj
  obtain ⟨b, o, e, -, hc⟩ := h4 (by have := (List.getElem?_eq_some_iff.1 hx).1; omega)
  rw [e] at hA
  injection hA with hA
  subst hA
  rw [add_eq]
  exact hc j x hx
theorem StSl.all {w : World} {A : Option Addr} {n c : Nat} {l : List (Int × Bool)} (h : StSl w (.slice A n c) l) : n = l.length ∧ l.length ≤ c ∧ c ≤ maxLen ∧ (A = none → n = 0 ∧ c = 0) ∧ ∀ ad, A = some ad → ∀ j u, (cellsS l)[j]? = some u → w.cell? (ad.add j) = some u := by
  obtain ⟨A', c', e, h2, h3, h5, h4⟩ := h
  injection e with e1 e2 e3
  subst e1 e2 e3
  refine ⟨rfl, h2, h3, fun hA => ⟨by have := h5 hA; omega, h5 hA⟩, fun ad hA j u hj => ?_⟩
  have hjl := (List.getElem?_eq_some_iff.1 hj).1
  rw [cellsS_len] at hjl
  obtain ⟨x, hx⟩ : ∃ x, l[j / 2]? = some x := ⟨_, List.getElem?_eq_getElem (by omega)⟩
  obtain ⟨b, o, e, -, hc⟩ := h4 (by omega)
  rw [e] at hA
  injection hA with hA
  subst hA
  rw [add_eq]
  obtain ⟨c1, c2⟩ := hc _ x hx
  obtain ⟨d1, d2⟩ := cellsS_get l _ x hx
  rcases Nat.mod_two_eq_zero_or_one j with g | g
  · have ej : j / 2 * 2 = j := by omega
    rw [ej] at c1 d1
    rw [hj] at d1
    injection d1 with d1
    rw [d1]; exact c1
  · have ej : j / 2 * 2 + 1 = j := by omega
    rw [ej] at d2
    rw [show o + j / 2 * 2 + 1 = o + j by omega] at c2
    rw [hj] at d2
    injection d2 with d2
    rw [d2]; exact c2
set_option maxHeartbeats 4000000 in
theorem c_growInts (n : Nat) (hn : n ≤ 100000) (w : World) : Calls Try.prog 51 #[.slice none 0 0, .int .i64 (n : Int)] w fun e w' => ∃ v', e = .returned v' ∧ w'.ownsRow w.heap.size 3 1 v' 0 [] ∧ Below w.heap.size w w' := by
  rcases Nat.eq_zero_or_pos n with h0 | h0
  · subst h0
    go_enter Try.func51, Try.ntmps51
    go_wp2
    go_ret
    exact ⟨_, rfl, World.ownsRow_nil _ _ _ _, Below.refl _ _⟩
  · obtain ⟨i0, hi0, hz0, hz1, hz2⟩ := info_parts int_info
    have hrz : ∀ ty, (Builtin.append_ #[26, 3] ty #[.slice none 0 0, .int .i64 (n : Int)]).run Try.prog w =
        .ok (.slice (some ⟨w.heap.size, 0, none⟩) n (grownCap w n 0 3)) (w.drew.alloc (.cells ((#[] : Array Value) ++ Builtin.zeroCells ((.int .i64 0) : Value).cells n ++ Builtin.zeroCells ((.int .i64 0) : Value).cells (grownCap w n 0 3 - n)) 3)) := fun ty => by
      have h := Lib.run_append_grow_zeros w 26 3 ty 3 i0 (.int .i64 0) .i64 .i64 Try.underlying26 Try.underlying3 hi0 hz0 none 0 0 [] (run_firstCells_none w.drew i0.size 0 0 0) n h0 (by rw [hz1]; decide) (by omega) (by omega) (by rw [hz2]; omega) (by rw [hz2]; exact growslice_fits (by omega) (by omega))
      simpa only [Nat.zero_add] using h
    have hge := grownCap_ge w n 0 3
    have hle := grownCap_le_maxLen w n 0 3 (by unfold maxLen; omega)
    have HSZ := Lib.hid (show ((#[] : Array Value) ++ Builtin.zeroCells ((.int .i64 0) : Value).cells n ++ Builtin.zeroCells ((.int .i64 0) : Value).cells (grownCap w n 0 3 - n)).size = grownCap w n 0 3 * 1 by
      simp only [Array.size_append, size_zeroCells, List.size_toArray, List.length_nil, Nat.zero_add]
      show n * 1 + (grownCap w n 0 3 - n) * 1 = grownCap w n 0 3 * 1
      omega)
    generalize ((#[] : Array Value) ++ Builtin.zeroCells ((.int .i64 0) : Value).cells n ++ Builtin.zeroCells ((.int .i64 0) : Value).cells (grownCap w n 0 3 - n)) = cur at *
    generalize grownCap w n 0 3 = G at *
    unfold maxLen at hle
    have h1 : (0 : Int) < (n : Int) := by omega
    go_enter Try.func51, Try.ntmps51
    go_wp2_with (at_builtin; refine Lib.wpList_append_run _ rfl _ _ _ _ rfl _ _ rfl rfl _ _ (hrz _) ?_)
    all_goals go_ret
    all_goals exact ⟨_, rfl, ⟨rfl, .inr ⟨w.heap.size, G, cur, rfl, Nat.le_refl _, heap_alloc_new w.drew _, Nat.zero_le _, by unfold maxLen; omega, HSZ.out, by simp⟩⟩, (Below.refl _ _).drew.alloc (Nat.le_refl _) _⟩
/-- Between two rounds of the second loop. -/
def CatInts (w : World) (l1 l2 : List Int) (v i : Value) (wr : World) : Prop :=
  ∃ k : Nat, i = .int .i64 (k : Int) ∧ k ≤ 2 ∧ wr.ownsRow w.heap.size 3 1 v (([l1, l2].take k).flatten).length (ints (([l1, l2].take k).flatten)) ∧ Hid (Below w.heap.size w wr)
set_option maxHeartbeats 8000000 in
theorem c_catInts (l1 l2 : List Int) (h1 : l1.length ≤ 1000) (h2 : l2.length ≤ 1000) (A1 A2 : Option Addr) (n1 n2 c1 c2 : Nat) (b : Nat) (w : World) (hv1 : IntSl w (.slice A1 n1 c1) l1) (hv2 : IntSl w (.slice A2 n2 c2) l2) (hb : w.heap[b]? = some (.cells #[.slice A1 n1 c1, .slice A2 n2 c2] 26 (0, 0))) :
    Calls Try.prog 35 #[.slice (some ⟨b, 0, none⟩) 2 2] w fun e w' => ∃ v', e = .returned v' ∧ w'.ownsRow w.heap.size 3 1 v' (l1 ++ l2).length (ints (l1 ++ l2)) ∧ Below w.heap.size w w' := by
  obtain ⟨rfl, -, -, p1, q1⟩ := hv1.all
  obtain ⟨rfl, -, -, p2, q2⟩ := hv2.all
  have HV1 := Lib.hid hv1
  have HV2 := Lib.hid hv2
  have HBB := Lib.hid hb
  have hbl := block_lt hb
  obtain ⟨x0, x1⟩ := two_cells hb
  obtain ⟨i0, hi0, hz0, hz1, hz2⟩ := info_parts int_info
  have hs12 : l1.length + l2.length ≤ 100000 := by omega
  clear hv1 hv2 hb q1 q2
  go_enter Try.func35, Try.ntmps35
  go_wp2_with (fail)
  go_loop [3, 11] (fun s i => ∃ k : Nat, i = .int .i64 (k : Int) ∧ k ≤ 2 ∧ s = .int .i64 (((([l1.length, l2.length].take k).sum) : Nat) : Int)) (fun _ i => 2 - (intOf i).toNat)
  case atStart => exact ⟨0, rfl, by omega, rfl⟩
  case round =>
    obtain ⟨k, rfl, hk, rfl⟩ := hrel
    match k, hk with
    | 0, _ =>
      have hnn : ¬ (((l1.length : Nat) : Int) < 0) := by omega
      simp only [List.take_zero, List.sum_nil]
      go_wp2_with (fail)
      go_round
      case rel => exact ⟨1, rfl, by omega, by simp⟩
      case measure => simp [intOf]
    | 1, _ =>
      have hs : [l1.length, l2.length].take 1 = [l1.length] := rfl
      have hnn : ¬ (((l1.length : Nat) : Int) + ((l2.length : Nat) : Int) < 0) := by omega
      rw [hs]
      simp only [List.sum_cons, List.sum_nil, Nat.add_zero]
      go_wp2_with (fail)
      go_round
      case rel => exact ⟨2, rfl, by omega, by simp⟩
      case measure => simp [intOf]
    | 2, _ =>
      have hs : [l1.length, l2.length].take 2 = [l1.length, l2.length] := rfl
      rw [hs]
      simp only [List.sum_cons, List.sum_nil, Nat.add_zero]
      have HG := Lib.hid (c_growInts (l1.length + l2.length) (by omega) w)
      push_cast at HG
      go_wp2_with (fail)
      go_at_call 51
      refine HG.out.mono ?_
      rintro e w3 ⟨v3, rfl, ho3, b3⟩
      have HO3 := Lib.hid ho3
      have HB3 := Lib.hid b3
      have hg3 : ∃ A n c, v3 = .slice A n c := by
        rcases ho3.2 with ⟨rfl, -⟩ | ⟨g, cap, cur, rfl, -⟩
        · exact ⟨_, _, _, rfl⟩
        · exact ⟨_, _, _, rfl⟩
      obtain ⟨A3, n3, c3, rfl⟩ := hg3
      clear ho3 b3
      go_wp2_with (fail)
      go_loopw [6, 27] (fun v i wr => CatInts w l1 l2 v i wr) (fun _ i _ => 2 - (intOf i).toNat)
      case atStart => exact ⟨0, rfl, by omega, HO3.out, Lib.hid HB3.out⟩
      case round =>
       obtain ⟨k, rfl, hk, hown, hB⟩ := hrel
       match k, hk with
       | 0, _ =>
         have hs : ([l1, l2].take 0).flatten = [] := by simp
         rw [hs] at hown
         have hcell := (hB.out.cell (p := ⟨b, 0, none⟩) hbl).trans x0
         have hcs := (HV1.out.on hB.out (Nat.le_refl _)).all.2.2.2.2
         have hbs := hB.out.size
         go_wp2_with (at_builtin; refine wpList_append_any _ rfl _ _ 26 rfl w.heap.size 3 i0 (.int .i64 0) 1 8 Try.underlying26 hi0 hz0 hz1 hz2 rfl (by omega) _ _ _ rfl hown A1 l1.length c1 (ints l1) rfl p1 (ints_len l1) hcs (one_ints l1) (by unfold maxLen; (try simp only [List.length_nil]); omega) (by (try simp only [List.length_nil]); omega) hbs ?_)
         intro v2 w2 hown2 hgrow
         have R := Lib.hid (show CatInts w l1 l2 v2 (.int .i64 1) w2 from ⟨1, rfl, by omega, by
           have e : ([l1, l2].take 1).flatten = l1 := by simp
           rw [e]
           simpa [ints_append, ints_nil] using hown2, Lib.hid (hB.out.grown hgrow hbs (fun g hg => (hown.lt g hg).1))⟩)
         clear hown hown2 hgrow hcs
         go_wp2
         go_roundw
         case rel => exact R.out
         case measure => simp [intOf]
       | 1, _ =>
         have hs : ([l1, l2].take 1).flatten = l1 := by simp
         rw [hs] at hown
         have hcell := (hB.out.cell (p := ⟨b, 1, none⟩) hbl).trans x1
         have hcs := (HV2.out.on hB.out (Nat.le_refl _)).all.2.2.2.2
         have hbs := hB.out.size
         go_wp2_with (at_builtin; refine wpList_append_any _ rfl _ _ 26 rfl w.heap.size 3 i0 (.int .i64 0) 1 8 Try.underlying26 hi0 hz0 hz1 hz2 rfl (by omega) _ _ _ rfl hown A2 l2.length c2 (ints l2) rfl p2 (ints_len l2) hcs (one_ints l2) (by unfold maxLen; (try simp only [List.length_nil]); omega) (by (try simp only [List.length_nil]); omega) hbs ?_)
         intro v2 w2 hown2 hgrow
         have R := Lib.hid (show CatInts w l1 l2 v2 (.int .i64 2) w2 from ⟨2, rfl, by omega, by
           have e : ([l1, l2].take 2).flatten = l1 ++ l2 := by simp
           rw [e]
           simpa [ints_append, ints_nil] using hown2, Lib.hid (hB.out.grown hgrow hbs (fun g hg => (hown.lt g hg).1))⟩)
         clear hown hown2 hgrow hcs
         go_wp2
         go_roundw
         case rel => exact R.out
         case measure => simp [intOf]
       | 2, _ =>
         have hs : ([l1, l2].take 2).flatten = l1 ++ l2 := by simp
         rw [hs] at hown
         have HO := Lib.hid hown
         clear hown
         go_wp2_with (fail)
         go_ret
         exact ⟨_, rfl, HO.out, hB.out⟩
set_option maxHeartbeats 4000000 in
theorem c_growStates (n : Nat) (hn : n ≤ 100000) (w : World) : Calls Try.prog 52 #[.slice none 0 0, .int .i64 (n : Int)] w fun e w' => ∃ v', e = .returned v' ∧ w'.ownsRow w.heap.size 25 2 v' 0 [] ∧ Below w.heap.size w w' := by
  rcases Nat.eq_zero_or_pos n with h0 | h0
  · subst h0
    go_enter Try.func52, Try.ntmps52
    go_wp2
    go_ret
    exact ⟨_, rfl, World.ownsRow_nil _ _ _ _, Below.refl _ _⟩
  · obtain ⟨i0, hi0, hz0, hz1, hz2⟩ := info_parts st_info
    have hrz : ∀ ty, (Builtin.append_ #[31, 3] ty #[.slice none 0 0, .int .i64 (n : Int)]).run Try.prog w =
        .ok (.slice (some ⟨w.heap.size, 0, none⟩) n (grownCap w n 0 25)) (w.drew.alloc (.cells ((#[] : Array Value) ++ Builtin.zeroCells ((.agg #[.int .i64 0, .bool false]) : Value).cells n ++ Builtin.zeroCells ((.agg #[.int .i64 0, .bool false]) : Value).cells (grownCap w n 0 25 - n)) 25)) := fun ty => by
      have h := Lib.run_append_grow_zeros w 31 3 ty 25 i0 (.agg #[.int .i64 0, .bool false]) .i64 .i64 Try.underlying31 Try.underlying3 hi0 hz0 none 0 0 [] (run_firstCells_none w.drew i0.size 0 0 0) n h0 (by rw [hz1]; decide) (by omega) (by omega) (by rw [hz2]; omega) (by rw [hz2]; exact growslice_fits (by omega) (by omega))
      simpa only [Nat.zero_add] using h
    have hge := grownCap_ge w n 0 25
    have hle := grownCap_le_maxLen w n 0 25 (by unfold maxLen; omega)
    have HSZ := Lib.hid (show ((#[] : Array Value) ++ Builtin.zeroCells ((.agg #[.int .i64 0, .bool false]) : Value).cells n ++ Builtin.zeroCells ((.agg #[.int .i64 0, .bool false]) : Value).cells (grownCap w n 0 25 - n)).size = grownCap w n 0 25 * 2 by
      simp only [Array.size_append, size_zeroCells, List.size_toArray, List.length_nil, Nat.zero_add]
      show n * 2 + (grownCap w n 0 25 - n) * 2 = grownCap w n 0 25 * 2
      omega)
    generalize ((#[] : Array Value) ++ Builtin.zeroCells ((.agg #[.int .i64 0, .bool false]) : Value).cells n ++ Builtin.zeroCells ((.agg #[.int .i64 0, .bool false]) : Value).cells (grownCap w n 0 25 - n)) = cur at *
    generalize grownCap w n 0 25 = G at *
    unfold maxLen at hle
    have h1 : (0 : Int) < (n : Int) := by omega
    go_enter Try.func52, Try.ntmps52
    go_wp2_with (at_builtin; refine Lib.wpList_append_run _ rfl _ _ _ _ rfl _ _ rfl rfl _ _ (hrz _) ?_)
    all_goals go_ret
    all_goals exact ⟨_, rfl, ⟨rfl, .inr ⟨w.heap.size, G, cur, rfl, Nat.le_refl _, heap_alloc_new w.drew _, Nat.zero_le _, by unfold maxLen; omega, HSZ.out, by simp⟩⟩, (Below.refl _ _).drew.alloc (Nat.le_refl _) _⟩
/-- Between two rounds of the second loop. -/
def CatStates (w : World) (l1 l2 : List (Int × Bool)) (v i : Value) (wr : World) : Prop :=
  ∃ k : Nat, i = .int .i64 (k : Int) ∧ k ≤ 2 ∧ wr.ownsRow w.heap.size 25 2 v (([l1, l2].take k).flatten).length (cellsS (([l1, l2].take k).flatten)) ∧ Hid (Below w.heap.size w wr)
set_option maxHeartbeats 8000000 in
theorem c_catStates (l1 l2 : List (Int × Bool)) (h1 : l1.length ≤ 1000) (h2 : l2.length ≤ 1000) (A1 A2 : Option Addr) (n1 n2 c1 c2 : Nat) (b : Nat) (w : World) (hv1 : StSl w (.slice A1 n1 c1) l1) (hv2 : StSl w (.slice A2 n2 c2) l2) (hb : w.heap[b]? = some (.cells #[.slice A1 n1 c1, .slice A2 n2 c2] 31 (0, 0))) :
    Calls Try.prog 36 #[.slice (some ⟨b, 0, none⟩) 2 2] w fun e w' => ∃ v', e = .returned v' ∧ w'.ownsRow w.heap.size 25 2 v' (l1 ++ l2).length (cellsS (l1 ++ l2)) ∧ Below w.heap.size w w' := by
  obtain ⟨rfl, -, -, p1, q1⟩ := hv1.all
  obtain ⟨rfl, -, -, p2, q2⟩ := hv2.all
  have HV1 := Lib.hid hv1
  have HV2 := Lib.hid hv2
  have HBB := Lib.hid hb
  have hbl := block_lt hb
  obtain ⟨x0, x1⟩ := two_cells hb
  obtain ⟨i0, hi0, hz0, hz1, hz2⟩ := info_parts st_info
  have hs12 : l1.length + l2.length ≤ 100000 := by omega
  clear hv1 hv2 hb q1 q2
  go_enter Try.func36, Try.ntmps36
  go_wp2_with (fail)
  go_loop [3, 11] (fun s i => ∃ k : Nat, i = .int .i64 (k : Int) ∧ k ≤ 2 ∧ s = .int .i64 (((([l1.length, l2.length].take k).sum) : Nat) : Int)) (fun _ i => 2 - (intOf i).toNat)
  case atStart => exact ⟨0, rfl, by omega, rfl⟩
  case round =>
    obtain ⟨k, rfl, hk, rfl⟩ := hrel
    match k, hk with
    | 0, _ =>
      have hnn : ¬ (((l1.length : Nat) : Int) < 0) := by omega
      simp only [List.take_zero, List.sum_nil]
      go_wp2_with (fail)
      go_round
      case rel => exact ⟨1, rfl, by omega, by simp⟩
      case measure => simp [intOf]
    | 1, _ =>
      have hs : [l1.length, l2.length].take 1 = [l1.length] := rfl
      have hnn : ¬ (((l1.length : Nat) : Int) + ((l2.length : Nat) : Int) < 0) := by omega
      rw [hs]
      simp only [List.sum_cons, List.sum_nil, Nat.add_zero]
      go_wp2_with (fail)
      go_round
      case rel => exact ⟨2, rfl, by omega, by simp⟩
      case measure => simp [intOf]
    | 2, _ =>
      have hs : [l1.length, l2.length].take 2 = [l1.length, l2.length] := rfl
      rw [hs]
      simp only [List.sum_cons, List.sum_nil, Nat.add_zero]
      have HG := Lib.hid (c_growStates (l1.length + l2.length) (by omega) w)
      push_cast at HG
      go_wp2_with (fail)
      go_at_call 52
      refine HG.out.mono ?_
      rintro e w3 ⟨v3, rfl, ho3, b3⟩
      have HO3 := Lib.hid ho3
      have HB3 := Lib.hid b3
      have hg3 : ∃ A n c, v3 = .slice A n c := by
        rcases ho3.2 with ⟨rfl, -⟩ | ⟨g, cap, cur, rfl, -⟩
        · exact ⟨_, _, _, rfl⟩
        · exact ⟨_, _, _, rfl⟩
      obtain ⟨A3, n3, c3, rfl⟩ := hg3
      clear ho3 b3
      go_wp2_with (fail)
      go_loopw [6, 27] (fun v i wr => CatStates w l1 l2 v i wr) (fun _ i _ => 2 - (intOf i).toNat)
      case atStart => exact ⟨0, rfl, by omega, HO3.out, Lib.hid HB3.out⟩
      case round =>
       obtain ⟨k, rfl, hk, hown, hB⟩ := hrel
       match k, hk with
       | 0, _ =>
         have hs : ([l1, l2].take 0).flatten = [] := by simp
         rw [hs] at hown
         have hcell := (hB.out.cell (p := ⟨b, 0, none⟩) hbl).trans x0
         have hcs := (HV1.out.on hB.out (Nat.le_refl _)).all.2.2.2.2
         have hbs := hB.out.size
         go_wp2_with (at_builtin; refine wpList_append_any _ rfl _ _ 31 rfl w.heap.size 25 i0 (.agg #[.int .i64 0, .bool false]) 2 16 Try.underlying31 hi0 hz0 hz1 hz2 rfl (by omega) _ _ _ rfl hown A1 l1.length c1 (cellsS l1) rfl p1 (cellsS_len l1) hcs (one_cellsS l1) (by unfold maxLen; (try simp only [List.length_nil]); omega) (by (try simp only [List.length_nil]); omega) hbs ?_)
         intro v2 w2 hown2 hgrow
         have R := Lib.hid (show CatStates w l1 l2 v2 (.int .i64 1) w2 from ⟨1, rfl, by omega, by
           have e : ([l1, l2].take 1).flatten = l1 := by simp
           rw [e]
           simpa [cellsS_append, cellsS_nil] using hown2, Lib.hid (hB.out.grown hgrow hbs (fun g hg => (hown.lt g hg).1))⟩)
         clear hown hown2 hgrow hcs
         go_wp2
         go_roundw
         case rel => exact R.out
         case measure => simp [intOf]
       | 1, _ =>
         have hs : ([l1, l2].take 1).flatten = l1 := by simp
         rw [hs] at hown
         have hcell := (hB.out.cell (p := ⟨b, 1, none⟩) hbl).trans x1
         have hcs := (HV2.out.on hB.out (Nat.le_refl _)).all.2.2.2.2
         have hbs := hB.out.size
         go_wp2_with (at_builtin; refine wpList_append_any _ rfl _ _ 31 rfl w.heap.size 25 i0 (.agg #[.int .i64 0, .bool false]) 2 16 Try.underlying31 hi0 hz0 hz1 hz2 rfl (by omega) _ _ _ rfl hown A2 l2.length c2 (cellsS l2) rfl p2 (cellsS_len l2) hcs (one_cellsS l2) (by unfold maxLen; (try simp only [List.length_nil]); omega) (by (try simp only [List.length_nil]); omega) hbs ?_)
         intro v2 w2 hown2 hgrow
         have R := Lib.hid (show CatStates w l1 l2 v2 (.int .i64 2) w2 from ⟨2, rfl, by omega, by
           have e : ([l1, l2].take 2).flatten = l1 ++ l2 := by simp
           rw [e]
           simpa [cellsS_append, cellsS_nil] using hown2, Lib.hid (hB.out.grown hgrow hbs (fun g hg => (hown.lt g hg).1))⟩)
         clear hown hown2 hgrow hcs
         go_wp2
         go_roundw
         case rel => exact R.out
         case measure => simp [intOf]
       | 2, _ =>
         have hs : ([l1, l2].take 2).flatten = l1 ++ l2 := by simp
         rw [hs] at hown
         have HO := Lib.hid hown
         clear hown
         go_wp2_with (fail)
         go_ret
         exact ⟨_, rfl, HO.out, hB.out⟩
end Ytomfaknemjbjcaa
end Go.Proofs
