/-
  DERIVED. slices.Grow, slices.Concat and slices.Clone of replicas; copied (stage 13).
-/
import Derived.Test.YtplncglgolhfaaaEH
import Derived.Lib.AppendZerosOnto
import Derived.Lib.Walk
import Derived.Laws.AppendOwnNone
import Derived.Laws.CopyOwn
import Derived.Lib.SliceRun
namespace Go.Proofs
open Go.RowKit
set_option maxRecDepth 100000
set_option linter.unusedVariables false
set_option linter.unusedSimpArgs false
namespace Ytplncglgolhfaaa

theorem wpList_append_any {P : Program} (w : World) {ops : Array Oper} {rest : List Oper} {o : Oper} {a : Act} {Q : Exit → Act → World → Prop} (hgd : o.guard = none) (s x : Operand) (t : TypeId)
    (ho : o.op = .call { callee := .builtin .append, args := #[s, x], argTypes := #[t, t] })
    (base : Nat) (e : TypeId) (i : TypeInfo) (z : Value) (size bytes : Nat) (ht : P.underlying t = some (.slice e)) (hi : P.info? e = some i) (hz : i.zero = some z)
    (hsize : i.size = size) (hby : i.bytes = bytes) (hzs : z.cells.size = size) (hsz : 0 < size)
    (v : Value) (n : Nat) (xs : List Value) (hs : a.eval s = v) (hown : w.ownsRow base e size v n xs)
    (A : Option Addr) (m c : Nat) (news : List Value) (hx : a.eval x = .slice A m c) (hA : A = none → m = 0 ∧ c = 0) (hl : news.length = m * size) (hnews : ∀ ad, A = some ad → ∀ j u, news[j]? = some u → w.cell? (ad.add j) = some u) (h1 : ∀ u ∈ news, u.oneCell' = true)
    (h63 : n + m ≤ maxLen) (hbytes : (n + m) * bytes ≤ 140737488355328) (hbase : base ≤ w.heap.size)
    (h : ∀ v' w', w'.ownsRow base e size v' (n + m) (xs ++ news) → w.grownBy w' v.ownBlock → wpList P ops Q rest (a.put o.dst v') w') : wpList P ops Q (o :: rest) a w := by
  cases A with
  | some ad => exact wpList_append_own w hgd s x t ho base e i z size bytes ht hi hz hsize hby hzs hsz v n xs hs hown ad m c news hx hl (hnews ad rfl) h1 h63 hbytes hbase fun v' w' h2 h3 _ => h v' w' h2 h3
  | none =>
    obtain ⟨rfl, rfl⟩ := hA rfl
    have hn : news = [] := List.eq_nil_of_length_eq_zero (by simpa using hl)
    subst hn
    exact wpList_append_own_none hgd s x t ho base e i size ht hi v n xs hs hown hx (h v w (by simpa using hown) ⟨rfl, rfl, rfl, Nat.le_refl _, fun _ _ _ => rfl⟩)
theorem rep_one : ∀ (x : Rep) (i : Nat), (repV x i).oneCell' = true := fun x i => by cases i <;> rfl
theorem hst_one : ∀ (x : Hst) (i : Nat), (hstV x i).oneCell' = true := fun x i => by cases i <;> rfl
theorem rep_info : (Try.prog.info? 41).map (fun i => (i.zero, i.size, i.bytes)) = some (some (.agg #[.int .i64 0, .int .i64 0]), 2, 16) := by kernel_rfl
theorem hst_info : (Try.prog.info? 51).map (fun i => (i.zero, i.size, i.bytes)) = some (some (.agg #[.int .u8 0, .int .i64 0]), 2, 16) := by kernel_rfl
set_option maxHeartbeats 4000000 in
theorem c_growReps (n : Nat) (hn : n ≤ 100000) (w : World) : Calls Try.prog 88 #[.slice none 0 0, .int .i64 (n : Int)] w fun e w' => ∃ v', e = .returned v' ∧ w'.ownsRow w.heap.size 41 2 v' 0 [] ∧ Below w.heap.size w w' := by
  rcases Nat.eq_zero_or_pos n with h0 | h0
  · subst h0
    go_enter Try.func88, Try.ntmps88
    go_wp2
    go_ret
    exact ⟨_, rfl, World.ownsRow_nil _ _ _ _, Below.refl _ _⟩
  · obtain ⟨i0, hi0, hz0, hz1, hz2⟩ := info_parts rep_info
    have hrz : ∀ ty, (Builtin.append_ #[34, 3] ty #[.slice none 0 0, .int .i64 (n : Int)]).run Try.prog w =
        .ok (.slice (some ⟨w.heap.size, 0, none⟩) n (grownCap w n 0 41)) (w.drew.alloc (.cells ((#[] : Array Value) ++ Builtin.zeroCells ((.agg #[.int .i64 0, .int .i64 0]) : Value).cells n ++ Builtin.zeroCells ((.agg #[.int .i64 0, .int .i64 0]) : Value).cells (grownCap w n 0 41 - n)) 41)) := fun ty => by
      have h := Lib.run_append_grow_zeros w 34 3 ty 41 i0 (.agg #[.int .i64 0, .int .i64 0]) .i64 .i64 Try.underlying34 Try.underlying3 hi0 hz0 none 0 0 [] (run_firstCells_none w.drew i0.size 0 0 0) n h0 (by rw [hz1]; decide) (by omega) (by omega) (by rw [hz2]; omega) (by rw [hz2]; exact growslice_fits (by omega) (by omega))
      simpa only [Nat.zero_add] using h
    have hge := grownCap_ge w n 0 41
    have hle := grownCap_le_maxLen w n 0 41 (by unfold maxLen; omega)
    have HSZ := Lib.hid (show ((#[] : Array Value) ++ Builtin.zeroCells ((.agg #[.int .i64 0, .int .i64 0]) : Value).cells n ++ Builtin.zeroCells ((.agg #[.int .i64 0, .int .i64 0]) : Value).cells (grownCap w n 0 41 - n)).size = grownCap w n 0 41 * 2 by
      simp only [Array.size_append, size_zeroCells, List.size_toArray, List.length_nil, Nat.zero_add]
      show n * 2 + (grownCap w n 0 41 - n) * 2 = grownCap w n 0 41 * 2
      omega)
    generalize ((#[] : Array Value) ++ Builtin.zeroCells ((.agg #[.int .i64 0, .int .i64 0]) : Value).cells n ++ Builtin.zeroCells ((.agg #[.int .i64 0, .int .i64 0]) : Value).cells (grownCap w n 0 41 - n)) = cur at *
    generalize grownCap w n 0 41 = G at *
    unfold maxLen at hle
    have h1 : (0 : Int) < (n : Int) := by omega
    go_enter Try.func88, Try.ntmps88
    go_wp2_with (at_builtin; refine Lib.wpList_append_run _ rfl _ _ _ _ rfl _ _ rfl rfl _ _ (hrz _) ?_)
    all_goals go_ret
    all_goals exact ⟨_, rfl, ⟨rfl, .inr ⟨w.heap.size, G, cur, rfl, Nat.le_refl _, heap_alloc_new w.drew _, Nat.zero_le _, by unfold maxLen; omega, HSZ.out, by simp⟩⟩, (Below.refl _ _).drew.alloc (Nat.le_refl _) _⟩
/-- A slice of replicas: where it lies, and what it holds. -/
structure RS where
  A : Option Addr
  c : Nat
  l : List Rep
def rsV (s : RS) : Value := .slice s.A s.l.length s.c
def sumL (ls : List RS) : Nat := (ls.map (·.l.length)).sum
def catL (ls : List RS) : List Rep := (ls.map (·.l)).flatten
theorem sumL_take {ls : List RS} {k : Nat} {s : RS} (h : ls[k]? = some s) : sumL (ls.take (k + 1)) = sumL (ls.take k) + s.l.length := by
  unfold sumL
  rw [List.take_add_one, h, List.map_append, List.sum_append]
  simp
theorem catL_take {ls : List RS} {k : Nat} {s : RS} (h : ls[k]? = some s) : catL (ls.take (k + 1)) = catL (ls.take k) ++ s.l := by
  unfold catL
  rw [List.take_add_one, h, List.map_append, List.flatten_append]
  simp
theorem catL_len (ls : List RS) : (catL ls).length = sumL ls := by
  unfold catL sumL
  rw [List.length_flatten, List.map_map]
  rfl
theorem sumL_le {ls : List RS} (k : Nat) : sumL (ls.take k) ≤ sumL ls := by
  conv => rhs; rw [← List.take_append_drop k ls]
  unfold sumL
  rw [List.map_append, List.sum_append]
  omega
set_option maxHeartbeats 8000000 in
theorem c_catReps (ls : List RS) (hn : ls.length ≤ 10) (hs : sumL ls ≤ 1000) (b : Nat) (w : World) (hv : ∀ s ∈ ls, Rv 2 repV w s.A s.c s.l) (hb : w.heap[b]? = some (.cells (ls.map rsV).toArray 34 (0, 0))) :
    Calls Try.prog 53 #[.slice (some ⟨b, 0, none⟩) ls.length ls.length] w fun e w' => ∃ v', e = .returned v' ∧ w'.ownsRow w.heap.size 41 2 v' (catL ls).length (cellsV 2 repV (catL ls)) ∧ Below w.heap.size w w' := by
  have HV := Lib.hid hv
  have HBB := Lib.hid hb
  have hbl := at_lt hb
  have HC := Lib.hid (fun (k : Nat) (s : RS) (h : ls[k]? = some s) => (cell_of hb (by simp [h]) : w.cell? ⟨b, k, none⟩ = some (rsV s)))
  obtain ⟨i0, hi0, hz0, hz1, hz2⟩ := info_parts rep_info
  have HS := Lib.hid hs
  clear hv hb
  go_enter Try.func53, Try.ntmps53
  go_wp2_with (fail)
  go_loop [3, 11] (fun s i => ∃ k : Nat, i = .int .i64 (k : Int) ∧ k ≤ ls.length ∧ s = .int .i64 ((sumL (ls.take k) : Nat) : Int)) (fun _ i => ls.length - (intOf i).toNat)
  case atStart => exact ⟨0, rfl, by omega, rfl⟩
  case round =>
    obtain ⟨k, rfl, hk, rfl⟩ := hrel
    have hki : ((k : Nat) : Int).toNat = k := by omega
    obtain ⟨q, hq⟩ : ∃ q, sumL (ls.take k) = q := ⟨_, rfl⟩
    have hq1 : q ≤ 1000 := by rw [← hq]; exact Nat.le_trans (sumL_le k) HS.out
    have HQ := Lib.hid hq
    rw [hq]
    clear hq
    by_cases hlt : k < ls.length
    · obtain ⟨t, ht⟩ : ∃ t, ls[k]? = some t := ⟨_, List.getElem?_eq_getElem hlt⟩
      have y0 := HC.out k t ht
      unfold rsV at y0
      have hkl : (k : Int) < (ls.length : Int) := by omega
      have HN := Lib.hid (show sumL (ls.take (k + 1)) = q + t.l.length by rw [sumL_take ht, HQ.out])
      have h1000 : q + t.l.length ≤ 1000 := by rw [← HN.out]; exact Nat.le_trans (sumL_le _) HS.out
      have hnn : ¬ ((q : Int) + (t.l.length : Int) < 0) := by omega
      clear ht
      go_wp2_with (fail)
      go_round
      case rel => exact ⟨k + 1, by go_num, by omega, by rw [HN.out]; simp⟩
      case measure => simp only [intOf]; omega
    · obtain rfl : k = ls.length := by omega
      have HG := Lib.hid (c_growReps q (by omega) w)
      go_wp2_with (fail)
      go_at_call 88
      refine HG.out.mono ?_
      rintro e w3 ⟨v3, rfl, ho3, b3⟩
      have HO3 := Lib.hid ho3
      have HB3 := Lib.hid b3
      obtain ⟨A3, c3, rfl⟩ := own_shape ho3
      clear ho3 b3
      go_wp2_with (fail)
      go_loopw [6, 27] (fun v i wr => ∃ k : Nat, k ≤ ls.length ∧ i = .int .i64 (k : Int) ∧ Hid (Below w.heap.size w wr) ∧ Hid (wr.ownsRow w.heap.size 41 2 v (catL (ls.take k)).length (cellsV 2 repV (catL (ls.take k))))) (fun _ i _ => ls.length - (intOf i).toNat)
      case atStart => exact ⟨0, by omega, rfl, HB3, HO3⟩
      case round =>
        obtain ⟨k, hk2, rfl, hB, ho⟩ := hrel
        have hki2 : ((k : Nat) : Int).toNat = k := by omega
        by_cases hlt2 : k < ls.length
        · obtain ⟨t, ht⟩ : ∃ t, ls[k]? = some t := ⟨_, List.getElem?_eq_getElem hlt2⟩
          have y0 := (hB.out.cell (p := ⟨b, k, none⟩) hbl).trans (HC.out k t ht)
          unfold rsV at y0
          have hkl : (k : Int) < (ls.length : Int) := by omega
          have HT := Lib.hid ((HV.out t (List.mem_of_getElem? ht)).on hB.out (Nat.le_refl _))
          have HN := Lib.hid (catL_take ht)
          have hcl : (catL (ls.take k)).length + t.l.length ≤ 1000 := by
            rw [← List.length_append, ← HN.out, catL_len]; exact Nat.le_trans (sumL_le _) HS.out
          obtain ⟨As, cs, rfl⟩ := own_shape ho.out
          have hbs := hB.out.size
          have hA : t.A = none → t.l.length = 0 ∧ t.c = 0 := fun h => by have h1 := HT.out; rw [h] at h1; have := h1.none_nil; exact ⟨by rw [this.1]; rfl, this.2⟩
          clear ht
          go_wp2_with (at_builtin; refine wpList_append_any _ rfl _ _ 34 rfl w.heap.size 41 i0 (.agg #[.int .i64 0, .int .i64 0]) 2 16 Try.underlying34 hi0 hz0 hz1 hz2 rfl (by omega) _ _ _ rfl ho.out t.A t.l.length t.c (cellsV 2 repV t.l) rfl hA (cellsV_len _) (HT.out.cells (by omega)) (cellsV_one rep_one _) (by unfold maxLen; omega) (by omega) hbs ?_)
          intro v2 w2 hown2 hgrow
          have HO2 := Lib.hid (show w2.ownsRow w.heap.size 41 2 v2 (catL (ls.take (k + 1))).length (cellsV 2 repV (catL (ls.take (k + 1)))) by
            rw [HN.out, cellsV_append, List.length_append]; exact hown2)
          have HB2 := Lib.hid (hB.out.grown hgrow hbs (fun g hg => (ownsRow_lt ho.out hg).1))
          clear hown2 hgrow
          go_wp2
          go_roundw
          case rel => exact ⟨k + 1, by omega, by go_num, HB2, HO2⟩
          case measure => simp only [intOf]; omega
        · obtain rfl : k = ls.length := by omega
          have HO2 := Lib.hid (by have := ho.out; rwa [List.take_length] at this)
          go_wp2_with (fail)
          go_ret
          exact ⟨_, rfl, HO2.out, hB.out⟩
end Ytplncglgolhfaaa
end Go.Proofs
