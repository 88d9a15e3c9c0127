/-
  DERIVED. slices.Repeat of one number (stage 5).
-/
import Derived.Test.YtglpaihadongkaaBD
import Derived.OwnWalk
import Derived.Laws.CopyOwn
import Derived.Deep.RegionLaw
namespace Go.Proofs.Ytglpaihadongkaa
open Go.RowKit
set_option maxRecDepth 100000
set_option linter.unusedSimpArgs false
set_option linter.unusedVariables false

theorem retTT {fn : Func} {a : Act} {W : World} {R : Ending → World → Prop} {i j : Nat} {x y : Value} (hfn : fn.results = #[.tmp i, .tmp j]) (hi : a.tmps[i]?.getD undef = x) (hj : a.tmps[j]?.getD undef = y) (hd : a.defers = [])
    (hR : R (.returned (.tuple #[x, y])) W) : bodyPost Try.prog fn R .ret a W :=
  bodyPost_ret (v := .tuple #[x, y]) (by simp [results, hfn, hi, hj, go_sem]) hd hR
theorem intSl_one (w : World) (p : Int) : IntSl (w.alloc (.cells #[.int .i64 p] 3)) (.slice (some ⟨w.heap.size, 0, none⟩) 1 1) [p] := by
  refine ⟨some ⟨w.heap.size, 0, none⟩, 1, rfl, Nat.le_refl _, by unfold maxLen; omega, (by intro h; cases h), fun _ => ⟨w.heap.size, 0, rfl, by simp, fun j x hj => ?_⟩⟩
  have h := heap_alloc_new w (.cells #[.int .i64 p] 3)
  match j, hj with
  | 0, hj => simp at hj; subst hj; simp only [World.cell?, h]; rfl
theorem mul_bits : ∀ n : Nat, n < 65 → bits .and .u64 (n : Int) 4294967295 = (n : Int) ∧ (n : Int) / 4294967296 = 0 ∧ IntKind.u64.wrap (n : Int) = (n : Int) := by decide +kernel
theorem mul_bits1 : bits .and .u64 1 4294967295 = 1 ∧ bits .and .u64 0 4294967295 = 0 := by decide +kernel
theorem int_info : (Try.prog.info? 3).map (fun i => (i.zero, i.size, i.bytes)) = some (some (.int .i64 0), 1, 8) := by kernel_rfl
theorem info_parts {P : Program} {T : TypeId} {z : Value} {s b : Nat} (h : (P.info? T).map (fun i => (i.zero, i.size, i.bytes)) = some (some z, s, b)) : ∃ i, P.info? T = some i ∧ i.zero = some z ∧ i.size = s ∧ i.bytes = b := by
  obtain ⟨i, hi, e⟩ := Option.map_eq_some_iff.1 h
  injection e with e1 e2
  injection e2 with e2 e3
  exact ⟨i, hi, e1, e2, e3⟩
set_option maxHeartbeats 4000000 in
theorem c_Mul64 (N : Nat) (hN : 1 ≤ N ∧ N ≤ 64) (w : World) : Calls Try.prog 51 #[.int .u64 1, .int .u64 (N : Int)] w fun e w' => e = .returned (.tuple #[.int .u64 0, .int .u64 (N : Int)]) ∧ w = w' := by
  obtain ⟨h1, h2, h3⟩ := mul_bits N (by omega)
  obtain ⟨h4, h5⟩ := mul_bits1
  go_enter Try.func51, Try.ntmps51
  go_wp2
  exact retTT rfl rfl rfl rfl ⟨rfl, rfl⟩
set_option maxHeartbeats 4000000 in
theorem c_Mul (N : Nat) (hN : 1 ≤ N ∧ N ≤ 64) (w : World) : Calls Try.prog 48 #[.int .u64 1, .int .u64 (N : Int)] w fun e w' => e = .returned (.tuple #[.int .u64 0, .int .u64 (N : Int)]) ∧ w = w' := by
  go_enter Try.func48, Try.ntmps48
  go_wp2_with (fail)
  go_at_call 51
  refine (c_Mul64 N hN _).mono ?_
  rintro e w1 ⟨rfl, rfl⟩
  go_wp2_with (fail)
  exact retTT rfl rfl rfl rfl ⟨rfl, rfl⟩
theorem _root_.Go.Lib.cell_of_row' {W : World} {b j : Nat} {cur : List Value} {T : TypeId} (h : W.heap[b]? = some (.cells cur.toArray T (0, 0))) : W.cell? ⟨b, j, none⟩ = cur[j]? := by
  simp [World.cell?, h]
/-- The new slice between two rounds. -/
def RpRel (N : Nat) (w : World) (g : Nat) (p : Int) (n : Value) (wr : World) : Prop :=
  ∃ (k : Nat) (cur : List Value), n = .int .i64 (k : Int) ∧ 1 ≤ k ∧ k ≤ N ∧ wr.heap[g]? = some (.cells cur.toArray 3 (0, 0)) ∧ cur.length = N ∧ Hid (cur.take k = List.replicate k (.int .i64 p)) ∧ Hid (Below w.heap.size w wr)
theorem row_whole_own {w : World} {base n g : Nat} {T : TypeId} {xs : List Value} (h : w.ownsRow base T 1 (.slice (some ⟨g, 0, none⟩) n n) n xs) : ∃ cur : List Value, w.heap[g]? = some (.cells cur.toArray T (0, 0)) ∧ cur.length = n := by
  obtain ⟨k1, ⟨e, -⟩ | ⟨g', cap', cur, e, k3, k4, k5, k6, k7, k8⟩⟩ := h
  · cases e
  · injection e with e1 _ e2
    injection e1 with e1
    injection e1 with e1
    subst e1 e2
    exact ⟨cur.toList, by simpa using k4, by simpa using k7⟩
theorem int_size : (Try.prog.info? 3).map (·.size) = some 1 := by kernel_rfl
set_option maxHeartbeats 1000000 in
theorem c_Repeat (N : Nat) (hN : 1 ≤ N ∧ N ≤ 64) (p : Int) (v : Value) (w : World) (h : IntSl w v [p]) : Calls Try.prog 44 #[v, .int .i64 (N : Int)] w fun e w' => e = .returned (.slice (some ⟨w.heap.size, 0, none⟩) N N) ∧ w'.heap[w.heap.size]? = some (.cells (List.replicate N (Value.int .i64 p)).toArray 3 (0, 0)) ∧ Below w.heap.size w w' := by
  obtain ⟨b, o, c, rfl, hb, hc1, hc2, hcell⟩ := h.at_ (k := 0) (x := p) rfl
  have e1 : ([p] : List Int).length = 1 := rfl
  rw [e1] at *
  unfold maxLen at hc2
  rw [Nat.add_zero] at hcell
  clear h
  go_enter Try.func44, Try.ntmps44
  go_wp2_with (fail)
  go_at_call 48
  refine (c_Mul N hN _).mono ?_
  rintro e w1 ⟨rfl, rfl⟩
  obtain ⟨i0, hi0, hzz0, hzz1, hzz2⟩ := info_parts int_info
  have HSRC := Lib.hid (fun (X : World) (hX : Below w.heap.size w X) (j : Nat) (u : Value) (hj : [Value.int .i64 p][j]? = some u) => show X.cell? ((⟨b, o, none⟩ : Addr).add j) = some u from by
    match j, hj with
    | 0, hj => simp at hj; subst hj; exact (hX.cell (p := ⟨b, o, none⟩) hb).trans hcell)
  go_wp2_with (first
    | (at_make; refine wpList_make_full (P := Try.prog) _ rfl _ _ 25 rfl w.heap.size 3 i0 (.int .i64 0) 1 Try.underlying25 hi0 hzz0 hzz1 .i64 .i64 _ _ N rfl rfl rfl rfl (by rw [hzz2]; omega) (by unfold maxLen; omega) (Nat.le_refl _) ?_; intro w1 ho1 hg1; obtain ⟨cur, hcur, hsz⟩ := row_whole_own ho1; have HB1 := Lib.hid ((Below.refl w.heap.size w).grown hg1 (Nat.le_refl _) (fun k hk => by cases hk)); clear ho1 hg1)
    | (refine wpList_copy_splice rfl (.tmp 31) (.tmp 32) _ _ rfl 3 Try.underlying25 int_size _ _ N N 1 c rfl rfl w.heap.size 0 cur 3 hcur [.int .i64 p] (show 1 = Nat.min 1 N from (Nat.min_eq_left hN.1).symm) (fun _ => ⟨rfl, _, rfl, HSRC.out _ HB1.out⟩) (by simp; omega) (by simp [Value.oneCell']) w.heap.size w HB1.out (Nat.le_refl _) ?_; intro w2 hrow hb2))
  have HR2 := hrow
  have HB2 := Lib.hid hb2
  clear hb2 hcur
  go_wp2_with (fail)
  go_loopw [8] (fun n wr => RpRel N w w.heap.size p n wr) (fun n _ => N - (intOf n).toNat)
  case atStart => exact ⟨1, _, rfl, by omega, by omega, HR2.out, by rw [length_splice _ _ _ (by simp; omega)]; exact hsz, Lib.hid (by simp [splice]), Lib.hid HB2.out⟩
  case round =>
    obtain ⟨k, cu, rfl, hk1, hk2, hrow, hlen, htk, hB⟩ := hrel
    have HR := Lib.hid hrow
    have hki : ((k : Nat) : Int).toNat = k := by omega
    by_cases hlt : k < N
    · obtain ⟨m, hm⟩ : ∃ m, m = Nat.min k (N - k) := ⟨_, rfl⟩
      have hm0 : 0 < m := by rw [hm]; exact Nat.lt_min.2 ⟨by omega, by omega⟩
      have hmk : m ≤ k := by rw [hm]; exact Nat.min_le_left _ _
      have hmk2 : m ≤ N - k := by rw [hm]; exact Nat.min_le_right _ _
      have HC := Lib.hid (fun (j : Nat) (u : Value) (hj : (List.replicate m (Value.int .i64 p))[j]? = some u) => show wr.cell? ((⟨w.heap.size, 0, none⟩ : Addr).add j) = some u from by
        have hj' := (List.getElem?_eq_some_iff.1 hj).1
        rw [List.length_replicate] at hj'
        have e : (⟨w.heap.size, 0, none⟩ : Addr).add j = ⟨w.heap.size, j, none⟩ := by unfold Addr.add; split <;> simp_all
        rw [e, Lib.cell_of_row' hrow, ← hj, List.getElem?_replicate, if_pos hj']
        have := congrArg (fun l => l[j]?) htk.out
        simp only [List.getElem?_take_of_lt (show j < k by omega)] at this
        rw [this, List.getElem?_replicate, if_pos (by omega)])
      have h300 : (k : Int) < N := by omega
      have h301 : (k : Int) ≤ N := by omega
      have h302 : ¬ (N = k) := by omega
      have HMM := Lib.hid hm
      clear hrow hm
      go_wp2_with (fail)
      go_region_law (refine step_copy_splice rfl (.tmp 41) (.tmp 44) _ _ rfl 3 Try.underlying25 int_size (some ⟨w.heap.size, k, none⟩) (some ⟨w.heap.size, 0, none⟩) (N - k) (N - k) k N (by simp [Act.eval, Act.put]) (by simp [Act.eval, Act.put]) w.heap.size k cu 3 HR.out (List.replicate m (.int .i64 p)) (by rw [List.length_replicate]; exact HMM.out) (fun _ => ⟨rfl, _, rfl, HC.out⟩) (by rw [List.length_replicate]; omega) (by intro u hu; rw [(List.mem_replicate.1 hu).2]; rfl) w.heap.size w hB.out.drew (Nat.le_refl _) ?_; intro w4 hg4 hb4)
      have hl4 : (splice cu k (List.replicate m (Value.int .i64 p))).length = N := by rw [length_splice _ _ _ (by rw [List.length_replicate]; omega)]; exact hlen
      have R := Lib.hid (show RpRel N w w.heap.size p (.int .i64 ((k : Int) + (m : Int))) w4 from ⟨k + m, _, by push_cast; rfl, by omega, by omega, hg4.out, hl4, Lib.hid (by
        unfold splice
        rw [← List.append_assoc, List.take_append_of_le_length (by rw [List.length_append, List.length_take, List.length_replicate]; omega), List.take_of_length_le (by rw [List.length_append, List.length_take, List.length_replicate]; omega), htk.out, List.replicate_append_replicate]), Lib.hid hb4⟩)
      clear hg4 hb4 hl4
      have el : (List.replicate m (Value.int .i64 p)).length = m := List.length_replicate
      have hwr : IntKind.i64.wrap ((k : Int) + (m : Int)) = (k : Int) + (m : Int) := by rw [IntKind.wrap_i64]; omega
      have HW := Lib.hid hwr
      clear hwr
      go_simp
      go_wp2_with (fail)
      have hwr := HW.out
      go_roundw
      case rel => rw [hwr]; exact R.out
      case measure => simp only [intOf]; rw [hwr]; omega
    · obtain rfl : N = k := by omega
      go_wp2_with (fail)
      go_ret
      have ht := htk.out
      rw [List.take_of_length_le (by omega)] at ht
      rw [ht] at hrow
      exact ⟨rfl, hrow, hB.out⟩
end Go.Proofs.Ytglpaihadongkaa
