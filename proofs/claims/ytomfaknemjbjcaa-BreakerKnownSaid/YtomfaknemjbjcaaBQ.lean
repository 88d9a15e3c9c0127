/-
  DERIVED. slices.Equal of states, and of loads.
-/
import Derived.Test.YtomfaknemjbjcaaBO
import Derived.Laws.StructEq
namespace Go.Proofs.Ytomfaknemjbjcaa
open Go.RowKit
set_option maxRecDepth 100000

theorem StSl.at_ {w : World} {v : Value} {l : List (Int × Bool)} (h : StSl w v l) {k : Nat} {x : Int × Bool} (hk : l[k]? = some x) : ∃ b o c, v = .slice (some ⟨b, o, none⟩) l.length c ∧ b < w.heap.size ∧ l.length ≤ c ∧ c ≤ maxLen ∧ w.cell? ⟨b, o + k * 2, none⟩ = some (.int .i64 x.1) ∧ w.cell? ⟨b, o + k * 2 + 1, none⟩ = some (.bool x.2) := by
  obtain ⟨A, c, h1, h2, h3, -, h4⟩ := h
  have hl := (List.getElem?_eq_some_iff.1 hk).1
  obtain ⟨b, o, rfl, hlt, hc⟩ := h4 (by omega)
  exact ⟨b, o, c, h1, hlt, h2, h3, (hc k x hk).1, (hc k x hk).2⟩
theorem take_snoc {α : Type} {l m : List α} {k : Nat} {x : α} (h : l.take k = m.take k) (h1 : l[k]? = some x) (h2 : m[k]? = some x) : l.take (k + 1) = m.take (k + 1) := by
  rw [List.take_add_one, List.take_add_one, h, h1, h2]
theorem st_fields : Try.prog.underlying 25 = some (.struct (Try.prog.fieldsOf 25)) := by kernel_rfl
theorem st_list : (Try.prog.fieldsOf 25).toList.map (fun f => (f.name, f.type, f.offset)) = [("Heat", 3, 0), ("Tripped", 4, 1)] := by kernel_rfl
theorem st_stood : Try.prog.stoodInHeld 25 = false := by kernel_rfl
theorem st_guard : Try.prog.eqGuardType Try.prog.depth 25 = false := by kernel_rfl
theorem guardSt (op : BinOp) (x y : Operand) (xs ys : Array Value) (w : World) : (eqGuard op 25 x y (.agg xs) (.agg ys)).run Try.prog w = .ok () w := run_eqGuard_agg w op _ x y xs ys st_guard
theorem eqFieldsSt (a b : Int) (s t : Bool) (w : World) : (Op.eqFields 9999 #[.int .i64 a, .bool s] #[.int .i64 b, .bool t] (Try.prog.fieldsOf 25).toList).run Try.prog w = .ok ((a == b) && (s == t)) w := by
  obtain ⟨f, g, e, h1, h2⟩ : ∃ f g : Field, (Try.prog.fieldsOf 25).toList = [f, g] ∧ (f.name, f.type, f.offset) = ("Heat", 3, 0) ∧ (g.name, g.type, g.offset) = ("Tripped", 4, 1) := by
    have := st_list
    match h : (Try.prog.fieldsOf 25).toList with
    | [f, g] => rw [h] at this; simp only [List.map_cons, List.map_nil, List.cons.injEq] at this; exact ⟨f, g, rfl, this.1, this.2.1⟩
    | [] => rw [h] at this; cases this
    | [f] => rw [h] at this; simp at this
    | f :: g :: i :: r => rw [h] at this; simp at this
  rw [e]
  obtain ⟨fn, ft, fo⟩ : f.name = "Heat" ∧ f.type = 3 ∧ f.offset = 0 := by simpa using h1
  obtain ⟨gn, gt, go⟩ : g.name = "Tripped" ∧ g.type = 4 ∧ g.offset = 1 := by simpa using h2
  simp only [Op.eqFields, fn, ft, fo, gn, gt, go]
  cases hab : (a == b) <;> cases s <;> cases t <;> simp [go_sem, hab]
theorem neqSt (a b : Int) (s t : Bool) (w : World) : (binOp .neq 25 (.agg #[.int .i64 a, .bool s]) (.agg #[.int .i64 b, .bool t])).run Try.prog w = .ok (.bool (!((a == b) && (s == t)))) w := by
  rw [run_neq_struct, run_equalIn_agg w 9999 _ _ _ st_fields st_stood, eqFieldsSt]
  rfl
theorem eqlSt (a b : Int) (s t : Bool) (w : World) : (binOp .eql 25 (.agg #[.int .i64 a, .bool s]) (.agg #[.int .i64 b, .bool t])).run Try.prog w = .ok (.bool ((a == b) && (s == t))) w := by
  rw [run_eql_struct, run_equalIn_agg w 9999 _ _ _ st_fields st_stood, eqFieldsSt]
  rfl
set_option maxHeartbeats 4000000 in
theorem c_eqStates (l m : List (Int × Bool)) (r : Bool) (hr : decide (l = m) = r) (v u : Value) (w : World) (hv : StSl w v l) (hu : StSl w u m) :
    Calls Try.prog 15 #[v, u] w fun e w' => e = .returned (.bool r) ∧ ∃ n, w' = w.drewN n := by
  have HV := Lib.hid hv
  have HU := Lib.hid hu
  have HR := Lib.hid hr
  obtain ⟨A, c, rfl, hc1, hc2⟩ := hv.shape
  obtain ⟨B, d, rfl, hd1, hd2⟩ := hu.shape
  unfold maxLen at hc2 hd2
  clear hv hu hr
  by_cases hl : l.length = m.length
  · have hne : (((l.length : Nat) : Int) != ((m.length : Nat) : Int)) = false := by rw [bne_eq_false_iff_eq]; omega
    have HL := Lib.hid hl
    clear hl
    go_enter Try.func15, Try.ntmps15
    go_wp2_with (fail)
    go_loopw [13] (fun i wr => ∃ (k n : Nat), k ≤ l.length ∧ i = .int .i64 (k : Int) ∧ Hid (l.take k = m.take k) ∧ wr = w.drewN n) (fun i wr => l.length - (intOf i).toNat)
    case atStart => exact ⟨0, 0, Nat.zero_le _, rfl, Lib.hid rfl, rfl⟩
    case round =>
      obtain ⟨k, n, hk, rfl, htk, rfl⟩ := hrel
      by_cases hlt : k < l.length
      · obtain ⟨x, hx⟩ : ∃ x, l[k]? = some x := ⟨_, List.getElem?_eq_getElem hlt⟩
        obtain ⟨y, hy⟩ : ∃ y, m[k]? = some y := ⟨_, List.getElem?_eq_getElem (by have := HL.out; omega)⟩
        obtain ⟨b1, o1, c1, e1, -, -, -, p1, p2⟩ := HV.out.at_ hx
        obtain ⟨b2, o2, c2, e2, -, -, -, q1, q2⟩ := HU.out.at_ hy
        injection e1 with e1 _ e1'
        injection e2 with e2 _ e2'
        subst e1 e1' e2 e2'
        obtain ⟨x1, x2⟩ := x
        obtain ⟨y1, y2⟩ := y
        have HX := Lib.hid hx
        have HY := Lib.hid hy
        have hk2 : (k : Int) < ((m.length : Nat) : Int) := by have := HL.out; omega
        have hki : ((k : Nat) : Int).toNat = k := by omega
        clear hx hy
        have g1 := guardSt
        have g2 := neqSt
        rcases hxy : ((x1 == y1) && (x2 == y2)) with _ | _
        · have hrr : r = false := by
            rw [← HR.out]
            refine decide_eq_false fun h => ?_
            have h1 := HX.out
            have h2 := HY.out
            rw [h, h2] at h1
            injection h1 with h1
            injection h1 with h3 h4
            subst h3 h4
            simp at hxy
          subst hrr
          go_wp2_with (fail)
          go_quiet (fail)
          go_wp2_with (fail)
          go_ret
          exact ⟨rfl, _, World.drewN_drewN _ _ _⟩
        · have HXY := Lib.hid (show x1 = y1 ∧ x2 = y2 by simpa using hxy)
          go_wp2_with (fail)
          go_quiet (fail)
          go_wp2_with (fail)
          go_roundw
          case rel => exact ⟨k + 1, _, by omega, by go_num, Lib.hid (take_snoc htk.out HX.out (by rw [HY.out, HXY.out.1, HXY.out.2])), rfl⟩
          case measure => simp only [intOf]; omega
      · obtain rfl : k = l.length := by omega
        have hrr : r = true := by
          rw [← HR.out, decide_eq_true]
          have := htk.out
          rw [List.take_of_length_le (Nat.le_refl _), HL.out, List.take_of_length_le (Nat.le_refl _)] at this
          exact this
        subst hrr
        go_wp2_with (fail)
        go_ret
        exact ⟨rfl, n, rfl⟩
  · have hne : (((l.length : Nat) : Int) != ((m.length : Nat) : Int)) = true := by rw [bne_iff_ne]; omega
    have hrr : r = false := by rw [← HR.out]; exact decide_eq_false (fun h => hl (by rw [h]))
    subst hrr
    clear hl
    go_enter Try.func15, Try.ntmps15
    go_wp2_with (fail)
    go_ret
    exact ⟨rfl, 0, rfl⟩
set_option maxHeartbeats 4000000 in
theorem c_eqInts (l m : List Int) (r : Bool) (hr : decide (l = m) = r) (v u : Value) (w : World) (hv : IntSl w v l) (hu : IntSl w u m) :
    Calls Try.prog 20 #[v, u] w fun e w' => e = .returned (.bool r) ∧ ∃ n, w' = w.drewN n := by
  have HV := Lib.hid hv
  have HU := Lib.hid hu
  have HR := Lib.hid hr
  obtain ⟨A, c, rfl, hc1, hc2⟩ := hv.shape
  obtain ⟨B, d, rfl, hd1, hd2⟩ := hu.shape
  unfold maxLen at hc2 hd2
  clear hv hu hr
  by_cases hl : l.length = m.length
  · have hne : (((l.length : Nat) : Int) != ((m.length : Nat) : Int)) = false := by rw [bne_eq_false_iff_eq]; omega
    have HL := Lib.hid hl
    clear hl
    go_enter Try.func20, Try.ntmps20
    go_wp2_with (fail)
    go_loopw [13] (fun i wr => ∃ (k n : Nat), k ≤ l.length ∧ i = .int .i64 (k : Int) ∧ Hid (l.take k = m.take k) ∧ wr = w.drewN n) (fun i wr => l.length - (intOf i).toNat)
    case atStart => exact ⟨0, 0, Nat.zero_le _, rfl, Lib.hid rfl, rfl⟩
    case round =>
      obtain ⟨k, n, hk, rfl, htk, rfl⟩ := hrel
      by_cases hlt : k < l.length
      · obtain ⟨x, hx⟩ : ∃ x, l[k]? = some x := ⟨_, List.getElem?_eq_getElem hlt⟩
        obtain ⟨y, hy⟩ : ∃ y, m[k]? = some y := ⟨_, List.getElem?_eq_getElem (by have := HL.out; omega)⟩
        obtain ⟨b1, o1, c1, e1, -, -, -, p1⟩ := HV.out.at_ hx
        obtain ⟨b2, o2, c2, e2, -, -, -, q1⟩ := HU.out.at_ hy
        injection e1 with e1 _ e1'
        injection e2 with e2 _ e2'
        subst e1 e1' e2 e2'
        have HX := Lib.hid hx
        have HY := Lib.hid hy
        have hk2 : (k : Int) < ((m.length : Nat) : Int) := by have := HL.out; omega
        have hki : ((k : Nat) : Int).toNat = k := by omega
        clear hx hy
        rcases hxy : (x == y) with _ | _
        · have hrr : r = false := by
            rw [← HR.out]
            refine decide_eq_false fun h => ?_
            have h1 := HX.out
            rw [h, HY.out] at h1
            injection h1 with h1
            subst h1
            simp at hxy
          subst hrr
          go_wp2_with (fail)
          go_quiet (fail)
          go_wp2_with (fail)
          go_ret
          exact ⟨rfl, _, World.drewN_drewN _ _ _⟩
        · have HXY := Lib.hid (show x = y by simpa using hxy)
          go_wp2_with (fail)
          go_quiet (fail)
          go_wp2_with (fail)
          go_roundw
          case rel => exact ⟨k + 1, _, by omega, by go_num, Lib.hid (take_snoc htk.out HX.out (by rw [HY.out, HXY.out])), rfl⟩
          case measure => simp only [intOf]; omega
      · obtain rfl : k = l.length := by omega
        have hrr : r = true := by
          rw [← HR.out, decide_eq_true]
          have := htk.out
          rw [List.take_of_length_le (Nat.le_refl _), HL.out, List.take_of_length_le (Nat.le_refl _)] at this
          exact this
        subst hrr
        go_wp2_with (fail)
        go_ret
        exact ⟨rfl, n, rfl⟩
  · have hne : (((l.length : Nat) : Int) != ((m.length : Nat) : Int)) = true := by rw [bne_iff_ne]; omega
    have hrr : r = false := by rw [← HR.out]; exact decide_eq_false (fun h => hl (by rw [h]))
    subst hrr
    clear hl
    go_enter Try.func20, Try.ntmps20
    go_wp2_with (fail)
    go_ret
    exact ⟨rfl, 0, rfl⟩
end Go.Proofs.Ytomfaknemjbjcaa
