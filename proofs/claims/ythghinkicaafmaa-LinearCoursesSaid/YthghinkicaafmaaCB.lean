/-
  DERIVED. slices.Equal of parts (stage 6).
-/
import Derived.Test.YthghinkicaafmaaBT
namespace Go.Proofs.Ythghinkicaafmaa
open Go.RowKit
set_option maxRecDepth 100000

theorem pt_fields : Try.prog.underlying 41 = some (.struct (Try.prog.fieldsOf 41)) := by kernel_rfl
theorem pt_list : (Try.prog.fieldsOf 41).toList.map (fun f => (f.name, f.type, f.offset)) = [("Source", 3, 0), ("Times", 3, 1), ("Delay", 3, 2)] := by kernel_rfl
theorem pt_stood : Try.prog.stoodInHeld 41 = false := by kernel_rfl
theorem pt_guard : Try.prog.eqGuardType Try.prog.depth 41 = false := by kernel_rfl
theorem guardPt (op : BinOp) (x y : Operand) (xs ys : Array Value) (w : World) : (eqGuard op 41 x y (.agg xs) (.agg ys)).run Try.prog w = .ok () w := run_eqGuard_agg w op _ x y xs ys pt_guard
theorem eqFieldsPt (a b c d e f : Int) (w : World) : (Op.eqFields 9999 #[.int .i64 a, .int .i64 c, .int .i64 e] #[.int .i64 b, .int .i64 d, .int .i64 f] (Try.prog.fieldsOf 41).toList).run Try.prog w = .ok ((a == b) && ((c == d) && (e == f))) w := by
  obtain ⟨f1, f2, f3, he, h1, h2, h3⟩ : ∃ f1 f2 f3 : Field, (Try.prog.fieldsOf 41).toList = [f1, f2, f3] ∧ (f1.name, f1.type, f1.offset) = ("Source", 3, 0) ∧ (f2.name, f2.type, f2.offset) = ("Times", 3, 1) ∧ (f3.name, f3.type, f3.offset) = ("Delay", 3, 2) := by
    have := pt_list
    match h : (Try.prog.fieldsOf 41).toList with
    | [f1, f2, f3] => rw [h] at this; simp only [List.map_cons, List.map_nil, List.cons.injEq] at this; exact ⟨f1, f2, f3, rfl, this.1, this.2.1, this.2.2.1⟩
    | [] => rw [h] at this; cases this
    | [f] => rw [h] at this; simp at this
    | [f, g] => rw [h] at this; simp at this
    | f :: g :: i :: j :: r => rw [h] at this; simp at this
  rw [he]
  obtain ⟨fn, ft, fo⟩ : f1.name = "Source" ∧ f1.type = 3 ∧ f1.offset = 0 := by simpa using h1
  obtain ⟨gn, gt, go⟩ : f2.name = "Times" ∧ f2.type = 3 ∧ f2.offset = 1 := by simpa using h2
  obtain ⟨kn, kt, ko⟩ : f3.name = "Delay" ∧ f3.type = 3 ∧ f3.offset = 2 := by simpa using h3
  simp only [Op.eqFields, fn, ft, fo, gn, gt, go, kn, kt, ko]
  cases hab : (a == b) <;> cases hcd : (c == d) <;> cases hef : (e == f) <;> simp [go_sem, hab, hcd, hef]
theorem neqPt (a b c d e f : Int) (w : World) : (binOp .neq 41 (.agg #[.int .i64 a, .int .i64 c, .int .i64 e]) (.agg #[.int .i64 b, .int .i64 d, .int .i64 f])).run Try.prog w = .ok (.bool (!((a == b) && ((c == d) && (e == f))))) w := by
  rw [run_neq_struct, run_equalIn_agg w 9999 _ _ _ pt_fields pt_stood, eqFieldsPt]
  rfl
set_option maxHeartbeats 4000000 in
theorem c_eqParts (l m : List (Int × Int × Int)) (r : Bool) (hr : decide (l = m) = r) (v u : Value) (w : World) (hv : PtSl w v l) (hu : PtSl w u m) :
    Calls Try.prog 20 #[v, u] w fun e w' => e = .returned (.bool r) ∧ ∃ n, w' = w.drewN n := by
  have HV := Lib.hid hv
  have HU := Lib.hid hu
  have HR := Lib.hid hr
  obtain ⟨A, c, rfl, hc1, hc2⟩ := hv.shape
  obtain ⟨B, d, rfl, hd1, hd2⟩ := hu.shape
  unfold maxLen at hc2 hd2
  clear hv hu hr
  by_cases hl : l.length = m.length
  · have hne : (((l.length : Nat) : Int) != ((m.length : Nat) : Int)) = false := by rw [bne_eq_false_iff_eq]; omega
    have HL := Lib.hid hl
    clear hl
    go_enter Try.func20, Try.ntmps20
    go_wp2_with (fail)
    go_loopw [13] (fun i wr => ∃ (k n : Nat), k ≤ l.length ∧ i = .int .i64 (k : Int) ∧ Hid (l.take k = m.take k) ∧ wr = w.drewN n) (fun i wr => l.length - (intOf i).toNat)
    case atStart => exact ⟨0, 0, Nat.zero_le _, rfl, Lib.hid rfl, rfl⟩
    case round =>
      obtain ⟨k, n, hk, rfl, htk, rfl⟩ := hrel
      by_cases hlt : k < l.length
      · obtain ⟨x, hx⟩ : ∃ x, l[k]? = some x := ⟨_, List.getElem?_eq_getElem hlt⟩
        obtain ⟨y, hy⟩ : ∃ y, m[k]? = some y := ⟨_, List.getElem?_eq_getElem (by have := HL.out; omega)⟩
        obtain ⟨b1, o1, c1, e1, -, -, -, p1, p2, p3⟩ := HV.out.at_ hx
        obtain ⟨b2, o2, c2, e2, -, -, -, q1, q2, q3⟩ := HU.out.at_ hy
        injection e1 with e1 _ e1'
        injection e2 with e2 _ e2'
        subst e1 e1' e2 e2'
        obtain ⟨x1, x2, x3⟩ := x
        obtain ⟨y1, y2, y3⟩ := y
        have HX := Lib.hid hx
        have HY := Lib.hid hy
        have hk2 : (k : Int) < ((m.length : Nat) : Int) := by have := HL.out; omega
        have hki : ((k : Nat) : Int).toNat = k := by omega
        clear hx hy
        have g1 := guardPt
        have g2 := neqPt
        rcases hxy : ((x1 == y1) && ((x2 == y2) && (x3 == y3))) with _ | _
        · have hrr : r = false := by
            rw [← HR.out]
            refine decide_eq_false fun h => ?_
            have h1 := HX.out
            have h2 := HY.out
            rw [h, h2] at h1
            injection h1 with h1
            injection h1 with h3 h4
            injection h4 with h4 h5
            subst h3 h4 h5
            simp at hxy
          subst hrr
          go_wp2_with (fail)
          go_quiet (fail)
          go_wp2_with (fail)
          go_ret
          exact ⟨rfl, _, World.drewN_drewN _ _ _⟩
        · have HXY := Lib.hid (show x1 = y1 ∧ x2 = y2 ∧ x3 = y3 by simpa using hxy)
          go_wp2_with (fail)
          go_quiet (fail)
          go_wp2_with (fail)
          go_roundw
          case rel => exact ⟨k + 1, _, by omega, by go_num, Lib.hid (take_same htk.out HX.out (by rw [HY.out, HXY.out.1, HXY.out.2.1, HXY.out.2.2])), rfl⟩
          case measure => simp only [intOf]; omega
      · obtain rfl : k = l.length := by omega
        have hrr : r = true := by
          rw [← HR.out, decide_eq_true]
          have := htk.out
          rw [List.take_of_length_le (Nat.le_refl _), HL.out, List.take_of_length_le (Nat.le_refl _)] at this
          exact this
        subst hrr
        go_wp2_with (fail)
        go_ret
        exact ⟨rfl, n, rfl⟩
  · have hne : (((l.length : Nat) : Int) != ((m.length : Nat) : Int)) = true := by rw [bne_iff_ne]; omega
    have hrr : r = false := by rw [← HR.out]; exact decide_eq_false (fun h => hl (by rw [h]))
    subst hrr
    clear hl
    go_enter Try.func20, Try.ntmps20
    go_wp2_with (fail)
    go_ret
    exact ⟨rfl, 0, rfl⟩
end Go.Proofs.Ythghinkicaafmaa
