/-
  DERIVED. Several texts in one.
-/
import Derived.Test.YtbbadnlaelgmlaaGreatPYA2
import Derived.Laws.StructEq
import Derived.Lib.AppendZerosOnto
import Derived.Lib.Walk
import Derived.Laws.AppendOwnNone
import Derived.Laws.CopyOwn
import Derived.Lib.SliceRun
import Derived.OwnWalk
import Derived.Laws.IdiomCopy
set_option linter.unusedVariables false
set_option linter.unusedSimpArgs false

namespace Go.Proofs.YtbbadnlaelgmlaaGreat
open Go.RowKit
set_option maxRecDepth 100000
set_option linter.unusedVariables false
set_option linter.unusedSimpArgs false

set_option maxHeartbeats 2000000 in
theorem c_woIsFrom (lo hi n : Int) (r : Bool) (hr : inB n lo hi = r) (w : World) : Calls Tryz.prog 41 #[.int .i64 lo, .int .i64 hi, .int .i64 n] w fun e w' => e = .returned (.bool r) ∧ w' = w := by
  unfold inB at hr
  rcases h1 : decide (lo ≤ n) with _ | _
  · rw [h1] at hr
    obtain rfl : false = r := hr
    go_enter Tryz.func41, Tryz.ntmps41
    go_wp2
    go_ret
    exact ⟨rfl, rfl⟩
  · rw [h1] at hr
    obtain rfl : decide (n ≤ hi) = r := hr
    go_enter Tryz.func41, Tryz.ntmps41
    go_wp2
    go_ret
    exact ⟨rfl, rfl⟩
set_option maxHeartbeats 2000000 in
theorem c_woIsIndex (x m : Int) (r : Bool) (hr : ixB x m = r) (w : World) : Calls Tryz.prog 43 #[.int .i64 x, .int .i64 m] w fun e w' => e = .returned (.bool r) ∧ w' = w := by
  unfold ixB at hr
  rcases h1 : decide (0 ≤ x) with _ | _
  · rw [h1] at hr
    obtain rfl : false = r := hr
    go_enter Tryz.func43, Tryz.ntmps43
    go_wp2
    go_ret
    exact ⟨rfl, rfl⟩
  · rw [h1] at hr
    obtain rfl : decide (x < m) = r := hr
    go_enter Tryz.func43, Tryz.ntmps43
    go_wp2
    go_ret
    exact ⟨rfl, rfl⟩
def cmpI (x y : Int) : Int := if x < y then -1 else if y < x then 1 else 0
theorem c_cmpInt (x y : Int) (w : World) : Calls Tryz.prog 126 #[.int .i64 x, .int .i64 y] w fun e w' => e = .returned (.int .i64 (cmpI x y)) ∧ w' = w := by
  unfold cmpI
  have hn : ∀ (z : Int) (w : World), Calls Tryz.prog 150 #[.int .i64 z] w fun e w' => e = .returned (.bool false) ∧ w' = w := by
    intro z w
    go_enter Tryz.func150, Tryz.ntmps150
    go_wp2
    go_ret
    exact ⟨by simp, rfl⟩
  have HN := Lib.hid hn
  clear hn
  by_cases h1 : x < y
  · rw [if_pos h1]
    go_enter Tryz.func126, Tryz.ntmps126
    go_wp2_with (go_at_call 150; refine (HN.out _ _).mono ?_; rintro e w' ⟨rfl, rfl⟩)
    go_ret
    exact ⟨rfl, rfl⟩
  · rw [if_neg h1]
    by_cases h2 : y < x
    · rw [if_pos h2]
      go_enter Tryz.func126, Tryz.ntmps126
      go_wp2_with (go_at_call 150; refine (HN.out _ _).mono ?_; rintro e w' ⟨rfl, rfl⟩)
      go_ret
      exact ⟨rfl, rfl⟩
    · rw [if_neg h2]
      go_enter Tryz.func126, Tryz.ntmps126
      go_wp2_with (go_at_call 150; refine (HN.out _ _).mono ?_; rintro e w' ⟨rfl, rfl⟩)
      go_ret
      exact ⟨rfl, rfl⟩
set_option maxHeartbeats 2000000 in
theorem c_orInt (b : Nat) (x y : Int) (r : Int) (hr : (if x = 0 then y else x) = r) (w : World) (hb : w.heap[b]? = some (.cells #[.int .i64 x, .int .i64 y] 3 (0, 0))) :
    Calls Tryz.prog 125 #[.slice (some ⟨b, 0, none⟩) 2 2] w fun e w' => e = .returned (.int .i64 r) ∧ w' = w := by
  have x0 : w.cell? ⟨b, 0, none⟩ = some (.int .i64 x) := cell_of hb rfl
  have x1 : w.cell? ⟨b, 1, none⟩ = some (.int .i64 y) := cell_of hb rfl
  clear hb
  have HR := Lib.hid hr
  clear hr
  go_enter Tryz.func125, Tryz.ntmps125
  go_wp2_with (fail)
  go_loopw [8] (fun i wr => ∃ k : Nat, k ≤ 2 ∧ i = .int .i64 (k : Int) ∧ wr = w ∧ Hid ((1 ≤ k → x = 0) ∧ (2 ≤ k → y = 0))) (fun i _ => 2 - (intOf i).toNat)
  case atStart => exact ⟨0, by omega, rfl, rfl, Lib.hid ⟨by omega, by omega⟩⟩
  case round =>
    obtain ⟨k, hk, rfl, rfl, hz⟩ := hrel
    match k, hk with
    | 0, _ =>
      rcases hx : (x != 0) with _ | _
      · have HX := Lib.hid (show x = 0 by simpa using hx)
        go_wp2_with (fail)
        go_roundw
        case rel => exact ⟨1, by omega, rfl, trivial, Lib.hid ⟨fun _ => HX.out, by omega⟩⟩
        case measure => simp [intOf]
      · have HX := Lib.hid (show x = r by rw [← HR.out, if_neg (by simpa using hx)])
        go_wp2_with (fail)
        go_ret
        exact ⟨(show Ending.returned (.int .i64 x) = .returned (.int .i64 r) by rw [HX.out]), rfl⟩
    | 1, _ =>
      have HY := Lib.hid (show y = r by rw [← HR.out, if_pos (hz.out.1 (by omega))])
      rcases hy : (y != 0) with _ | _
      · have HX := Lib.hid (show y = 0 by simpa using hy)
        go_wp2_with (fail)
        go_roundw
        case rel => exact ⟨2, by omega, rfl, trivial, Lib.hid ⟨fun _ => hz.out.1 (by omega), fun _ => HX.out⟩⟩
        case measure => simp [intOf]
      · go_wp2_with (fail)
        go_ret
        exact ⟨(show Ending.returned (.int .i64 y) = .returned (.int .i64 r) by rw [HY.out]), rfl⟩
    | 2, _ =>
      have HY := Lib.hid (show 0 = r by rw [← HR.out, if_pos (hz.out.1 (by omega)), hz.out.2 (by omega)])
      go_wp2_with (fail)
      go_ret
      exact ⟨(show Ending.returned (.int .i64 0) = .returned (.int .i64 r) by rw [HY.out]), rfl⟩
def cmpR (a b : Rep) : Int := if cmpI a.svc b.svc = 0 then cmpI a.host b.host else cmpI a.svc b.svc
theorem cmpR_less (a b : Rep) : decide (0 ≤ cmpR a b) = !lessR a b := by
  have h : 0 ≤ cmpR a b ↔ ¬ lessR a b = true := by
    rw [lessR_iff]
    unfold cmpR cmpI
    repeat' split
    all_goals omega
  cases h2 : lessR a b
  · simp [h, h2]
  · simp [h, h2]
set_option maxHeartbeats 4000000 in
theorem c_compare (p q : Rep) (r : Int) (hr : cmpR p q = r) (w : World) : Calls Tryz.prog 92 #[.agg #[.int .i64 p.svc, .int .i64 p.host], .agg #[.int .i64 q.svc, .int .i64 q.host]] w fun e w' => e = .returned (.int .i64 r) ∧ Below w.heap.size w w' := by
  obtain ⟨W1, hW1⟩ : ∃ W, W = w.alloc (.cells #[.int .i64 p.svc, .int .i64 p.host] 53) := ⟨_, rfl⟩
  obtain ⟨W2, hW2⟩ : ∃ W, W = W1.alloc (.cells #[.int .i64 q.svc, .int .i64 q.host] 53) := ⟨_, rfl⟩
  have hs1 : W1.heap.size = w.heap.size + 1 := by rw [hW1, World.size_alloc]
  have hs2 : W2.heap.size = w.heap.size + 2 := by rw [hW2, World.size_alloc]; omega
  have b1 : W1.heap[w.heap.size]? = some (.cells #[.int .i64 p.svc, .int .i64 p.host] 53 (0, 0)) := by rw [hW1]; exact box_new _ _ _
  have b2 : W2.heap[w.heap.size]? = some (.cells #[.int .i64 p.svc, .int .i64 p.host] 53 (0, 0)) := by rw [hW2]; exact old_heap _ b1
  have b3 : W2.heap[w.heap.size + 1]? = some (.cells #[.int .i64 q.svc, .int .i64 q.host] 53 (0, 0)) := by rw [← hs1, hW2]; exact box_new _ _ _
  have HB := Lib.hid (show Below w.heap.size w W2 by rw [hW2]; exact ((hW1 ▸ (Below.refl _ _).alloc (Nat.le_refl _) _ : Below w.heap.size w W1)).alloc (by omega) _)
  have HF := Lib.hid (fun (X : World) (hX : Below W2.heap.size W2 X) => (⟨cell_of (box_on b2 hX (Nat.le_refl _)) rfl, cell_of (box_on b2 hX (Nat.le_refl _)) rfl, cell_of (box_on b3 hX (Nat.le_refl _)) rfl, cell_of (box_on b3 hX (Nat.le_refl _)) rfl⟩ : X.cell? ⟨w.heap.size, 0, none⟩ = some (.int .i64 p.svc) ∧ X.cell? ⟨w.heap.size, 1, none⟩ = some (.int .i64 p.host) ∧ X.cell? ⟨w.heap.size + 1, 0, none⟩ = some (.int .i64 q.svc) ∧ X.cell? ⟨w.heap.size + 1, 1, none⟩ = some (.int .i64 q.host)))
  have HR := Lib.hid (show (if cmpI p.svc q.svc = 0 then cmpI p.host q.host else cmpI p.svc q.svc) = r from hr)
  clear hr b1 b2 b3 hs1 hs2
  obtain ⟨x0, x1, x2, x3⟩ := HF.out W2 (Below.refl _ _)
  generalize hA : w.heap.size = A at *
  go_enter Tryz.func92, Tryz.ntmps92
  go_wp2_with (fail)
  rw [← hW1, ← hW2]
  clear hW1 hW2
  have HO := Lib.hid (c_orInt W2.heap.size (cmpI p.svc q.svc) (cmpI p.host q.host) r HR.out (W2.alloc (.cells #[.int .i64 (cmpI p.svc q.svc), .int .i64 (cmpI p.host q.host)] 3)).drew (box_new W2 _ _))
  have HK := Lib.hid (HF.out (W2.alloc (.cells #[.int .i64 (cmpI p.svc q.svc), .int .i64 (cmpI p.host q.host)] 3)).drew ((Below.refl _ _).alloc (Nat.le_refl _) _).drew)
  go_region_held3 (fun X => X.cell? ⟨A, 0, none⟩ = some (.int .i64 p.svc) ∧ X.cell? ⟨A, 1, none⟩ = some (.int .i64 p.host) ∧ X.cell? ⟨A + 1, 0, none⟩ = some (.int .i64 q.svc) ∧ X.cell? ⟨A + 1, 1, none⟩ = some (.int .i64 q.host))
    (first | exact HF.out W2 (Below.refl _ _) | exact HF.out W2.drew (Below.refl _ _).drew | exact HK.out | fail)
    (first
      | (go_at_call 126; (with_reducible refine (c_cmpInt _ _ _).mono ?_); rintro e w1 ⟨rfl, rfl⟩)
      | (go_at_call 125; refine HO.out.mono ?_; rintro e w1 ⟨rfl, rfl⟩)
      | fail)
  go_wp2_with (fail)
  go_ret
  exact ⟨rfl, below_join HB.out (((Below.refl W2.heap.size W2).alloc (Nat.le_refl _) _).drew) (by have := HB.out.size; omega)⟩
set_option maxHeartbeats 8000000 in
theorem c_ascend (A : Option Addr) (c : Nat) (l : List Rep) (r : Bool) (hr : ascB l = r) (w : World) (h : Rv 2 repV w A c l) :
    Calls Tryz.prog 48 #[.slice A l.length c] w fun e w' => e = .returned (.bool r) ∧ Below w.heap.size w w' := by
  have H := Lib.hid h
  have HR := Lib.hid hr
  have k1 := h.1; have k2 := h.2.1
  unfold maxLen at k2
  clear h hr
  go_enter Tryz.func48, Tryz.ntmps48
  go_wp2_with (fail)
  go_loopw [3] (fun i wr => ∃ k : Nat, (k ≤ l.length ∨ k = 1) ∧ 1 ≤ k ∧ i = .int .i64 (k : Int) ∧ Hid (Below w.heap.size w wr) ∧ Hid (∀ j a b, j + 1 < k → l[j]? = some a → l[j + 1]? = some b → lessR a b = true)) (fun i _ => l.length - (intOf i).toNat)
  case atStart => exact ⟨1, .inr rfl, by omega, rfl, Lib.hid (Below.refl _ _), Lib.hid (fun j a b hj => absurd hj (by omega))⟩
  case round =>
    obtain ⟨k, hk, hk1, rfl, hB, hasc⟩ := hrel
    by_cases hlt : k < l.length
    · obtain ⟨m, hm⟩ : ∃ m, k = m + 1 := ⟨k - 1, by omega⟩
      obtain ⟨x, hx⟩ : ∃ x, l[m]? = some x := ⟨_, List.getElem?_eq_getElem (by omega)⟩
      obtain ⟨y, hy⟩ : ∃ y, l[k]? = some y := ⟨_, List.getElem?_eq_getElem hlt⟩
      obtain ⟨b, o, rfl, -, -⟩ := H.out.at_ hx
      have HF := Lib.hid (fun (X : World) (hX : Below w.heap.size w X) => (let z := rep_at (H.out.on hX (Nat.le_refl _)) hx; let u := rep_at (H.out.on hX (Nat.le_refl _)) hy; (⟨z.1, z.2, u.1, u.2⟩ : X.cell? ⟨b, o + m * 2, none⟩ = some (.int .i64 x.svc) ∧ X.cell? ⟨b, o + m * 2 + 1, none⟩ = some (.int .i64 x.host) ∧ X.cell? ⟨b, o + k * 2, none⟩ = some (.int .i64 y.svc) ∧ X.cell? ⟨b, o + k * 2 + 1, none⟩ = some (.int .i64 y.host))))
      obtain ⟨f0, f1, f2, f3⟩ := HF.out wr hB.out
      have hk2 : ((k : Nat) : Int) < (l.length : Int) := by omega
      have hk3 : IntKind.i64.wrap (((k : Nat) : Int) - 1) = (m : Int) := by rw [show ((k : Nat) : Int) - 1 = (m : Int) by omega]; exact wrap_in (by omega) (by omega)
      have hk0 : (0 : Int) ≤ (m : Int) := by omega
      have hk4 : ((m : Nat) : Int) < (l.length : Int) := by omega
      have hi1 : ((m : Nat) : Int).toNat = m := by omega
      have hi2 : ((k : Nat) : Int).toNat = k := by omega
      have HM := Lib.hid hm
      clear hm
      have HXX := Lib.hid hx
      have HYY := Lib.hid hy
      obtain ⟨z, hz⟩ : ∃ z, cmpR x y = z := ⟨_, rfl⟩
      have HZ := Lib.hid hz
      have HC := Lib.hid (c_compare x y z hz wr.drew)
      clear hx hy hz
      go_wp2_with (fail)
      go_region_held3 (fun X => X.cell? ⟨b, o + m * 2, none⟩ = some (.int .i64 x.svc) ∧ X.cell? ⟨b, o + m * 2 + 1, none⟩ = some (.int .i64 x.host) ∧ X.cell? ⟨b, o + k * 2, none⟩ = some (.int .i64 y.svc) ∧ X.cell? ⟨b, o + k * 2 + 1, none⟩ = some (.int .i64 y.host))
        (first | exact HF.out wr hB.out | exact HF.out w1 HB1.out | fail)
        (first
          | (go_at_call 92; refine HC.out.mono ?_; rintro e w1 ⟨rfl, bb1⟩; have HB1 := Lib.hid (below_join hB.out.drew bb1 hB.out.size); clear bb1)
          | fail)
      rcases hL : lessR x y with _ | _
      · obtain rfl : false = r := by
          rw [← HR.out]
          refine ((Bool.eq_false_iff).2 fun h => ?_).symm
          have := ascB_iff.1 h m x y HXX.out (by rw [← HM.out]; exact HYY.out)
          rw [hL] at this; cases this
        have hd : decide (0 ≤ z) = true := by rw [← HZ.out, cmpR_less, hL]; rfl
        rw [hd]
        go_wp2_with (fail)
        go_ret
        exact ⟨rfl, HB1.out⟩
      · have hd : decide (0 ≤ z) = false := by rw [← HZ.out, cmpR_less, hL]; rfl
        have HN := Lib.hid (show ∀ j a b, j + 1 < k + 1 → l[j]? = some a → l[j + 1]? = some b → lessR a b = true from fun j a b hj ha hb => by
          have hM := HM.out
          by_cases e : j + 1 < k
          · exact hasc.out j a b e ha hb
          · obtain rfl : j = m := by omega
            rw [HXX.out] at ha
            rw [← hM, HYY.out] at hb
            injection ha with ha
            injection hb with hb
            subst ha hb
            exact hL)
        rw [hd]
        go_wp2_with (fail)
        go_roundw
        case rel => exact ⟨k + 1, .inl (by omega), by omega, by go_num, HB1, HN⟩
        case measure => simp only [intOf]; omega
    · obtain rfl : true = r := by
        rw [← HR.out]
        refine (ascB_iff.2 fun i a b ha hb => hasc.out i a b ?_ ha hb).symm
        have := (List.getElem?_eq_some_iff.1 hb).1
        omega
      go_wp2_with (fail)
      go_ret
      exact ⟨rfl, hB.out⟩
end Go.Proofs.YtbbadnlaelgmlaaGreat

namespace Go.Proofs.YtbbadnlaelgmlaaGreat
open Go.RowKit
set_option maxRecDepth 100000
set_option linter.unusedVariables false
set_option linter.unusedSimpArgs false

theorem rp_fields : Tryz.prog.underlying 53 = some (.struct (Tryz.prog.fieldsOf 53)) := by kernel_rfl
theorem rp_list : (Tryz.prog.fieldsOf 53).toList.map (fun f => (f.name, f.type, f.offset)) = [("Service", 3, 0), ("Host", 3, 1)] := by kernel_rfl
theorem rp_stood : Tryz.prog.stoodInHeld 53 = false := by kernel_rfl
theorem rp_guard : Tryz.prog.eqGuardType Tryz.prog.depth 53 = false := by kernel_rfl
theorem guardRp (op : BinOp) (x y : Operand) (xs ys : Array Value) (w : World) : (eqGuard op 53 x y (.agg xs) (.agg ys)).run Tryz.prog w = .ok () w := run_eqGuard_agg w op _ x y xs ys rp_guard
theorem eqFieldsRp (a b : Int) (s t : Int) (w : World) : (Op.eqFields 9999 #[.int .i64 a, .int .i64 s] #[.int .i64 b, .int .i64 t] (Tryz.prog.fieldsOf 53).toList).run Tryz.prog w = .ok ((a == b) && (s == t)) w := by
  obtain ⟨f, g, e, h1, h2⟩ : ∃ f g : Field, (Tryz.prog.fieldsOf 53).toList = [f, g] ∧ (f.name, f.type, f.offset) = ("Service", 3, 0) ∧ (g.name, g.type, g.offset) = ("Host", 3, 1) := by
    have := rp_list
    match h : (Tryz.prog.fieldsOf 53).toList with
    | [f, g] => rw [h] at this; simp only [List.map_cons, List.map_nil, List.cons.injEq] at this; exact ⟨f, g, rfl, this.1, this.2.1⟩
    | [] => rw [h] at this; cases this
    | [f] => rw [h] at this; simp at this
    | f :: g :: i :: r => rw [h] at this; simp at this
  rw [e]
  obtain ⟨fn, ft, fo⟩ : f.name = "Service" ∧ f.type = 3 ∧ f.offset = 0 := by simpa using h1
  obtain ⟨gn, gt, go⟩ : g.name = "Host" ∧ g.type = 3 ∧ g.offset = 1 := by simpa using h2
  simp only [Op.eqFields, fn, ft, fo, gn, gt, go]
  cases hab : (a == b) <;> cases hst : (s == t) <;> simp [go_sem, hab, hst]
theorem eqlRp (a b : Int) (s t : Int) (w : World) : (binOp .eql 53 (.agg #[.int .i64 a, .int .i64 s]) (.agg #[.int .i64 b, .int .i64 t])).run Tryz.prog w = .ok (.bool ((a == b) && (s == t))) w := by
  rw [run_eql_struct, run_equalIn_agg w 9999 _ _ _ rp_fields rp_stood, eqFieldsRp]
  rfl
theorem rep_beq {x y : Rep} : ((x.svc == y.svc) && (x.host == y.host)) = decide (x = y) := by
  cases x; cases y
  rw [Bool.eq_iff_iff]
  simp
end Go.Proofs.YtbbadnlaelgmlaaGreat

namespace Go.Proofs
open Go.RowKit
set_option maxRecDepth 100000
set_option linter.unusedVariables false
set_option linter.unusedSimpArgs false
namespace YtbbadnlaelgmlaaGreat

theorem hst_info : (Tryz.prog.info? 58).map (fun i => (i.zero, i.size, i.bytes)) = some (some (.agg #[.int .u8 0, .int .i64 0]), 2, 16) := by kernel_rfl
end YtbbadnlaelgmlaaGreat
end Go.Proofs

namespace Go.Proofs.YtbbadnlaelgmlaaGreat
open Go.RowKit
set_option maxRecDepth 100000
set_option linter.unusedVariables false
set_option linter.unusedSimpArgs false

set_option maxHeartbeats 4000000 in
theorem c_badNear (x : Nr) (r : Bool) (hr : nearBad x = r) (w : World) : Calls Tryz.prog 119 #[.agg #[.int .i64 x.svc, .int .i64 x.lat]] w fun e w' => e = .returned (.bool r) ∧ Below w.heap.size w w' := by
  obtain ⟨W, hW⟩ : ∃ W, W = w.alloc (.cells #[.int .i64 x.svc, .int .i64 x.lat] 109) := ⟨_, rfl⟩
  have HB := Lib.hid (show Below w.heap.size w W by subst hW; exact (Below.refl _ _).alloc (Nat.le_refl _) _)
  have x1 : W.cell? ⟨w.heap.size, 1, none⟩ = some (.int .i64 x.lat) := by subst hW; exact cell_of (box_new _ _ _) rfl
  obtain ⟨q, hq⟩ : ∃ q, inB x.lat 0 1000000 = q := ⟨_, rfl⟩
  have HQ := Lib.hid hq
  have HR := Lib.hid (show (!q) = r by rw [← hq]; exact hr)
  clear hr hq
  generalize hA : w.heap.size = A at *
  go_enter Tryz.func119, Tryz.ntmps119
  go_wp2_with (fail)
  rw [← hW]
  clear hW
  go_wp2_with (go_at_call 41; refine (c_woIsFrom _ _ _ q HQ.out _).mono ?_; rintro e w1 ⟨rfl, rfl⟩)
  go_ret
  exact ⟨(show Ending.returned (.bool (!q)) = .returned (.bool r) by rw [HR.out]), HB.out⟩
set_option maxHeartbeats 4000000 in
theorem c_badHst (x : Hst) (r : Bool) (hr : (!hstOk x) = r) (w : World) : Calls Tryz.prog 40 #[.agg #[.int .u8 (x.phase : Int), .int .i64 x.fw]] w fun e w' => e = .returned (.bool r) ∧ Below w.heap.size w w' := by
  obtain ⟨W, hW⟩ : ∃ W, W = w.alloc (.cells #[.int .u8 (x.phase : Int), .int .i64 x.fw] 58) := ⟨_, rfl⟩
  have HB := Lib.hid (show Below w.heap.size w W by subst hW; exact (Below.refl _ _).alloc (Nat.le_refl _) _)
  have x0 : W.cell? ⟨w.heap.size, 0, none⟩ = some (.int .u8 (x.phase : Int)) := by subst hW; exact cell_of (box_new _ _ _) rfl
  have x1 : W.cell? ⟨w.heap.size, 1, none⟩ = some (.int .i64 x.fw) := by subst hW; exact cell_of (box_new _ _ _) rfl
  obtain ⟨q, hq⟩ : ∃ q, inB x.fw 0 1000000 = q := ⟨_, rfl⟩
  have HQ := Lib.hid hq
  have HR := Lib.hid (show (!(decide (x.phase ≤ 4) && q)) = r by rw [← hq]; exact hr)
  clear hr hq
  generalize hA : w.heap.size = A at *
  by_cases hp : x.phase ≤ 4
  · have hd : decide ((4 : Int) < (x.phase : Int)) = false := decide_eq_false (by omega)
    have HE := Lib.hid (show (!q) = r by have h := HR.out; rw [decide_eq_true hp] at h; exact h)
    clear hp
    go_enter Tryz.func40, Tryz.ntmps40
    go_wp2_with (fail)
    rw [← hW]
    clear hW
    go_wp2_with (go_at_call 41; refine (c_woIsFrom _ _ _ q HQ.out _).mono ?_; rintro e w1 ⟨rfl, rfl⟩)
    go_ret
    exact ⟨(show Ending.returned (.bool (!q)) = .returned (.bool r) by rw [HE.out]), HB.out⟩
  · have hd : decide ((4 : Int) < (x.phase : Int)) = true := decide_eq_true (by omega)
    obtain rfl : true = r := by have h := HR.out; rw [decide_eq_false hp] at h; exact h
    clear hp
    go_enter Tryz.func40, Tryz.ntmps40
    go_wp2_with (fail)
    rw [← hW]
    clear hW
    go_wp2_with (fail)
    go_ret
    exact ⟨rfl, HB.out⟩
set_option maxHeartbeats 4000000 in
theorem c_badRep (wb sb : Nat) (p : SP) (s : SiteD) (WA : Option Addr) (n wc : Nat) (x : Rep) (r : Bool) (hr : (!repOk n s.hosts.length x) = r) (w : World) (hw : WiBox w wb WA n wc) (hs : SiBox w sb p s) :
    Calls Tryz.prog 42 #[.agg #[.int .i64 x.svc, .int .i64 x.host], .pointer (some ⟨wb, 0, none⟩), .pointer (some ⟨sb, 0, none⟩)] w fun e w' => e = .returned (.bool r) ∧ Below w.heap.size w w' := by
  obtain ⟨W, hW⟩ : ∃ W, W = w.alloc (.cells #[.int .i64 x.svc, .int .i64 x.host] 53) := ⟨_, rfl⟩
  have B0 : Below w.heap.size w W := by subst hW; exact (Below.refl _ _).alloc (Nat.le_refl _) _
  have HB := Lib.hid B0
  have x0 : W.cell? ⟨w.heap.size, 0, none⟩ = some (.int .i64 x.svc) := by subst hW; exact cell_of (box_new _ _ _) rfl
  have x1 : W.cell? ⟨w.heap.size, 1, none⟩ = some (.int .i64 x.host) := by subst hW; exact cell_of (box_new _ _ _) rfl
  have y0 := (hw.on B0 (Nat.le_refl _)).c0
  have y1 := (hs.on B0 (Nat.le_refl _)).c6
  obtain ⟨q1, hq1⟩ : ∃ q, ixB x.svc (n : Int) = q := ⟨_, rfl⟩
  obtain ⟨q2, hq2⟩ : ∃ q, ixB x.host (s.hosts.length : Int) = q := ⟨_, rfl⟩
  have HQ1 := Lib.hid hq1
  have HQ2 := Lib.hid hq2
  have HR := Lib.hid (show (!(q1 && q2)) = r by rw [← hq1, ← hq2]; exact hr)
  clear hr hq1 hq2 hw hs B0
  generalize hA : w.heap.size = A at *
  cases q1
  · obtain rfl : true = r := by have h := HR.out; exact h
    rw [hW] at x0 x1 y0 y1
    go_enter Tryz.func42, Tryz.ntmps42
    go_wp2_with (fail)
    rw [← hW] at x0 x1 y0 y1 ⊢
    clear hW
    go_at_call 43
    refine (c_woIsIndex _ _ false HQ1.out _).mono ?_
    rintro e w1 ⟨rfl, rfl⟩
    go_wp2_with (fail)
    go_ret
    exact ⟨rfl, HB.out⟩
  · have HE := Lib.hid (show (!q2) = r by have h := HR.out; exact h)
    rw [hW] at x0 x1 y0 y1
    go_enter Tryz.func42, Tryz.ntmps42
    go_wp2_with (fail)
    rw [← hW] at x0 x1 y0 y1 ⊢
    clear hW
    go_at_call 43
    refine (c_woIsIndex _ _ true HQ1.out _).mono ?_
    rintro e w1 ⟨rfl, rfl⟩
    go_wp2_with (fail)
    go_at_call 43
    refine (c_woIsIndex _ _ q2 HQ2.out _).mono ?_
    rintro e w1 ⟨rfl, rfl⟩
    go_wp2_with (fail)
    go_ret
    exact ⟨(show Ending.returned (.bool (!q2)) = .returned (.bool r) by rw [HE.out]), HB.out⟩
set_option maxHeartbeats 4000000 in
theorem c_IF_Near (A : Option Addr) (c : Nat) (l : List Nr) (w : World) (h : Rv 2 nrV w A c l) (y : Int) (hy : fidx nearBad l = y) :
    Calls Tryz.prog 149 #[.slice A l.length c, .func (.func 119) #[] #[]] w fun e w' => e = .returned (.int .i64 y) ∧ Below w.heap.size w w' := by
  have H := Lib.hid h
  have HY := Lib.hid hy
  have hc1 := h.1
  have hc2 := h.2.1
  unfold maxLen at hc2
  clear h hy
  go_enter Tryz.func149, Tryz.ntmps149
  go_wp2_with (fail)
  go_loopw [8] (fun i wr => ∃ k : Nat, k ≤ l.length ∧ i = .int .i64 (k : Int) ∧ Hid (∀ i y, i < k → l[i]? = some y → nearBad y = false) ∧ Hid (Below w.heap.size w wr)) (fun i _ => l.length - (intOf i).toNat)
  case atStart => exact ⟨0, Nat.zero_le _, rfl, Lib.hid (fun i y hi => absurd hi (by omega)), Lib.hid (Below.refl _ _)⟩
  case round =>
    obtain ⟨k, hk, rfl, hun, hB⟩ := hrel
    by_cases hlt : k < l.length
    · obtain ⟨⟨z0, z1⟩, hx⟩ : ∃ x, l[k]? = some x := ⟨_, List.getElem?_eq_getElem hlt⟩
      have HK := H.out
      obtain ⟨pb, o, rfl, -, -⟩ := HK.at_ hx
      obtain ⟨y0, y1⟩ := near_at (HK.on hB.out (Nat.le_refl _)) hx
      have HXX := Lib.hid hx
      have hki : ((k : Nat) : Int).toNat = k := by omega
      have hlt' : (k : Int) < ((l.length : Nat) : Int) := by omega
      have HC := Lib.hid (fun (r : Bool) (hr : nearBad ⟨z0, z1⟩ = r) => c_badNear ⟨z0, z1⟩ r hr wr)
      clear hx HK
      rcases hp : nearBad ⟨z0, z1⟩ with _ | _
      · have HP := Lib.hid hp
        clear hp
        go_wp2_with (go_at_call 119; refine (HC.out _ HP.out).mono ?_; rintro e w1 ⟨rfl, b1⟩; have HB1 := Lib.hid (below_join hB.out b1 hB.out.size); clear b1 y0 y1)
        go_roundw
        case rel => exact ⟨k + 1, by omega, by go_num, Lib.hid (fun i y hi hy => by
          rcases Nat.lt_or_ge i k with h | h
          · exact hun.out i y h hy
          · obtain rfl : i = k := by omega
            have := HXX.out
            rw [hy] at this
            injection this with this
            subst this
            exact HP.out), HB1⟩
        case measure => simp only [intOf]; omega
      · have HKY := Lib.hid (show (k : Int) = y by rw [← HY.out]; exact (fidx_at _ l k _ hun.out HXX.out hp).symm)
        have HP := Lib.hid hp
        clear hp
        go_wp2_with (go_at_call 119; refine (HC.out _ HP.out).mono ?_; rintro e w1 ⟨rfl, b1⟩; have HB1 := Lib.hid (below_join hB.out b1 hB.out.size); clear b1 y0 y1)
        go_ret
        exact ⟨(show Ending.returned (.int .i64 (k : Int)) = .returned (.int .i64 y) by rw [HKY.out]), HB1.out⟩
    · obtain rfl : k = l.length := by omega
      have HKY := Lib.hid (show (-1 : Int) = y by rw [← HY.out, fidx_none _ l (fun i y hy => hun.out i y (List.getElem?_eq_some_iff.1 hy).1 hy)])
      go_wp2_with (fail)
      go_ret
      exact ⟨(show Ending.returned (.int .i64 (-1)) = .returned (.int .i64 y) by rw [HKY.out]), hB.out⟩
set_option maxHeartbeats 4000000 in
theorem c_CF_Near (A : Option Addr) (c : Nat) (l : List Nr) (w : World) (h : Rv 2 nrV w A c l) (r : Bool) (hr : l.any nearBad = r) :
    Calls Tryz.prog 120 #[.slice A l.length c, .func (.func 119) #[] #[]] w fun e w' => e = .returned (.bool r) ∧ Below w.heap.size w w' := by
  obtain ⟨y, hy⟩ : ∃ y, fidx nearBad l = y := ⟨_, rfl⟩
  have HC := Lib.hid (c_IF_Near A c l w h y hy)
  have HR := Lib.hid (show decide (0 ≤ y) = r by rw [← hy, fidx_any, hr])
  clear hy hr h
  go_enter Tryz.func120, Tryz.ntmps120
  go_wp2_with (go_at_call 149; refine HC.out.mono ?_; rintro e w1 ⟨rfl, b1⟩; have HB1 := Lib.hid b1; clear b1)
  go_ret
  exact ⟨(show Ending.returned (.bool (decide (0 ≤ y))) = .returned (.bool r) by rw [HR.out]), HB1.out⟩
set_option maxHeartbeats 4000000 in
theorem c_IF_HostState (A : Option Addr) (c : Nat) (l : List Hst) (w : World) (h : Rv 2 hstV w A c l) (y : Int) (hy : fidx (fun x => !hstOk x) l = y) :
    Calls Tryz.prog 90 #[.slice A l.length c, .func (.func 40) #[] #[]] w fun e w' => e = .returned (.int .i64 y) ∧ Below w.heap.size w w' := by
  have H := Lib.hid h
  have HY := Lib.hid hy
  have hc1 := h.1
  have hc2 := h.2.1
  unfold maxLen at hc2
  clear h hy
  go_enter Tryz.func90, Tryz.ntmps90
  go_wp2_with (fail)
  go_loopw [8] (fun i wr => ∃ k : Nat, k ≤ l.length ∧ i = .int .i64 (k : Int) ∧ Hid (∀ i y, i < k → l[i]? = some y → (fun x => !hstOk x) y = false) ∧ Hid (Below w.heap.size w wr)) (fun i _ => l.length - (intOf i).toNat)
  case atStart => exact ⟨0, Nat.zero_le _, rfl, Lib.hid (fun i y hi => absurd hi (by omega)), Lib.hid (Below.refl _ _)⟩
  case round =>
    obtain ⟨k, hk, rfl, hun, hB⟩ := hrel
    by_cases hlt : k < l.length
    · obtain ⟨⟨z0, z1⟩, hx⟩ : ∃ x, l[k]? = some x := ⟨_, List.getElem?_eq_getElem hlt⟩
      have HK := H.out
      obtain ⟨pb, o, rfl, -, -⟩ := HK.at_ hx
      obtain ⟨y0, y1⟩ := hst_at (HK.on hB.out (Nat.le_refl _)) hx
      have HXX := Lib.hid hx
      have hki : ((k : Nat) : Int).toNat = k := by omega
      have hlt' : (k : Int) < ((l.length : Nat) : Int) := by omega
      have HC := Lib.hid (fun (r : Bool) (hr : (fun x => !hstOk x) ⟨z0, z1⟩ = r) => c_badHst ⟨z0, z1⟩ r hr wr)
      clear hx HK
      rcases hp : (fun x => !hstOk x) ⟨z0, z1⟩ with _ | _
      · have HP := Lib.hid hp
        clear hp
        go_wp2_with (go_at_call 40; refine (HC.out _ HP.out).mono ?_; rintro e w1 ⟨rfl, b1⟩; have HB1 := Lib.hid (below_join hB.out b1 hB.out.size); clear b1 y0 y1)
        go_roundw
        case rel => exact ⟨k + 1, by omega, by go_num, Lib.hid (fun i y hi hy => by
          rcases Nat.lt_or_ge i k with h | h
          · exact hun.out i y h hy
          · obtain rfl : i = k := by omega
            have := HXX.out
            rw [hy] at this
            injection this with this
            subst this
            exact HP.out), HB1⟩
        case measure => simp only [intOf]; omega
      · have HKY := Lib.hid (show (k : Int) = y by rw [← HY.out]; exact (fidx_at _ l k _ hun.out HXX.out hp).symm)
        have HP := Lib.hid hp
        clear hp
        go_wp2_with (go_at_call 40; refine (HC.out _ HP.out).mono ?_; rintro e w1 ⟨rfl, b1⟩; have HB1 := Lib.hid (below_join hB.out b1 hB.out.size); clear b1 y0 y1)
        go_ret
        exact ⟨(show Ending.returned (.int .i64 (k : Int)) = .returned (.int .i64 y) by rw [HKY.out]), HB1.out⟩
    · obtain rfl : k = l.length := by omega
      have HKY := Lib.hid (show (-1 : Int) = y by rw [← HY.out, fidx_none _ l (fun i y hy => hun.out i y (List.getElem?_eq_some_iff.1 hy).1 hy)])
      go_wp2_with (fail)
      go_ret
      exact ⟨(show Ending.returned (.int .i64 (-1)) = .returned (.int .i64 y) by rw [HKY.out]), hB.out⟩
set_option maxHeartbeats 4000000 in
theorem c_CF_HostState (A : Option Addr) (c : Nat) (l : List Hst) (w : World) (h : Rv 2 hstV w A c l) (r : Bool) (hr : l.any (fun x => !hstOk x) = r) :
    Calls Tryz.prog 46 #[.slice A l.length c, .func (.func 40) #[] #[]] w fun e w' => e = .returned (.bool r) ∧ Below w.heap.size w w' := by
  obtain ⟨y, hy⟩ : ∃ y, fidx (fun x => !hstOk x) l = y := ⟨_, rfl⟩
  have HC := Lib.hid (c_IF_HostState A c l w h y hy)
  have HR := Lib.hid (show decide (0 ≤ y) = r by rw [← hy, fidx_any, hr])
  clear hy hr h
  go_enter Tryz.func46, Tryz.ntmps46
  go_wp2_with (go_at_call 90; refine HC.out.mono ?_; rintro e w1 ⟨rfl, b1⟩; have HB1 := Lib.hid b1; clear b1)
  go_ret
  exact ⟨(show Ending.returned (.bool (decide (0 ≤ y))) = .returned (.bool r) by rw [HR.out]), HB1.out⟩
set_option maxHeartbeats 4000000 in
theorem c_IF_Replica (wb sb : Nat) (p : SP) (s : SiteD) (WA : Option Addr) (n wc : Nat) (A : Option Addr) (c : Nat) (l : List Rep) (w : World) (hw : WiBox w wb WA n wc) (hs : SiBox w sb p s) (h : Rv 2 repV w A c l) (y : Int) (hy : fidx (fun x => !repOk n s.hosts.length x) l = y) :
    Calls Tryz.prog 91 #[.slice A l.length c, .func (.func 42) #[] #[.pointer (some ⟨wb, 0, none⟩), .pointer (some ⟨sb, 0, none⟩)]] w fun e w' => e = .returned (.int .i64 y) ∧ Below w.heap.size w w' := by
  have H := Lib.hid h
  have HY := Lib.hid hy
  have hc1 := h.1
  have hc2 := h.2.1
  unfold maxLen at hc2
  have HW := Lib.hid hw
  have HS := Lib.hid hs
  clear h hy hw hs
  go_enter Tryz.func91, Tryz.ntmps91
  go_wp2_with (fail)
  go_loopw [8] (fun i wr => ∃ k : Nat, k ≤ l.length ∧ i = .int .i64 (k : Int) ∧ Hid (∀ i y, i < k → l[i]? = some y → (fun x => !repOk n s.hosts.length x) y = false) ∧ Hid (Below w.heap.size w wr)) (fun i _ => l.length - (intOf i).toNat)
  case atStart => exact ⟨0, Nat.zero_le _, rfl, Lib.hid (fun i y hi => absurd hi (by omega)), Lib.hid (Below.refl _ _)⟩
  case round =>
    obtain ⟨k, hk, rfl, hun, hB⟩ := hrel
    by_cases hlt : k < l.length
    · obtain ⟨⟨z0, z1⟩, hx⟩ : ∃ x, l[k]? = some x := ⟨_, List.getElem?_eq_getElem hlt⟩
      have HK := H.out
      obtain ⟨pb, o, rfl, -, -⟩ := HK.at_ hx
      obtain ⟨y0, y1⟩ := rep_at (HK.on hB.out (Nat.le_refl _)) hx
      have HXX := Lib.hid hx
      have hki : ((k : Nat) : Int).toNat = k := by omega
      have hlt' : (k : Int) < ((l.length : Nat) : Int) := by omega
      have HC := Lib.hid (fun (r : Bool) (hr : (fun x => !repOk n s.hosts.length x) ⟨z0, z1⟩ = r) => c_badRep wb sb p s WA n wc ⟨z0, z1⟩ r hr wr (HW.out.on hB.out (Nat.le_refl _)) (HS.out.on hB.out (Nat.le_refl _)))
      clear hx HK
      rcases hp : (fun x => !repOk n s.hosts.length x) ⟨z0, z1⟩ with _ | _
      · have HP := Lib.hid hp
        clear hp
        go_wp2_with (go_at_call 42; refine (HC.out _ HP.out).mono ?_; rintro e w1 ⟨rfl, b1⟩; have HB1 := Lib.hid (below_join hB.out b1 hB.out.size); clear b1 y0 y1)
        go_roundw
        case rel => exact ⟨k + 1, by omega, by go_num, Lib.hid (fun i y hi hy => by
          rcases Nat.lt_or_ge i k with h | h
          · exact hun.out i y h hy
          · obtain rfl : i = k := by omega
            have := HXX.out
            rw [hy] at this
            injection this with this
            subst this
            exact HP.out), HB1⟩
        case measure => simp only [intOf]; omega
      · have HKY := Lib.hid (show (k : Int) = y by rw [← HY.out]; exact (fidx_at _ l k _ hun.out HXX.out hp).symm)
        have HP := Lib.hid hp
        clear hp
        go_wp2_with (go_at_call 42; refine (HC.out _ HP.out).mono ?_; rintro e w1 ⟨rfl, b1⟩; have HB1 := Lib.hid (below_join hB.out b1 hB.out.size); clear b1 y0 y1)
        go_ret
        exact ⟨(show Ending.returned (.int .i64 (k : Int)) = .returned (.int .i64 y) by rw [HKY.out]), HB1.out⟩
    · obtain rfl : k = l.length := by omega
      have HKY := Lib.hid (show (-1 : Int) = y by rw [← HY.out, fidx_none _ l (fun i y hy => hun.out i y (List.getElem?_eq_some_iff.1 hy).1 hy)])
      go_wp2_with (fail)
      go_ret
      exact ⟨(show Ending.returned (.int .i64 (-1)) = .returned (.int .i64 y) by rw [HKY.out]), hB.out⟩
set_option maxHeartbeats 4000000 in
theorem c_CF_Replica (wb sb : Nat) (p : SP) (s : SiteD) (WA : Option Addr) (n wc : Nat) (A : Option Addr) (c : Nat) (l : List Rep) (w : World) (hw : WiBox w wb WA n wc) (hs : SiBox w sb p s) (h : Rv 2 repV w A c l) (r : Bool) (hr : l.any (fun x => !repOk n s.hosts.length x) = r) :
    Calls Tryz.prog 47 #[.slice A l.length c, .func (.func 42) #[] #[.pointer (some ⟨wb, 0, none⟩), .pointer (some ⟨sb, 0, none⟩)]] w fun e w' => e = .returned (.bool r) ∧ Below w.heap.size w w' := by
  obtain ⟨y, hy⟩ : ∃ y, fidx (fun x => !repOk n s.hosts.length x) l = y := ⟨_, rfl⟩
  have HC := Lib.hid (c_IF_Replica wb sb p s WA n wc A c l w hw hs h y hy)
  have HR := Lib.hid (show decide (0 ≤ y) = r by rw [← hy, fidx_any, hr])
  clear hy hr h hw hs
  go_enter Tryz.func47, Tryz.ntmps47
  go_wp2_with (go_at_call 91; refine HC.out.mono ?_; rintro e w1 ⟨rfl, b1⟩; have HB1 := Lib.hid b1; clear b1)
  go_ret
  exact ⟨(show Ending.returned (.bool (decide (0 ≤ y))) = .returned (.bool r) by rw [HR.out]), HB1.out⟩
end Go.Proofs.YtbbadnlaelgmlaaGreat

namespace Go.Proofs.YtbbadnlaelgmlaaGreat
open Go.RowKit
set_option maxRecDepth 100000
set_option linter.unusedVariables false
set_option linter.unusedSimpArgs false

set_option maxHeartbeats 8000000 in
theorem c_keeps0 (x : Svc × SvA) (hd : x.1.dom = 0) (r : Bool) (hr : keepB x.1 = r) (w : World) (h : SvAt w x) :
    Calls Tryz.prog 88 #[.agg (svA x)] w fun e w' => e = .returned (.bool r) ∧ Below w.heap.size w w' := by
  unfold svA
  obtain ⟨W, hW⟩ : ∃ W, W = w.alloc (.cells (svA x) 94) := ⟨_, rfl⟩
  have B0 : Below w.heap.size w W := by subst hW; exact (Below.refl _ _).alloc (Nat.le_refl _) _
  have HB := Lib.hid B0
  have HX : W.heap[w.heap.size]? = some (.cells (svA x) 94 (0, 0)) := by subst hW; exact box_new _ _ _
  have x0 : W.cell? ⟨w.heap.size, 0, none⟩ = some (.int .i64 x.1.cores) := cell_of HX rfl
  have x1 : W.cell? ⟨w.heap.size, 1, none⟩ = some (.int .i64 x.1.reps) := cell_of HX rfl
  have x2 : W.cell? ⟨w.heap.size, 2, none⟩ = some (.int .i64 x.1.least) := cell_of HX rfl
  have x3 : W.cell? ⟨w.heap.size, 3, none⟩ = some (.int .u8 (x.1.dom : Int)) := cell_of HX rfl
  have x4 : W.cell? ⟨w.heap.size, 4, none⟩ = some (.int .i64 x.1.spread) := cell_of HX rfl
  have x6 : W.cell? ⟨w.heap.size, 6, none⟩ = some (.slice x.2.a2 x.1.near.length x.2.c2) := cell_of HX rfl
  have x7 : W.cell? ⟨w.heap.size, 7, none⟩ = some (.int .i64 x.1.fw) := cell_of HX rfl
  have HN := Lib.hid (h.near.on B0 (Nat.le_refl _))
  have HR := Lib.hid (show (inB x.1.cores 1 1000 && (inB x.1.reps 0 24 && (inB x.1.least 0 x.1.reps && (inB x.1.fw 0 1000000 && (decide (x.1.dom ≤ 5) && (inB x.1.spread 0 0 && !x.1.near.any nearBad)))))) = r by unfold keepB at hr; simp only [if_pos hd] at hr; exact hr)
  have hd0 : ((x.1.dom : Int) == 0) = true := by rw [hd]; rfl
  clear hr h HX B0 hd
  generalize hA : w.heap.size = A at *
  unfold svA at hW
  rw [hW] at x0 x1 x2 x3 x4 x6 x7
  go_enter Tryz.func88, Tryz.ntmps88
  go_wp2_with (fail)
  rw [← hW] at x0 x1 x2 x3 x4 x6 x7 ⊢
  clear hW
  obtain ⟨r0, h0⟩ : ∃ b, inB x.1.cores 1 1000 = b := ⟨_, rfl⟩
  have Q0 := Lib.hid h0
  clear h0
  go_at_call 41
  refine (c_woIsFrom 1 1000 x.1.cores r0 Q0.out W).mono ?_
  rintro e wx ⟨rfl, hwx⟩
  rw [hwx]
  clear hwx wx
  cases r0
  · obtain rfl : false = r := by have h := HR.out; rw [show (inB x.1.cores 1 1000) = false from Q0.out] at h; exact h
    go_wp2_with (fail)
    go_ret
    exact ⟨rfl, HB.out⟩
  go_wp2_with (fail)
  obtain ⟨r1, h1⟩ : ∃ b, inB x.1.reps 0 24 = b := ⟨_, rfl⟩
  have Q1 := Lib.hid h1
  clear h1
  go_at_call 41
  refine (c_woIsFrom 0 24 x.1.reps r1 Q1.out W).mono ?_
  rintro e wx ⟨rfl, hwx⟩
  rw [hwx]
  clear hwx wx
  cases r1
  · obtain rfl : false = r := by have h := HR.out; rw [show (inB x.1.cores 1 1000) = true from Q0.out, show (inB x.1.reps 0 24) = false from Q1.out] at h; exact h
    go_wp2_with (fail)
    go_ret
    exact ⟨rfl, HB.out⟩
  go_wp2_with (fail)
  obtain ⟨r2, h2⟩ : ∃ b, inB x.1.least 0 x.1.reps = b := ⟨_, rfl⟩
  have Q2 := Lib.hid h2
  clear h2
  go_at_call 41
  refine (c_woIsFrom 0 x.1.reps x.1.least r2 Q2.out W).mono ?_
  rintro e wx ⟨rfl, hwx⟩
  rw [hwx]
  clear hwx wx
  cases r2
  · obtain rfl : false = r := by have h := HR.out; rw [show (inB x.1.cores 1 1000) = true from Q0.out, show (inB x.1.reps 0 24) = true from Q1.out, show (inB x.1.least 0 x.1.reps) = false from Q2.out] at h; exact h
    go_wp2_with (fail)
    go_ret
    exact ⟨rfl, HB.out⟩
  go_wp2_with (fail)
  obtain ⟨r3, h3⟩ : ∃ b, inB x.1.fw 0 1000000 = b := ⟨_, rfl⟩
  have Q3 := Lib.hid h3
  clear h3
  go_at_call 41
  refine (c_woIsFrom 0 1000000 x.1.fw r3 Q3.out W).mono ?_
  rintro e wx ⟨rfl, hwx⟩
  rw [hwx]
  clear hwx wx
  cases r3
  · obtain rfl : false = r := by have h := HR.out; rw [show (inB x.1.cores 1 1000) = true from Q0.out, show (inB x.1.reps 0 24) = true from Q1.out, show (inB x.1.least 0 x.1.reps) = true from Q2.out, show (inB x.1.fw 0 1000000) = false from Q3.out] at h; exact h
    go_wp2_with (fail)
    go_ret
    exact ⟨rfl, HB.out⟩
  obtain ⟨r4, h4⟩ : ∃ b, decide (x.1.dom ≤ 5) = b := ⟨_, rfl⟩
  have Q4 := Lib.hid h4
  have hd5 : decide ((x.1.dom : Int) ≤ 5) = r4 := by rw [← h4]; exact decide_eq_decide.2 (by omega)
  clear h4
  cases r4
  · obtain rfl : false = r := by have h := HR.out; rw [show (inB x.1.cores 1 1000) = true from Q0.out, show (inB x.1.reps 0 24) = true from Q1.out, show (inB x.1.least 0 x.1.reps) = true from Q2.out, show (inB x.1.fw 0 1000000) = true from Q3.out, show (decide (x.1.dom ≤ 5)) = false from Q4.out] at h; exact h
    go_wp2_with (fail)
    go_ret
    exact ⟨rfl, HB.out⟩
  go_wp2_with (fail)
  obtain ⟨r5, h5⟩ : ∃ b, inB x.1.spread 0 0 = b := ⟨_, rfl⟩
  have Q5 := Lib.hid h5
  clear h5
  go_at_call 41
  refine (c_woIsFrom 0 0 x.1.spread r5 Q5.out W).mono ?_
  rintro e wx ⟨rfl, hwx⟩
  rw [hwx]
  clear hwx wx
  cases r5
  · obtain rfl : false = r := by have h := HR.out; rw [show (inB x.1.cores 1 1000) = true from Q0.out, show (inB x.1.reps 0 24) = true from Q1.out, show (inB x.1.least 0 x.1.reps) = true from Q2.out, show (inB x.1.fw 0 1000000) = true from Q3.out, show (decide (x.1.dom ≤ 5)) = true from Q4.out, show (inB x.1.spread 0 0) = false from Q5.out] at h; exact h
    go_wp2_with (fail)
    go_ret
    exact ⟨rfl, HB.out⟩
  go_wp2_with (fail)
  obtain ⟨r6, h6⟩ : ∃ b, x.1.near.any nearBad = b := ⟨_, rfl⟩
  have Q6 := Lib.hid h6
  clear h6
  go_at_call 120
  refine (c_CF_Near x.2.a2 x.2.c2 x.1.near W HN.out r6 Q6.out).mono ?_
  rintro e w1 ⟨rfl, b1⟩
  have HB1 := Lib.hid (below_join HB.out b1 (by rw [← hA]; exact HB.out.size))
  clear b1
  cases r6
  · obtain rfl : true = r := by have h := HR.out; rw [show (inB x.1.cores 1 1000) = true from Q0.out, show (inB x.1.reps 0 24) = true from Q1.out, show (inB x.1.least 0 x.1.reps) = true from Q2.out, show (inB x.1.fw 0 1000000) = true from Q3.out, show (decide (x.1.dom ≤ 5)) = true from Q4.out, show (inB x.1.spread 0 0) = true from Q5.out, show (x.1.near.any nearBad) = false from Q6.out] at h; exact h
    go_wp2_with (fail)
    go_ret
    exact ⟨rfl, HB1.out⟩
  · obtain rfl : false = r := by have h := HR.out; rw [show (inB x.1.cores 1 1000) = true from Q0.out, show (inB x.1.reps 0 24) = true from Q1.out, show (inB x.1.least 0 x.1.reps) = true from Q2.out, show (inB x.1.fw 0 1000000) = true from Q3.out, show (decide (x.1.dom ≤ 5)) = true from Q4.out, show (inB x.1.spread 0 0) = true from Q5.out, show (x.1.near.any nearBad) = true from Q6.out] at h; exact h
    go_wp2_with (fail)
    go_ret
    exact ⟨rfl, HB1.out⟩
set_option maxHeartbeats 8000000 in
theorem c_keeps1 (x : Svc × SvA) (hd : x.1.dom ≠ 0) (r : Bool) (hr : keepB x.1 = r) (w : World) (h : SvAt w x) :
    Calls Tryz.prog 88 #[.agg (svA x)] w fun e w' => e = .returned (.bool r) ∧ Below w.heap.size w w' := by
  unfold svA
  obtain ⟨W, hW⟩ : ∃ W, W = w.alloc (.cells (svA x) 94) := ⟨_, rfl⟩
  have B0 : Below w.heap.size w W := by subst hW; exact (Below.refl _ _).alloc (Nat.le_refl _) _
  have HB := Lib.hid B0
  have HX : W.heap[w.heap.size]? = some (.cells (svA x) 94 (0, 0)) := by subst hW; exact box_new _ _ _
  have x0 : W.cell? ⟨w.heap.size, 0, none⟩ = some (.int .i64 x.1.cores) := cell_of HX rfl
  have x1 : W.cell? ⟨w.heap.size, 1, none⟩ = some (.int .i64 x.1.reps) := cell_of HX rfl
  have x2 : W.cell? ⟨w.heap.size, 2, none⟩ = some (.int .i64 x.1.least) := cell_of HX rfl
  have x3 : W.cell? ⟨w.heap.size, 3, none⟩ = some (.int .u8 (x.1.dom : Int)) := cell_of HX rfl
  have x4 : W.cell? ⟨w.heap.size, 4, none⟩ = some (.int .i64 x.1.spread) := cell_of HX rfl
  have x6 : W.cell? ⟨w.heap.size, 6, none⟩ = some (.slice x.2.a2 x.1.near.length x.2.c2) := cell_of HX rfl
  have x7 : W.cell? ⟨w.heap.size, 7, none⟩ = some (.int .i64 x.1.fw) := cell_of HX rfl
  have HN := Lib.hid (h.near.on B0 (Nat.le_refl _))
  have HR := Lib.hid (show (inB x.1.cores 1 1000 && (inB x.1.reps 0 24 && (inB x.1.least 0 x.1.reps && (inB x.1.fw 0 1000000 && (decide (x.1.dom ≤ 5) && (inB x.1.spread 1 24 && !x.1.near.any nearBad)))))) = r by unfold keepB at hr; simp only [if_neg hd] at hr; exact hr)
  have hd0 : ((x.1.dom : Int) == 0) = false := by simpa using hd
  clear hr h HX B0 hd
  generalize hA : w.heap.size = A at *
  unfold svA at hW
  rw [hW] at x0 x1 x2 x3 x4 x6 x7
  go_enter Tryz.func88, Tryz.ntmps88
  go_wp2_with (fail)
  rw [← hW] at x0 x1 x2 x3 x4 x6 x7 ⊢
  clear hW
  obtain ⟨r0, h0⟩ : ∃ b, inB x.1.cores 1 1000 = b := ⟨_, rfl⟩
  have Q0 := Lib.hid h0
  clear h0
  go_at_call 41
  refine (c_woIsFrom 1 1000 x.1.cores r0 Q0.out W).mono ?_
  rintro e wx ⟨rfl, hwx⟩
  rw [hwx]
  clear hwx wx
  cases r0
  · obtain rfl : false = r := by have h := HR.out; rw [show (inB x.1.cores 1 1000) = false from Q0.out] at h; exact h
    go_wp2_with (fail)
    go_ret
    exact ⟨rfl, HB.out⟩
  go_wp2_with (fail)
  obtain ⟨r1, h1⟩ : ∃ b, inB x.1.reps 0 24 = b := ⟨_, rfl⟩
  have Q1 := Lib.hid h1
  clear h1
  go_at_call 41
  refine (c_woIsFrom 0 24 x.1.reps r1 Q1.out W).mono ?_
  rintro e wx ⟨rfl, hwx⟩
  rw [hwx]
  clear hwx wx
  cases r1
  · obtain rfl : false = r := by have h := HR.out; rw [show (inB x.1.cores 1 1000) = true from Q0.out, show (inB x.1.reps 0 24) = false from Q1.out] at h; exact h
    go_wp2_with (fail)
    go_ret
    exact ⟨rfl, HB.out⟩
  go_wp2_with (fail)
  obtain ⟨r2, h2⟩ : ∃ b, inB x.1.least 0 x.1.reps = b := ⟨_, rfl⟩
  have Q2 := Lib.hid h2
  clear h2
  go_at_call 41
  refine (c_woIsFrom 0 x.1.reps x.1.least r2 Q2.out W).mono ?_
  rintro e wx ⟨rfl, hwx⟩
  rw [hwx]
  clear hwx wx
  cases r2
  · obtain rfl : false = r := by have h := HR.out; rw [show (inB x.1.cores 1 1000) = true from Q0.out, show (inB x.1.reps 0 24) = true from Q1.out, show (inB x.1.least 0 x.1.reps) = false from Q2.out] at h; exact h
    go_wp2_with (fail)
    go_ret
    exact ⟨rfl, HB.out⟩
  go_wp2_with (fail)
  obtain ⟨r3, h3⟩ : ∃ b, inB x.1.fw 0 1000000 = b := ⟨_, rfl⟩
  have Q3 := Lib.hid h3
  clear h3
  go_at_call 41
  refine (c_woIsFrom 0 1000000 x.1.fw r3 Q3.out W).mono ?_
  rintro e wx ⟨rfl, hwx⟩
  rw [hwx]
  clear hwx wx
  cases r3
  · obtain rfl : false = r := by have h := HR.out; rw [show (inB x.1.cores 1 1000) = true from Q0.out, show (inB x.1.reps 0 24) = true from Q1.out, show (inB x.1.least 0 x.1.reps) = true from Q2.out, show (inB x.1.fw 0 1000000) = false from Q3.out] at h; exact h
    go_wp2_with (fail)
    go_ret
    exact ⟨rfl, HB.out⟩
  obtain ⟨r4, h4⟩ : ∃ b, decide (x.1.dom ≤ 5) = b := ⟨_, rfl⟩
  have Q4 := Lib.hid h4
  have hd5 : decide ((x.1.dom : Int) ≤ 5) = r4 := by rw [← h4]; exact decide_eq_decide.2 (by omega)
  clear h4
  cases r4
  · obtain rfl : false = r := by have h := HR.out; rw [show (inB x.1.cores 1 1000) = true from Q0.out, show (inB x.1.reps 0 24) = true from Q1.out, show (inB x.1.least 0 x.1.reps) = true from Q2.out, show (inB x.1.fw 0 1000000) = true from Q3.out, show (decide (x.1.dom ≤ 5)) = false from Q4.out] at h; exact h
    go_wp2_with (fail)
    go_ret
    exact ⟨rfl, HB.out⟩
  go_wp2_with (fail)
  obtain ⟨r5, h5⟩ : ∃ b, inB x.1.spread 1 24 = b := ⟨_, rfl⟩
  have Q5 := Lib.hid h5
  clear h5
  go_at_call 41
  refine (c_woIsFrom 1 24 x.1.spread r5 Q5.out W).mono ?_
  rintro e wx ⟨rfl, hwx⟩
  rw [hwx]
  clear hwx wx
  cases r5
  · obtain rfl : false = r := by have h := HR.out; rw [show (inB x.1.cores 1 1000) = true from Q0.out, show (inB x.1.reps 0 24) = true from Q1.out, show (inB x.1.least 0 x.1.reps) = true from Q2.out, show (inB x.1.fw 0 1000000) = true from Q3.out, show (decide (x.1.dom ≤ 5)) = true from Q4.out, show (inB x.1.spread 1 24) = false from Q5.out] at h; exact h
    go_wp2_with (fail)
    go_ret
    exact ⟨rfl, HB.out⟩
  go_wp2_with (fail)
  obtain ⟨r6, h6⟩ : ∃ b, x.1.near.any nearBad = b := ⟨_, rfl⟩
  have Q6 := Lib.hid h6
  clear h6
  go_at_call 120
  refine (c_CF_Near x.2.a2 x.2.c2 x.1.near W HN.out r6 Q6.out).mono ?_
  rintro e w1 ⟨rfl, b1⟩
  have HB1 := Lib.hid (below_join HB.out b1 (by rw [← hA]; exact HB.out.size))
  clear b1
  cases r6
  · obtain rfl : true = r := by have h := HR.out; rw [show (inB x.1.cores 1 1000) = true from Q0.out, show (inB x.1.reps 0 24) = true from Q1.out, show (inB x.1.least 0 x.1.reps) = true from Q2.out, show (inB x.1.fw 0 1000000) = true from Q3.out, show (decide (x.1.dom ≤ 5)) = true from Q4.out, show (inB x.1.spread 1 24) = true from Q5.out, show (x.1.near.any nearBad) = false from Q6.out] at h; exact h
    go_wp2_with (fail)
    go_ret
    exact ⟨rfl, HB1.out⟩
  · obtain rfl : false = r := by have h := HR.out; rw [show (inB x.1.cores 1 1000) = true from Q0.out, show (inB x.1.reps 0 24) = true from Q1.out, show (inB x.1.least 0 x.1.reps) = true from Q2.out, show (inB x.1.fw 0 1000000) = true from Q3.out, show (decide (x.1.dom ≤ 5)) = true from Q4.out, show (inB x.1.spread 1 24) = true from Q5.out, show (x.1.near.any nearBad) = true from Q6.out] at h; exact h
    go_wp2_with (fail)
    go_ret
    exact ⟨rfl, HB1.out⟩
theorem c_keeps (x : Svc × SvA) (r : Bool) (hr : keepB x.1 = r) (w : World) (h : SvAt w x) :
    Calls Tryz.prog 88 #[.agg (svA x)] w fun e w' => e = .returned (.bool r) ∧ Below w.heap.size w w' := by
  by_cases hd : x.1.dom = 0
  · exact c_keeps0 x hd r hr w h
  · exact c_keeps1 x hd r hr w h
end Go.Proofs.YtbbadnlaelgmlaaGreat

namespace Go.Proofs.YtbbadnlaelgmlaaGreat
open Go.RowKit
set_option maxRecDepth 100000
set_option linter.unusedVariables false
set_option linter.unusedSimpArgs false

theorem drop_at {α : Type} {l : List α} {k : Nat} {x : α} (h : l[k]? = some x) : l.drop k = x :: l.drop (k + 1) := by
  obtain ⟨h1, h2⟩ := List.getElem?_eq_some_iff.1 h
  rw [← h2]; exact List.drop_eq_getElem_cons h1
set_option maxHeartbeats 2000000 in
theorem c_itself (x : Int) (w : World) : Calls Tryz.prog 121 #[.int .i64 x] w fun e w' => e = .returned (.int .i64 x) ∧ w' = w := by
  go_enter Tryz.func121, Tryz.ntmps121
  go_wp2
  go_ret
  exact ⟨rfl, rfl⟩
set_option maxHeartbeats 2000000 in
theorem c_ofNear (x : Nr) (w : World) : Calls Tryz.prog 122 #[.agg #[.int .i64 x.svc, .int .i64 x.lat]] w fun e w' => e = .returned (.int .i64 x.svc) ∧ Below w.heap.size w w' := by
  go_enter Tryz.func122, Tryz.ntmps122
  go_wp2
  go_ret
  exact ⟨rfl, (Below.refl _ _).alloc (Nat.le_refl _) _⟩
set_option maxHeartbeats 8000000 in
theorem c_others_int (own many : Int) (A : Option Addr) (c : Nat) (l : List Int) (r : Bool) (hr : othB own many l = r) (w : World) (h : Rv 1 inV w A c l) :
    Calls Tryz.prog 123 #[.slice A l.length c, .func (.func 121) #[] #[], .int .i64 own, .int .i64 many] w fun e w' => e = .returned (.bool r) ∧ Below w.heap.size w w' := by
  have H := Lib.hid h
  have HR := Lib.hid hr
  have hc1 := h.1
  have hc2 := h.2.1
  unfold maxLen at hc2
  clear h hr
  go_enter Tryz.func123, Tryz.ntmps123
  go_wp2_with (fail)
  go_loopw [9, 15] (fun la i wr => ∃ (k : Nat) (last : Int), k ≤ l.length ∧ la = .int .i64 last ∧ i = .int .i64 (k : Int) ∧ Hid (othB own many l = othGo own many last (l.drop k)) ∧ Hid (Below w.heap.size w wr)) (fun _ i _ => l.length - (intOf i).toNat)
  case atStart => exact ⟨0, -1, Nat.zero_le _, rfl, rfl, Lib.hid rfl, Lib.hid (Below.refl _ _)⟩
  case round =>
    obtain ⟨k, last, hk, rfl, rfl, hgo, hB⟩ := hrel
    by_cases hlt : k < l.length
    · obtain ⟨x, hx⟩ : ∃ x, l[k]? = some x := ⟨_, List.getElem?_eq_getElem hlt⟩
      have HK := H.out.on hB.out (Nat.le_refl _)
      obtain ⟨pb, o, rfl, -, -⟩ := HK.at_ hx
      have y0 := int_at HK hx
      have HD := Lib.hid (show othB own many l = othGo own many last (x :: l.drop (k + 1)) by rw [hgo.out, drop_at (show l[k]? = some x by simp [hx])])
      have hki : ((k : Nat) : Int).toNat = k := by omega
      have hlt' : (k : Int) < ((l.length : Nat) : Int) := by omega
      have hs := hB.out.size
      clear hx HK hgo
      rcases h1 : decide (x ≤ last) with _ | _
      · rcases h2 : decide (many ≤ x) with _ | _
        · rcases h3 : (x == own) with _ | _
          · have HN := Lib.hid (show othB own many l = othGo own many x (l.drop (k + 1)) by rw [HD.out, othGo_cons_ok (fun h => h.elim (fun h => of_decide_eq_false h1 h) (fun h => h.elim (fun h => of_decide_eq_false h2 h) (fun h => (beq_eq_false_iff_ne.1 h3) h)))])
            go_wp2_with (go_at_call 121; refine (c_itself x _).mono ?_; rintro e w1 ⟨rfl, rfl⟩)
            go_roundw
            case rel => exact ⟨k + 1, x, by omega, rfl, by go_num, HN, hB⟩
            case measure => simp only [intOf]; omega
          · obtain rfl : false = r := by rw [← HR.out, HD.out, othGo_cons_no (.inr (.inr (eq_of_beq h3)))]
            go_wp2_with (go_at_call 121; refine (c_itself x _).mono ?_; rintro e w1 ⟨rfl, rfl⟩)
            go_ret
            exact ⟨rfl, hB.out⟩
        · obtain rfl : false = r := by rw [← HR.out, HD.out, othGo_cons_no (.inr (.inl (of_decide_eq_true h2)))]
          go_wp2_with (go_at_call 121; refine (c_itself x _).mono ?_; rintro e w1 ⟨rfl, rfl⟩)
          go_ret
          exact ⟨rfl, hB.out⟩
      · obtain rfl : false = r := by rw [← HR.out, HD.out, othGo_cons_no (.inl (of_decide_eq_true h1))]
        go_wp2_with (go_at_call 121; refine (c_itself x _).mono ?_; rintro e w1 ⟨rfl, rfl⟩)
        go_ret
        exact ⟨rfl, hB.out⟩
    · obtain rfl : k = l.length := by omega
      obtain rfl : true = r := by rw [← HR.out, hgo.out, List.drop_eq_nil_of_le (by simp)]; rfl
      go_wp2_with (fail)
      go_ret
      exact ⟨rfl, hB.out⟩
set_option maxHeartbeats 8000000 in
theorem c_others_Near (own many : Int) (A : Option Addr) (c : Nat) (l : List Nr) (r : Bool) (hr : othB own many (l.map (·.svc)) = r) (w : World) (h : Rv 2 nrV w A c l) :
    Calls Tryz.prog 124 #[.slice A l.length c, .func (.func 122) #[] #[], .int .i64 own, .int .i64 many] w fun e w' => e = .returned (.bool r) ∧ Below w.heap.size w w' := by
  have H := Lib.hid h
  have HR := Lib.hid hr
  have hc1 := h.1
  have hc2 := h.2.1
  unfold maxLen at hc2
  clear h hr
  go_enter Tryz.func124, Tryz.ntmps124
  go_wp2_with (fail)
  go_loopw [9, 15] (fun la i wr => ∃ (k : Nat) (last : Int), k ≤ l.length ∧ la = .int .i64 last ∧ i = .int .i64 (k : Int) ∧ Hid (othB own many (l.map (·.svc)) = othGo own many last ((l.map (·.svc)).drop k)) ∧ Hid (Below w.heap.size w wr)) (fun _ i _ => l.length - (intOf i).toNat)
  case atStart => exact ⟨0, -1, Nat.zero_le _, rfl, rfl, Lib.hid rfl, Lib.hid (Below.refl _ _)⟩
  case round =>
    obtain ⟨k, last, hk, rfl, rfl, hgo, hB⟩ := hrel
    by_cases hlt : k < l.length
    · obtain ⟨x, hx⟩ : ∃ x, l[k]? = some x := ⟨_, List.getElem?_eq_getElem hlt⟩
      have HK := H.out.on hB.out (Nat.le_refl _)
      obtain ⟨pb, o, rfl, -, -⟩ := HK.at_ hx
      obtain ⟨y0, y1⟩ := near_at HK hx
      have HD := Lib.hid (show othB own many (l.map (·.svc)) = othGo own many last (x.svc :: (l.map (·.svc)).drop (k + 1)) by rw [hgo.out, drop_at (show (l.map (·.svc))[k]? = some x.svc by simp [hx])])
      have hki : ((k : Nat) : Int).toNat = k := by omega
      have hlt' : (k : Int) < ((l.length : Nat) : Int) := by omega
      have hs := hB.out.size
      clear hx HK hgo
      rcases h1 : decide (x.svc ≤ last) with _ | _
      · rcases h2 : decide (many ≤ x.svc) with _ | _
        · rcases h3 : (x.svc == own) with _ | _
          · have HN := Lib.hid (show othB own many (l.map (·.svc)) = othGo own many x.svc ((l.map (·.svc)).drop (k + 1)) by rw [HD.out, othGo_cons_ok (fun h => h.elim (fun h => of_decide_eq_false h1 h) (fun h => h.elim (fun h => of_decide_eq_false h2 h) (fun h => (beq_eq_false_iff_ne.1 h3) h)))])
            go_wp2_with (go_at_call 122; refine (c_ofNear x _).mono ?_; rintro e w1 ⟨rfl, b1⟩; have HB1 := Lib.hid (below_join (hB.out.alloc hB.out.size _) b1 (by rw [World.size_alloc]; have := hB.out.size; omega)); clear b1 y0 y1)
            go_roundw
            case rel => exact ⟨k + 1, x.svc, by omega, rfl, by go_num, HN, HB1⟩
            case measure => simp only [intOf]; omega
          · obtain rfl : false = r := by rw [← HR.out, HD.out, othGo_cons_no (.inr (.inr (eq_of_beq h3)))]
            go_wp2_with (go_at_call 122; refine (c_ofNear x _).mono ?_; rintro e w1 ⟨rfl, b1⟩; have HB1 := Lib.hid (below_join (hB.out.alloc hB.out.size _) b1 (by rw [World.size_alloc]; have := hB.out.size; omega)); clear b1 y0 y1)
            go_ret
            exact ⟨rfl, HB1.out⟩
        · obtain rfl : false = r := by rw [← HR.out, HD.out, othGo_cons_no (.inr (.inl (of_decide_eq_true h2)))]
          go_wp2_with (go_at_call 122; refine (c_ofNear x _).mono ?_; rintro e w1 ⟨rfl, b1⟩; have HB1 := Lib.hid (below_join (hB.out.alloc hB.out.size _) b1 (by rw [World.size_alloc]; have := hB.out.size; omega)); clear b1 y0 y1)
          go_ret
          exact ⟨rfl, HB1.out⟩
      · obtain rfl : false = r := by rw [← HR.out, HD.out, othGo_cons_no (.inl (of_decide_eq_true h1))]
        go_wp2_with (go_at_call 122; refine (c_ofNear x _).mono ?_; rintro e w1 ⟨rfl, b1⟩; have HB1 := Lib.hid (below_join (hB.out.alloc hB.out.size _) b1 (by rw [World.size_alloc]; have := hB.out.size; omega)); clear b1 y0 y1)
        go_ret
        exact ⟨rfl, HB1.out⟩
    · obtain rfl : k = l.length := by omega
      obtain rfl : true = r := by rw [← HR.out, hgo.out, List.drop_eq_nil_of_le (by simp)]; rfl
      go_wp2_with (fail)
      go_ret
      exact ⟨rfl, hB.out⟩
set_option maxHeartbeats 8000000 in
theorem c_names (x : Svc × SvA) (own many : Int) (r : Bool) (hr : nameB x.1 own many = r) (w : World) (h : SvAt w x) :
    Calls Tryz.prog 89 #[.agg (svA x), .int .i64 own, .int .i64 many] w fun e w' => e = .returned (.bool r) ∧ Below w.heap.size w w' := by
  unfold svA
  obtain ⟨W, hW⟩ : ∃ W, W = w.alloc (.cells (svA x) 94) := ⟨_, rfl⟩
  have B0 : Below w.heap.size w W := by subst hW; exact (Below.refl _ _).alloc (Nat.le_refl _) _
  have HB := Lib.hid B0
  have HX : W.heap[w.heap.size]? = some (.cells (svA x) 94 (0, 0)) := by subst hW; exact box_new _ _ _
  have HX2 := Lib.hid HX
  have x5 : W.cell? ⟨w.heap.size, 5, none⟩ = some (.slice x.2.a1 x.1.apart.length x.2.c1) := cell_of HX rfl
  have H := Lib.hid (h.on B0 (Nat.le_refl _))
  have HR := Lib.hid (show (othB own many x.1.apart && othB own many (x.1.near.map (·.svc))) = r from hr)
  clear hr h HX B0
  generalize hA : w.heap.size = A at *
  unfold svA at hW
  rw [hW] at x5
  obtain ⟨r1, h1⟩ : ∃ b, othB own many x.1.apart = b := ⟨_, rfl⟩
  have Q1 := Lib.hid h1
  clear h1
  go_enter Tryz.func89, Tryz.ntmps89
  go_wp2_with (fail)
  rw [← hW] at x5 ⊢
  clear hW
  go_at_call 123
  refine (c_others_int own many x.2.a1 x.2.c1 x.1.apart r1 Q1.out W H.out.apart).mono ?_
  rintro e w1 ⟨rfl, b1⟩
  have K1 := Lib.hid b1
  have HB1 := Lib.hid (below_join HB.out b1 (by rw [← hA]; exact HB.out.size))
  clear b1
  cases r1
  · obtain rfl : false = r := by have h := HR.out; rw [Q1.out] at h; exact h
    go_wp2_with (fail)
    go_ret
    exact ⟨rfl, HB1.out⟩
  · obtain ⟨r2, h2⟩ : ∃ b, othB own many (x.1.near.map (·.svc)) = b := ⟨_, rfl⟩
    have Q2 := Lib.hid h2
    clear h2
    have HE := Lib.hid (show r2 = r by have h := HR.out; rw [Q1.out, Q2.out] at h; exact h)
    have x6 : w1.cell? ⟨A, 6, none⟩ = some (.slice x.2.a2 x.1.near.length x.2.c2) := cell_of (box_on HX2.out K1.out (Nat.le_refl _)) rfl
    go_wp2_with (fail)
    go_at_call 124
    refine (c_others_Near own many x.2.a2 x.2.c2 x.1.near r2 Q2.out w1 (H.out.near.on K1.out (Nat.le_refl _))).mono ?_
    rintro e w2 ⟨rfl, b2⟩
    have HB2 := Lib.hid (below_join HB1.out b2 (by rw [← hA]; exact HB1.out.size))
    clear b2
    go_wp2_with (fail)
    go_ret
    exact ⟨(show Ending.returned (.bool r2) = .returned (.bool r) by rw [HE.out]), HB2.out⟩
end Go.Proofs.YtbbadnlaelgmlaaGreat

namespace Go.Proofs.YtbbadnlaelgmlaaGreat
open Go.RowKit
set_option maxRecDepth 100000
set_option linter.unusedVariables false
set_option linter.unusedSimpArgs false

theorem sumR_take {ss : List Svc} {k : Nat} {s : Svc} (h : ss[k]? = some s) : sumR (ss.take (k + 1)) = sumR (ss.take k) + s.reps := by
  unfold sumR
  rw [List.take_add_one, h, List.map_append, List.sum_append]
  simp
theorem keepB_reps {s : Svc} (h : keepB s = true) : 0 ≤ s.reps ∧ s.reps ≤ 24 := (keepB_iff.1 h).2.1
theorem sumR_bound {ss : List Svc} : ∀ {k : Nat}, k ≤ ss.length → (∀ (i : Nat) s, i < k → ss[i]? = some s → 0 ≤ s.reps ∧ s.reps ≤ 24) → 0 ≤ sumR (ss.take k) ∧ sumR (ss.take k) ≤ 24 * k := by
  intro k
  induction k with
  | zero => intro _ _; simp [sumR]
  | succ k ih =>
    intro hk h
    have h1 := ih (by omega) fun i s hi hs => h i s (by omega) hs
    have h2 : ss[k]? = some ss[k] := List.getElem?_eq_getElem (by omega)
    rw [sumR_take h2]
    have := h k _ (by omega) h2
    omega
theorem sv_box {w : World} {b : Nat} {x : Svc × SvA} (h : w.heap[b]? = some (.cells (svA x) 94 (0, 0))) :
    w.cell? ⟨b, 0, none⟩ = some (.int .i64 x.1.cores) ∧ w.cell? ⟨b, 1, none⟩ = some (.int .i64 x.1.reps) ∧ w.cell? ⟨b, 2, none⟩ = some (.int .i64 x.1.least) ∧ w.cell? ⟨b, 3, none⟩ = some (.int .u8 (x.1.dom : Int)) ∧ w.cell? ⟨b, 4, none⟩ = some (.int .i64 x.1.spread) ∧ w.cell? ⟨b, 5, none⟩ = some (.slice x.2.a1 x.1.apart.length x.2.c1) ∧ w.cell? ⟨b, 6, none⟩ = some (.slice x.2.a2 x.1.near.length x.2.c2) ∧ w.cell? ⟨b, 7, none⟩ = some (.int .i64 x.1.fw) :=
  ⟨cell_of h rfl, cell_of h rfl, cell_of h rfl, cell_of h rfl, cell_of h rfl, cell_of h rfl, cell_of h rfl, cell_of h rfl⟩
theorem wish_no {xs : List (Svc × SvA)} {k : Nat} {s : Svc} (h : (svs xs)[k]? = some s) (hb : svcB s k xs.length = false) : ¬ WishOk (svs xs) := fun hw => by
  have := hw.2.1 k s h
  rw [svs_len, hb] at this
  cases this
set_option maxHeartbeats 16000000 in
theorem c_ValidWish (A : Option Addr) (c : Nat) (xs : List (Svc × SvA)) (r : Bool) (hr : r = true ↔ WishOk (svs xs)) (w : World) (h : WiAt w A c xs) :
    Calls Tryz.prog 45 #[.agg #[.slice A xs.length c]] w fun e w' => e = .returned (.bool r) ∧ Below w.heap.size w w' := by
  obtain ⟨W, hW⟩ : ∃ W, W = w.alloc (.cells #[.slice A xs.length c] 32) := ⟨_, rfl⟩
  have B0 : Below w.heap.size w W := by subst hW; exact (Below.refl _ _).alloc (Nat.le_refl _) _
  have HB := Lib.hid B0
  have HX : W.heap[w.heap.size]? = some (.cells #[.slice A xs.length c] 32 (0, 0)) := by subst hW; exact box_new _ _ _
  have HX2 := Lib.hid HX
  have x0 : W.cell? ⟨w.heap.size, 0, none⟩ = some (.slice A xs.length c) := cell_of HX rfl
  have H := Lib.hid (h.on B0 (Nat.le_refl _))
  have hc1 := h.row.1
  have hc2 := h.row.2.1
  unfold maxLen at hc2
  have hsl := svs_len xs
  have HR := Lib.hid hr
  have HWS := Lib.hid (show w.heap.size < W.heap.size by rw [hW, World.size_alloc]; omega)
  clear hr h HX B0
  generalize hA : w.heap.size = B at *
  rw [hW] at x0
  by_cases h8 : xs.length ≤ 8
  · have hd8 : decide ((8 : Int) < (xs.length : Int)) = false := decide_eq_false (by omega)
    go_enter Tryz.func45, Tryz.ntmps45
    go_wp2_with (fail)
    rw [← hW] at x0 ⊢
    clear hW
    go_loopw [4, 15] (fun sm i wr => ∃ k : Nat, k ≤ xs.length ∧ sm = .int .i64 (sumR ((svs xs).take k)) ∧ i = .int .i64 (k : Int) ∧ Hid (∀ (i : Nat) s, i < k → (svs xs)[i]? = some s → svcB s i xs.length = true) ∧ Hid (Below W.heap.size W wr)) (fun _ i _ => xs.length - (intOf i).toNat)
    case atStart => exact ⟨0, Nat.zero_le _, rfl, rfl, Lib.hid (fun i s hi => absurd hi (by omega)), Lib.hid (Below.refl _ _)⟩
    case round =>
      obtain ⟨k, hk, rfl, rfl, hok, hK⟩ := hrel
      have hbd := sumR_bound (ss := svs xs) (k := k) (by omega) fun i s hi hs => keepB_reps (by have := hok.out i s hi hs; unfold svcB at this; rw [Bool.and_eq_true] at this; exact this.1)
      obtain ⟨sm, hsm⟩ : ∃ sm, sumR ((svs xs).take k) = sm := ⟨_, rfl⟩
      have HSM := Lib.hid hsm
      rw [hsm] at hbd ⊢
      clear hsm
      by_cases hlt : k < xs.length
      · obtain ⟨x, hx⟩ : ∃ x, xs[k]? = some x := ⟨_, List.getElem?_eq_getElem hlt⟩
        have HK := H.out.on hK.out (Nat.le_refl _)
        obtain ⟨pb, o, rfl, -, -⟩ := HK.row.at_ hx
        obtain ⟨y0, y1, y2, y3, y4, y5, y6, y7⟩ := sv_at HK.row hx
        have HS := Lib.hid (HK.each x (List.mem_of_getElem? hx))
        have HXX := Lib.hid hx
        have HSV := Lib.hid (svs_at hx)
        have hki : ((k : Nat) : Int).toNat = k := by omega
        have hlt' : (k : Int) < ((xs.length : Nat) : Int) := by omega
        obtain ⟨V, hV⟩ : ∃ V, V = wr.alloc (.cells (svA x) 94) := ⟨_, rfl⟩
        have bV : Below wr.heap.size wr V := by subst hV; exact (Below.refl _ _).alloc (Nat.le_refl _) _
        have HV := Lib.hid (show V.heap[wr.heap.size]? = some (.cells (svA x) 94 (0, 0)) by subst hV; exact box_new _ _ _)
        have HKV := Lib.hid (hK.out.trans (bV.mono hK.out.size))
        have HSV2 := Lib.hid (HS.out.on bV (Nat.le_refl _))
        clear hx HK bV
        unfold svA at hV
        go_wp2_with (fail)
        rw [← hV]
        clear hV y0 y1 y2 y3 y4 y5 y6 y7
        obtain ⟨q1, hq1⟩ : ∃ q, keepB x.1 = q := ⟨_, rfl⟩
        have Q1 := Lib.hid hq1
        clear hq1
        obtain ⟨pv, hpv⟩ : ∃ pv, wr.heap.size = pv := ⟨_, rfl⟩
        rw [hpv] at HV ⊢
        have HPV := Lib.hid hpv
        clear hpv
        go_at_call 88
        refine (c_keeps x q1 Q1.out V HSV2.out).mono ?_
        rintro e w1 ⟨rfl, b1⟩
        have K1 := Lib.hid (below_join HKV.out b1 HKV.out.size)
        have HV1 := Lib.hid (box_on HV.out b1 (Nat.le_refl _))
        have HS1 := Lib.hid (HSV2.out.on b1 (Nat.le_refl _))
        clear b1
        obtain ⟨z0, z1, z2, z3, z4, z5, z6, z7⟩ := sv_box HV1.out
        cases q1
        · obtain rfl : false = r := by
            rcases r with _ | _
            · rfl
            · exact absurd (HR.out.1 rfl) (wish_no HSV.out (by unfold svcB; rw [Q1.out]; rfl))
          go_wp2_with (fail)
          go_ret
          exact ⟨rfl, below_join HB.out K1.out (by rw [← hA]; exact HB.out.size)⟩
        · go_wp2_with (fail)
          obtain ⟨q2, hq2⟩ : ∃ q, nameB x.1 (k : Int) (xs.length : Int) = q := ⟨_, rfl⟩
          have Q2 := Lib.hid hq2
          clear hq2
          go_at_call 89
          refine (c_names x (k : Int) (xs.length : Int) q2 Q2.out w1 HS1.out).mono ?_
          rintro e w2 ⟨rfl, b2⟩
          have K2 := Lib.hid (below_join K1.out b2 K1.out.size)
          have HV2 := Lib.hid (box_on HV1.out b2 (Nat.le_refl _))
          clear b2 z0 z1 z2 z3 z4 z5 z6 z7
          obtain ⟨z0, z1, z2, z3, z4, z5, z6, z7⟩ := sv_box HV2.out
          cases q2
          · obtain rfl : false = r := by
              rcases r with _ | _
              · rfl
              · exact absurd (HR.out.1 rfl) (wish_no HSV.out (by unfold svcB; rw [Q1.out, Q2.out]; rfl))
            go_wp2_with (fail)
            go_ret
            exact ⟨rfl, below_join HB.out K2.out (by rw [← hA]; exact HB.out.size)⟩
          · have hrp := keepB_reps Q1.out
            have HN := Lib.hid (show sumR ((svs xs).take (k + 1)) = sm + x.1.reps by rw [sumR_take HSV.out, HSM.out])
            have HO := Lib.hid (show ∀ (i : Nat) s, i < k + 1 → (svs xs)[i]? = some s → svcB s i xs.length = true from fun i s hi hs => by
              rcases Nat.lt_or_ge i k with h | h
              · exact hok.out i s h hs
              · obtain rfl : i = k := by omega
                rw [HSV.out] at hs
                injection hs with hs
                subst hs
                unfold svcB
                rw [Q1.out, Q2.out]; rfl)
            go_wp2_with (fail)
            go_roundw
            case rel => exact ⟨k + 1, by omega, by rw [HN.out], by go_num, HO, K2⟩
            case measure => simp only [intOf]; omega
      · obtain rfl : k = xs.length := by omega
        have hd : decide (sm ≤ 24) = r := by
          have e : sumR (svs xs) = sm := by rw [← HSM.out, ← hsl, List.take_length]
          rw [Bool.eq_iff_iff, decide_eq_true_eq, HR.out, ← e]
          exact ⟨fun h => ⟨by omega, fun i s hs => by rw [hsl]; exact hok.out i s (by have := (List.getElem?_eq_some_iff.1 hs).1; omega) hs, h⟩, fun h => h.2.2⟩
        go_wp2_with (fail)
        go_ret
        exact ⟨rfl, below_join HB.out hK.out (by rw [← hA]; exact HB.out.size)⟩
  · have hd8 : decide ((8 : Int) < (xs.length : Int)) = true := decide_eq_true (by omega)
    obtain rfl : false = r := by
      rcases r with _ | _
      · rfl
      · exact absurd (HR.out.1 rfl).1 (by omega)
    go_enter Tryz.func45, Tryz.ntmps45
    go_wp2_with (fail)
    go_ret
    rw [← hW]
    exact ⟨rfl, HB.out⟩
end Go.Proofs.YtbbadnlaelgmlaaGreat

namespace Go.Proofs.YtbbadnlaelgmlaaGreat
open Go.RowKit
set_option maxRecDepth 100000
set_option linter.unusedVariables false
set_option linter.unusedSimpArgs false

theorem any_bad {α : Type} {f : α → Bool} {l : List α} : l.any (fun x => !f x) = false ↔ ∀ x ∈ l, f x = true := by simp
set_option maxHeartbeats 16000000 in
theorem c_woValid (p : SP) (s : SiteD) (A : Option Addr) (c : Nat) (xs : List (Svc × SvA)) (q : WP) (d : WorldD) (r : Bool) (hr : r = true ↔ WorldOk s (svs xs) d) (w : World) (hs : SiAt w p s) (hx : WiAt w A c xs) (hd : WoAt w q d) :
    Calls Tryz.prog 27 #[siV p s, .agg #[.slice A xs.length c], .agg (woA q d)] w fun e w' => e = .returned (.bool r) ∧ Below w.heap.size w w' := by
  unfold siV woA
  obtain ⟨W1, h1⟩ : ∃ W, W = w.alloc (.cells #[.slice p.a1 s.feeds.length p.c1, .slice p.a2 s.brks.length p.c2, .slice p.a3 s.loops.length p.c3, .slice p.a4 s.racks.length p.c4, .int .i64 s.sw, .slice p.a5 s.links.length p.c5, .slice p.a6 s.hosts.length p.c6] 29) := ⟨_, rfl⟩
  obtain ⟨W2, h2⟩ : ∃ W, W = W1.alloc (.cells #[.slice A xs.length c] 32) := ⟨_, rfl⟩
  obtain ⟨W, h3⟩ : ∃ W, W = W2.alloc (.cells (woA q d) 36) := ⟨_, rfl⟩
  have s1 : W1.heap.size = w.heap.size + 1 := by rw [h1, World.size_alloc]
  have s2 : W2.heap.size = w.heap.size + 1 + 1 := by rw [h2, World.size_alloc, s1]
  have s3 : W.heap.size = w.heap.size + 1 + 1 + 1 := by rw [h3, World.size_alloc, s2]
  have B0 : Below w.heap.size w W := by
    have e1 : Below w.heap.size w W1 := by rw [h1]; exact (Below.refl _ _).alloc (Nat.le_refl _) _
    have e2 : Below w.heap.size w W2 := by rw [h2]; exact e1.alloc (by omega) _
    rw [h3]; exact e2.alloc (by omega) _
  have HB := Lib.hid B0
  have X1 : SiBox W w.heap.size p s := by
    have e1 : SiBox W1 w.heap.size p s := by rw [h1]; exact siBox_new _ _ _
    unfold SiBox at e1 ⊢
    rw [h3, h2]; exact old_heap _ (old_heap _ e1)
  have X2 : WiBox W (w.heap.size + 1) A xs.length c := by
    have e1 : W2.heap[w.heap.size + 1]? = some (.cells #[.slice A xs.length c] 32 (0, 0)) := by rw [h2, ← s1]; exact box_new _ _ _
    unfold WiBox
    rw [h3]; exact old_heap _ e1
  have X3 : WoBox W (w.heap.size + 1 + 1) q d := by
    unfold WoBox
    rw [h3, ← s2]; exact box_new _ _ _
  have HS := Lib.hid (hs.on B0 (Nat.le_refl _))
  have HX := Lib.hid (hx.on B0 (Nat.le_refl _))
  have HD := Lib.hid (hd.on B0 (Nat.le_refl _))
  have B1 := Lib.hid X1
  have B2 := Lib.hid X2
  have B3 := Lib.hid X3
  have HF := Lib.hid (fun (X : World) (hX : Below W.heap.size W X) => (⟨(X1.on hX (Nat.le_refl _)).c0, (X1.on hX (Nat.le_refl _)).c1, (X1.on hX (Nat.le_refl _)).c2, (X1.on hX (Nat.le_refl _)).c3, (X1.on hX (Nat.le_refl _)).c4, (X1.on hX (Nat.le_refl _)).c5, (X1.on hX (Nat.le_refl _)).c6, (X2.on hX (Nat.le_refl _)).c0, (X3.on hX (Nat.le_refl _)).c0, (X3.on hX (Nat.le_refl _)).c1⟩ : X.cell? ⟨w.heap.size, 0, none⟩ = some (.slice p.a1 s.feeds.length p.c1) ∧ X.cell? ⟨w.heap.size, 1, none⟩ = some (.slice p.a2 s.brks.length p.c2) ∧ X.cell? ⟨w.heap.size, 2, none⟩ = some (.slice p.a3 s.loops.length p.c3) ∧ X.cell? ⟨w.heap.size, 3, none⟩ = some (.slice p.a4 s.racks.length p.c4) ∧ X.cell? ⟨w.heap.size, 4, none⟩ = some (.int .i64 s.sw) ∧ X.cell? ⟨w.heap.size, 5, none⟩ = some (.slice p.a5 s.links.length p.c5) ∧ X.cell? ⟨w.heap.size, 6, none⟩ = some (.slice p.a6 s.hosts.length p.c6) ∧ X.cell? ⟨w.heap.size + 1, 0, none⟩ = some (.slice A xs.length c) ∧ X.cell? ⟨w.heap.size + 1 + 1, 0, none⟩ = some (.slice q.a1 d.hosts.length q.c1) ∧ X.cell? ⟨w.heap.size + 1 + 1, 1, none⟩ = some (.slice q.a2 d.reps.length q.c2)))
  have n1 := hd.hosts.1; have n2 := hd.hosts.2.1; have n3 := hd.reps.1; have n4 := hd.reps.2.1; have n5 := hs.hosts.1; have n6 := hs.hosts.2.1
  unfold maxLen at n2 n4 n6
  have HR := Lib.hid hr
  have KW := Lib.hid (Below.refl W.heap.size W)
  have hle : w.heap.size ≤ W.heap.size := B0.size
  clear B0 hr hs hx hd X1 X2 X3 s1 s2 s3
  obtain ⟨f0, f1, f2, f3, f4, f5, f6, g0, g1, g2⟩ := HF.out W KW.out
  unfold woA at h3
  rw [h3, h2, h1] at f0 f1 f2 f3 f4 f5 f6 g0 g1 g2
  generalize hA : w.heap.size = B at *
  go_enter Tryz.func27, Tryz.ntmps27
  go_wp2_with (fail)
  rw [← h1, ← h2, ← h3] at f0 f1 f2 f3 f4 f5 f6 g0 g1 g2 ⊢
  clear h1 h2 h3
  obtain ⟨q0, h0⟩ : ∃ b, siteOk s = b := ⟨_, rfl⟩
  have Q0 := Lib.hid h0
  clear h0
  go_at_call 44
  refine (c_stValid p s q0 Q0.out W HS.out).mono ?_
  rintro e w1 ⟨rfl, b1⟩
  have K1 := Lib.hid b1
  clear b1
  clear f0 f1 f2 f3 f4 f5 f6 g0 g1 g2
  obtain ⟨f0, f1, f2, f3, f4, f5, f6, g0, g1, g2⟩ := HF.out w1 K1.out
  cases q0
  · obtain rfl : false = r := by
      rcases r with _ | _
      · rfl
      · exact absurd (HR.out.1 rfl) (fun h => by have := h.1; rw [Q0.out] at this; cases this)
    go_wp2_with (fail)
    go_ret
    exact ⟨rfl, below_join HB.out K1.out hle⟩
  go_wp2_with (fail)
  obtain ⟨q1, h1⟩ : ∃ b : Bool, b = true ↔ WishOk (svs xs) := by
    by_cases h : WishOk (svs xs)
    · exact ⟨true, by simp [h]⟩
    · exact ⟨false, by simp [h]⟩
  have Q1 := Lib.hid h1
  clear h1
  go_at_call 45
  refine (c_ValidWish A c xs q1 Q1.out w1 (HX.out.on K1.out (Nat.le_refl _))).mono ?_
  rintro e w2 ⟨rfl, b2⟩
  have K2 := Lib.hid (below_join K1.out b2 K1.out.size)
  clear b2
  clear f0 f1 f2 f3 f4 f5 f6 g0 g1 g2
  obtain ⟨f0, f1, f2, f3, f4, f5, f6, g0, g1, g2⟩ := HF.out w2 K2.out
  cases q1
  · obtain rfl : false = r := by
      rcases r with _ | _
      · rfl
      · exact absurd (HR.out.1 rfl) (fun h => by have := Q1.out.2 h.2.1; cases this)
    go_wp2_with (fail)
    go_ret
    exact ⟨rfl, below_join HB.out K2.out hle⟩
  rcases h2 : ((d.hosts.length : Int) == (s.hosts.length : Int)) with _ | _
  · have Q2 := Lib.hid h2
    obtain rfl : false = r := by
      rcases r with _ | _
      · rfl
      · exact absurd (HR.out.1 rfl) (fun h => by have e := h.2.2.1; have := Q2.out; rw [e] at this; simp at this)
    go_wp2_with (fail)
    go_ret
    exact ⟨rfl, below_join HB.out K2.out hle⟩
  have Q2 := Lib.hid (show d.hosts.length = s.hosts.length by have := eq_of_beq h2; omega)
  go_wp2_with (fail)
  clear h2
  obtain ⟨q3, h3⟩ : ∃ b, d.hosts.any (fun x => !hstOk x) = b := ⟨_, rfl⟩
  have Q3 := Lib.hid h3
  clear h3
  go_at_call 46
  refine (c_CF_HostState q.a1 q.c1 d.hosts w2 (HD.out.on K2.out (Nat.le_refl _)).hosts q3 Q3.out).mono ?_
  rintro e w3 ⟨rfl, b3⟩
  have K3 := Lib.hid (below_join K2.out b3 K2.out.size)
  clear b3
  clear f0 f1 f2 f3 f4 f5 f6 g0 g1 g2
  obtain ⟨f0, f1, f2, f3, f4, f5, f6, g0, g1, g2⟩ := HF.out w3 K3.out
  cases q3
  rotate_left
  · obtain rfl : false = r := by
      rcases r with _ | _
      · rfl
      · exact absurd (HR.out.1 rfl) (fun h => by have := any_bad.2 h.2.2.2.1; rw [Q3.out] at this; cases this)
    go_wp2_with (fail)
    go_ret
    exact ⟨rfl, below_join HB.out K3.out hle⟩
  rcases h4 : decide ((d.reps.length : Int) ≤ 24) with _ | _
  · have Q4 := Lib.hid h4
    obtain rfl : false = r := by
      rcases r with _ | _
      · rfl
      · exact absurd (HR.out.1 rfl) (fun h => by have e := h.2.2.2.2.1; have := of_decide_eq_false Q4.out; omega)
    go_wp2_with (fail)
    go_ret
    exact ⟨rfl, below_join HB.out K3.out hle⟩
  have Q4 := Lib.hid (show d.reps.length ≤ 24 by have := of_decide_eq_true h4; omega)
  go_wp2_with (fail)
  clear h4
  obtain ⟨q5, h5⟩ : ∃ b, d.reps.any (fun x => !repOk xs.length s.hosts.length x) = b := ⟨_, rfl⟩
  have Q5 := Lib.hid h5
  clear h5
  go_at_call 47
  refine (c_CF_Replica (B + 1) B p s A xs.length c q.a2 q.c2 d.reps w3 (B2.out.on K3.out (Nat.le_refl _)) (B1.out.on K3.out (Nat.le_refl _)) (HD.out.on K3.out (Nat.le_refl _)).reps q5 Q5.out).mono ?_
  rintro e w4 ⟨rfl, b4⟩
  have K4 := Lib.hid (below_join K3.out b4 K3.out.size)
  clear b4
  clear f0 f1 f2 f3 f4 f5 f6 g0 g1 g2
  obtain ⟨f0, f1, f2, f3, f4, f5, f6, g0, g1, g2⟩ := HF.out w4 K4.out
  cases q5
  rotate_left
  · obtain rfl : false = r := by
      rcases r with _ | _
      · rfl
      · exact absurd (HR.out.1 rfl) (fun h => by have e := h.2.2.2.2.2.1; rw [svs_len] at e; have := any_bad.2 e; rw [Q5.out] at this; cases this)
    go_wp2_with (fail)
    go_ret
    exact ⟨rfl, below_join HB.out K4.out hle⟩
  go_wp2_with (fail)
  obtain ⟨q6, h6⟩ : ∃ b, ascB d.reps = b := ⟨_, rfl⟩
  have Q6 := Lib.hid h6
  clear h6
  have HE := Lib.hid (show q6 = r by
    rw [Bool.eq_iff_iff, HR.out, ← Q6.out]
    exact ⟨fun h => ⟨Q0.out, Q1.out.1 (by trivial), Q2.out, any_bad.1 Q3.out, Q4.out, by rw [svs_len]; exact any_bad.1 Q5.out, h⟩, fun h => h.2.2.2.2.2.2⟩)
  go_at_call 48
  refine (c_ascend q.a2 q.c2 d.reps q6 Q6.out w4 (HD.out.on K4.out (Nat.le_refl _)).reps).mono ?_
  rintro e w5 ⟨rfl, b5⟩
  have K5 := Lib.hid (below_join K4.out b5 K4.out.size)
  clear b5
  go_wp2_with (fail)
  go_ret
  exact ⟨(show Ending.returned (.bool q6) = .returned (.bool r) by rw [HE.out]), below_join HB.out K5.out hle⟩
end Go.Proofs.YtbbadnlaelgmlaaGreat

namespace Go.Proofs.YtbbadnlaelgmlaaGreat
open Go.RowKit
set_option maxRecDepth 100000
set_option linter.unusedVariables false
set_option linter.unusedSimpArgs false

theorem two_boxes {w : World} {c1 c2 : Array Value} {T1 T2 : TypeId} {W1 W : World} (h1 : W1 = w.alloc (.cells c1 T1)) (h2 : W = W1.alloc (.cells c2 T2)) :
    Below w.heap.size w W ∧ W.heap[w.heap.size]? = some (.cells c1 T1 (0, 0)) ∧ W.heap[w.heap.size + 1]? = some (.cells c2 T2 (0, 0)) ∧ W.heap.size = w.heap.size + 1 + 1 := by
  have s1 : W1.heap.size = w.heap.size + 1 := by rw [h1, World.size_alloc]
  have e1 : Below w.heap.size w W1 := by rw [h1]; exact (Below.refl _ _).alloc (Nat.le_refl _) _
  have b1 : W1.heap[w.heap.size]? = some (.cells c1 T1 (0, 0)) := by rw [h1]; exact box_new _ _ _
  refine ⟨by rw [h2]; exact e1.alloc (by omega) _, by rw [h2]; exact old_heap _ b1, by rw [h2, ← s1]; exact box_new _ _ _, by rw [h2, World.size_alloc, s1]⟩
set_option maxHeartbeats 4000000 in
theorem c_IndexR (A : Option Addr) (c : Nat) (l : List Rep) (x : Rep) (w : World) (h : Rv 2 repV w A c l) :
    Calls Tryz.prog 157 #[.slice A l.length c, .agg #[.int .i64 x.svc, .int .i64 x.host]] w fun e w' => ∃ i : Int, e = .returned (.int .i64 i) ∧ decide (0 ≤ i) = hasB l x ∧ Below w.heap.size w w' := by
  obtain ⟨W, hW⟩ : ∃ W, W = w.alloc (.cells #[.int .i64 x.svc, .int .i64 x.host] 53) := ⟨_, rfl⟩
  have B0 : Below w.heap.size w W := by subst hW; exact (Below.refl _ _).alloc (Nat.le_refl _) _
  have HB := Lib.hid B0
  have HX := Lib.hid (show W.heap[w.heap.size]? = some (.cells #[.int .i64 x.svc, .int .i64 x.host] 53 (0, 0)) by subst hW; exact box_new _ _ _)
  have H := Lib.hid (h.on B0 (Nat.le_refl _))
  have hc1 := h.1; have hc2 := h.2.1
  unfold maxLen at hc2
  have hle := B0.size
  clear h B0
  generalize hA : w.heap.size = B at *
  go_enter Tryz.func157, Tryz.ntmps157
  go_wp2_with (fail)
  rw [← hW]
  clear hW
  go_loopw [8] (fun i wr => ∃ k : Nat, k ≤ l.length ∧ i = .int .i64 (k : Int) ∧ Hid (x ∉ l.take k) ∧ Hid (Below W.heap.size W wr)) (fun i _ => l.length - (intOf i).toNat)
  case atStart => exact ⟨0, Nat.zero_le _, rfl, Lib.hid (by simp), Lib.hid (Below.refl _ _)⟩
  case round =>
    obtain ⟨k, hk, rfl, hno, hK⟩ := hrel
    have hki : ((k : Nat) : Int).toNat = k := by omega
    by_cases hlt : k < l.length
    · obtain ⟨z, hz⟩ : ∃ z, l[k]? = some z := ⟨_, List.getElem?_eq_getElem hlt⟩
      have HK := H.out.on hK.out (Nat.le_refl _)
      obtain ⟨b, o, rfl, -, -⟩ := HK.at_ hz
      obtain ⟨y0, y1⟩ := rep_at HK hz
      have x0 : wr.cell? ⟨B, 0, none⟩ = some (.int .i64 x.svc) := cell_of (box_on HX.out hK.out (Nat.le_refl _)) rfl
      have x1 : wr.cell? ⟨B, 1, none⟩ = some (.int .i64 x.host) := cell_of (box_on HX.out hK.out (Nat.le_refl _)) rfl
      have HZ := Lib.hid hz
      have hk1 : (k : Int) < ((l.length : Nat) : Int) := by omega
      clear hz HK
      have g1 := guardRp
      have g2 := eqlRp
      rcases hxz : ((x.svc == z.svc) && (x.host == z.host)) with _ | _
      · have hno2 := Lib.hid (show x ∉ l.take (k + 1) by
          rw [List.take_add_one, HZ.out, List.mem_append]
          rintro (h | h)
          · exact hno.out h
          · simp at h; rw [h] at hxz; simp at hxz)
        go_wp2_with (fail)
        go_quiet (fail)
        go_wp2_with (fail)
        go_roundw
        case rel => exact ⟨k + 1, by omega, by go_num, hno2, Lib.hid (below_drewN hK.out)⟩
        case measure => simp only [intOf]; omega
      · have HM := Lib.hid (show hasB l x = true by unfold hasB; rw [decide_eq_true_eq, show x = z by rw [rep_beq] at hxz; exact of_decide_eq_true hxz]; exact List.mem_of_getElem? HZ.out)
        go_wp2_with (fail)
        go_quiet (fail)
        go_wp2_with (fail)
        go_ret
        exact ⟨_, rfl, by rw [HM.out]; exact decide_eq_true (by omega), below_drewN (below_join HB.out hK.out hle)⟩
    · obtain rfl : k = l.length := by omega
      have HM := Lib.hid (show hasB l x = false by
        have h := hno.out
        rw [List.take_length] at h
        unfold hasB; exact decide_eq_false h)
      go_wp2_with (fail)
      go_ret
      exact ⟨_, rfl, by rw [HM.out]; decide, below_join HB.out hK.out hle⟩
set_option maxHeartbeats 4000000 in
theorem c_ContainsR (A : Option Addr) (c : Nat) (l : List Rep) (x : Rep) (r : Bool) (hr : hasB l x = r) (w : World) (h : Rv 2 repV w A c l) :
    Calls Tryz.prog 128 #[.slice A l.length c, .agg #[.int .i64 x.svc, .int .i64 x.host]] w fun e w' => e = .returned (.bool r) ∧ Below w.heap.size w w' := by
  obtain ⟨W, hW⟩ : ∃ W, W = w.alloc (.cells #[.int .i64 x.svc, .int .i64 x.host] 53) := ⟨_, rfl⟩
  have B0 : Below w.heap.size w W := by subst hW; exact (Below.refl _ _).alloc (Nat.le_refl _) _
  have HB := Lib.hid B0
  have hle := B0.size
  have x0 : W.cell? ⟨w.heap.size, 0, none⟩ = some (.int .i64 x.svc) := by subst hW; exact cell_of (box_new _ _ _) rfl
  have x1 : W.cell? ⟨w.heap.size, 1, none⟩ = some (.int .i64 x.host) := by subst hW; exact cell_of (box_new _ _ _) rfl
  have HC := Lib.hid (c_IndexR A c l x W (h.on B0 (Nat.le_refl _)))
  have HR := Lib.hid hr
  clear hr h B0
  rw [hW] at x0 x1
  generalize hA : w.heap.size = B at *
  go_enter Tryz.func128, Tryz.ntmps128
  go_wp2_with (fail)
  rw [← hW]
  clear hW
  go_at_call 157
  refine HC.out.mono ?_
  rintro e w1 ⟨i, rfl, hi, b1⟩
  have K1 := Lib.hid b1
  have HI := Lib.hid (show decide (0 ≤ i) = r by rw [hi, HR.out])
  clear b1 hi
  go_wp2_with (fail)
  go_ret
  exact ⟨(show Ending.returned (.bool (decide (0 ≤ i))) = .returned (.bool r) by rw [HI.out]), below_join HB.out K1.out hle⟩
set_option maxHeartbeats 4000000 in
theorem c_woHas (p : WP) (d : WorldD) (x : Rep) (r : Bool) (hr : hasB d.reps x = r) (w : World) (hd : WoAt w p d) :
    Calls Tryz.prog 100 #[.agg (woA p d), .agg #[.int .i64 x.svc, .int .i64 x.host]] w fun e w' => e = .returned (.bool r) ∧ Below w.heap.size w w' := by
  unfold woA
  obtain ⟨W1, h1⟩ : ∃ W, W = w.alloc (.cells (woA p d) 36) := ⟨_, rfl⟩
  obtain ⟨W, h2⟩ : ∃ W, W = W1.alloc (.cells #[.int .i64 x.svc, .int .i64 x.host] 53) := ⟨_, rfl⟩
  obtain ⟨B0, b1, b2, -⟩ := two_boxes h1 h2
  have HB := Lib.hid B0
  have hle := B0.size
  have x1 : W.cell? ⟨w.heap.size, 1, none⟩ = some (.slice p.a2 d.reps.length p.c2) := cell_of b1 rfl
  have y0 : W.cell? ⟨w.heap.size + 1, 0, none⟩ = some (.int .i64 x.svc) := cell_of b2 rfl
  have y1 : W.cell? ⟨w.heap.size + 1, 1, none⟩ = some (.int .i64 x.host) := cell_of b2 rfl
  have HC := Lib.hid (c_ContainsR p.a2 p.c2 d.reps x r hr W (hd.on B0 (Nat.le_refl _)).reps)
  clear hr hd B0 b1 b2
  unfold woA at h1
  rw [h2, h1] at x1 y0 y1
  generalize hA : w.heap.size = B at *
  go_enter Tryz.func100, Tryz.ntmps100
  go_wp2_with (fail)
  rw [← h1, ← h2]
  clear h1 h2
  go_at_call 128
  refine HC.out.mono ?_
  rintro e w1 ⟨rfl, b1⟩
  have K1 := Lib.hid b1
  clear b1 x1 y0 y1
  go_wp2_with (fail)
  go_ret
  exact ⟨rfl, below_join HB.out K1.out hle⟩
end Go.Proofs.YtbbadnlaelgmlaaGreat

namespace Go.Proofs.YtbbadnlaelgmlaaGreat
open Go.RowKit
set_option maxRecDepth 100000
set_option linter.unusedVariables false
set_option linter.unusedSimpArgs false

theorem where_take {l : List Rep} {k : Nat} {x : Rep} (h : l[k]? = some x) (s : Int) : whereD (l.take (k + 1)) s = whereD (l.take k) s ++ if x.svc == s then [x.host] else [] := by
  rw [List.take_add_one, h]; exact where_snoc _ _ _
theorem where_take_len {l : List Rep} {k : Nat} (hk : k ≤ l.length) (s : Int) : (whereD (l.take k) s).length ≤ k := by
  have := where_len (l.take k) s
  rw [List.length_take] at this; omega
set_option maxHeartbeats 16000000 in
theorem c_woWhere (p : WP) (d : WorldD) (s : Int) (hm : d.reps.length ≤ 1000) (w : World) (h : WoAt w p d) :
    Calls Tryz.prog 97 #[.agg (woA p d), .int .i64 s] w fun e w' => ∃ v, e = .returned v ∧ w'.ownsRow w.heap.size 3 1 v (whereD d.reps s).length (ints (whereD d.reps s)) ∧ Below w.heap.size w w' := by
  unfold woA
  obtain ⟨W, hW⟩ : ∃ W, W = w.alloc (.cells (woA p d) 36) := ⟨_, rfl⟩
  have B0 : Below w.heap.size w W := by subst hW; exact (Below.refl _ _).alloc (Nat.le_refl _) _
  have HB := Lib.hid B0
  have x1 : W.cell? ⟨w.heap.size, 1, none⟩ = some (.slice p.a2 d.reps.length p.c2) := by subst hW; exact cell_of (box_new _ _ _) rfl
  have H := Lib.hid (h.on B0 (Nat.le_refl _)).reps
  have hc1 := h.reps.1; have hc2 := h.reps.2.1
  unfold maxLen at hc2
  have hle := B0.size
  obtain ⟨i1, hi1, hz1, hz2, hz3⟩ := info_parts int_info
  clear h B0
  unfold woA at hW
  rw [hW] at x1
  generalize hA : w.heap.size = B at *
  go_enter Tryz.func97, Tryz.ntmps97
  go_wp2_with (fail)
  rw [← hW]
  clear hW x1
  go_loopw [5, 11] (fun v i wr => ∃ k : Nat, k ≤ d.reps.length ∧ i = .int .i64 (k : Int) ∧ Hid (Below W.heap.size W wr) ∧ Hid (wr.ownsRow W.heap.size 3 1 v (whereD (d.reps.take k) s).length (ints (whereD (d.reps.take k) s)))) (fun _ i _ => d.reps.length - (intOf i).toNat)
  case atStart => exact ⟨0, Nat.zero_le _, rfl, Lib.hid (Below.refl _ _), Lib.hid (World.ownsRow_nil _ _ _ _)⟩
  case round =>
    obtain ⟨k, hk, rfl, hK, ho⟩ := hrel
    have hki : ((k : Nat) : Int).toNat = k := by omega
    by_cases hlt : k < d.reps.length
    · obtain ⟨x, hx⟩ : ∃ x, d.reps[k]? = some x := ⟨_, List.getElem?_eq_getElem hlt⟩
      have HK := H.out.on hK.out (Nat.le_refl _)
      obtain ⟨b, o, e0, -, -⟩ := HK.at_ hx
      rw [e0] at HK
      obtain ⟨y0, y1⟩ := rep_at HK hx
      have HX := Lib.hid hx
      have hkl : (k : Int) < (d.reps.length : Int) := by omega
      have hln : (whereD (d.reps.take k) s).length ≤ 1000 := Nat.le_trans (where_take_len hk s) (by omega)
      obtain ⟨nn, hnn⟩ : ∃ m, m = (whereD (d.reps.take k) s).length := ⟨_, rfl⟩
      rw [← hnn] at ho hln
      have HNN := Lib.hid hnn
      obtain ⟨As, cs, rfl⟩ := own_shape ho.out
      have hz4 := hK.out.size
      obtain ⟨V, hV⟩ : ∃ V, V = wr.alloc (.cells #[.int .i64 x.svc, .int .i64 x.host] 53) := ⟨_, rfl⟩
      have bV : Below wr.heap.size wr V := by subst hV; exact (Below.refl _ _).alloc (Nat.le_refl _) _
      have HKV := Lib.hid (below_join hK.out bV hK.out.size)
      have HOV := Lib.hid (own_on ho.out bV (Nat.le_refl _))
      have z0 : V.cell? ⟨wr.heap.size, 0, none⟩ = some (.int .i64 x.svc) := by subst hV; exact cell_of (box_new _ _ _) rfl
      have z1 : V.cell? ⟨wr.heap.size, 1, none⟩ = some (.int .i64 x.host) := by subst hV; exact cell_of (box_new _ _ _) rfl
      have hz5 := bV.size
      clear hnn hx HK bV
      rw [e0]
      rcases hf : (x.svc == s) with _ | _
      · have HO := Lib.hid (show V.ownsRow W.heap.size 3 1 (.slice As nn cs) (whereD (d.reps.take (k + 1)) s).length (ints (whereD (d.reps.take (k + 1)) s)) by
          rw [where_take HX.out, hf]
          simp only [Bool.false_eq_true, if_false, List.append_nil]
          rw [← HNN.out]; exact HOV.out)
        rw [hV] at z0 z1
        go_wp2_with (fail)
        rw [← hV]
        clear hV
        go_roundw
        case rel => exact ⟨k + 1, by omega, by go_num, HKV, HO⟩
        case measure => simp only [intOf]; omega
      · have HFF := Lib.hid hf
        have HVS := Lib.hid (show V.heap.size = wr.heap.size + 1 by rw [hV, World.size_alloc])
        rw [hV] at z0 z1
        go_wp2_with (at_builtin; rw [← hV]; refine wpList_append_lies _ rfl _ _ 91 rfl W.heap.size 3 i1 (.int .i64 0) 1 8 Tryz.underlying91 hi1 hz1 hz2 hz3 rfl (by decide) (.slice As nn cs) nn _ rfl (HOV.out.alloc _) ⟨wr.heap.size + 1, 0, none⟩ 1 1 [.int .i64 x.host] rfl rfl (by rw [← HVS.out]; exact World.news_of_block (heap_alloc_new _ _)) (by simp [Value.oneCell']) (by decide) (by unfold maxLen; omega) (by omega) (by simp; omega) (V.heap.size + 1) (by simp) ?_; intro g4 cap4 Z hown hgrow _ _; have HBZ := Lib.hid ((HKV.out.alloc HKV.out.size _).grown hgrow (by have := HKV.out.size; simp; omega) (fun k hk => (ownsRow_lt HOV.out hk).1)); have HOZ := Lib.hid hown; clear hown hgrow)
        have HO := Lib.hid (show Z.ownsRow W.heap.size 3 1 (.slice (some ⟨g4, 0, none⟩) (nn + 1) cap4) (whereD (d.reps.take (k + 1)) s).length (ints (whereD (d.reps.take (k + 1)) s)) by
          rw [where_take HX.out, HFF.out]
          simp only [if_true]
          rw [List.length_append, List.length_singleton, ← HNN.out, ints_snoc]
          exact HOZ.out)
        clear hV
        go_roundw
        case rel => exact ⟨k + 1, by omega, by go_num, HBZ, HO⟩
        case measure => simp only [intOf]; omega
    · obtain rfl : k = d.reps.length := by omega
      have HO := Lib.hid (show wr.ownsRow W.heap.size 3 1 u5 (whereD d.reps s).length (ints (whereD d.reps s)) by have := ho.out; rwa [List.take_length] at this)
      go_wp2_with (fail)
      go_ret
      exact ⟨_, rfl, own_mono HO.out hle, below_join HB.out hK.out hle⟩
set_option maxHeartbeats 8000000 in
theorem c_woRuns (p : WP) (d : WorldD) (s : Int) (hm : d.reps.length ≤ 1000) (w : World) (h : WoAt w p d) :
    Calls Tryz.prog 95 #[.agg (woA p d), .int .i64 s] w fun e w' => e = .returned (.int .i64 ((whereD d.reps s).length : Int)) ∧ Below w.heap.size w w' := by
  unfold woA
  obtain ⟨W, hW⟩ : ∃ W, W = w.alloc (.cells (woA p d) 36) := ⟨_, rfl⟩
  have B0 : Below w.heap.size w W := by subst hW; exact (Below.refl _ _).alloc (Nat.le_refl _) _
  have HB := Lib.hid B0
  have x0 : W.cell? ⟨w.heap.size, 0, none⟩ = some (.slice p.a1 d.hosts.length p.c1) := by subst hW; exact cell_of (box_new _ _ _) rfl
  have x1 : W.cell? ⟨w.heap.size, 1, none⟩ = some (.slice p.a2 d.reps.length p.c2) := by subst hW; exact cell_of (box_new _ _ _) rfl
  have HC := Lib.hid (c_woWhere p d s hm W (h.on B0 (Nat.le_refl _)))
  have hle := B0.size
  have hln := Nat.le_trans (where_len d.reps s) hm
  clear h B0
  unfold woA at hW HC
  rw [hW] at x0 x1
  generalize hA : w.heap.size = B at *
  obtain ⟨l, hl⟩ : ∃ l, whereD d.reps s = l := ⟨_, rfl⟩
  rw [hl] at hln HC ⊢
  clear hl
  go_enter Tryz.func95, Tryz.ntmps95
  go_wp2_with (fail)
  rw [← hW]
  clear hW x0 x1
  go_at_call 97
  refine HC.out.mono ?_
  rintro e w1 ⟨v, rfl, ho, b1⟩
  obtain ⟨As, cs, rfl⟩ := own_shape ho
  have K1 := Lib.hid b1
  clear b1 ho
  go_wp2_with (fail)
  go_ret
  exact ⟨rfl, below_join HB.out K1.out hle⟩
end Go.Proofs.YtbbadnlaelgmlaaGreat

namespace Go.Proofs.YtbbadnlaelgmlaaGreat
open Go.RowKit
set_option maxRecDepth 100000
set_option linter.unusedVariables false
set_option linter.unusedSimpArgs false

theorem used_take {ss : List Svc} {l : List Rep} {k : Nat} {x : Rep} (h : l[k]? = some x) (host : Int) : usedD ss (l.take (k + 1)) host = usedStep ss host (usedD ss (l.take k) host) x := by
  rw [List.take_add_one, h]; exact used_snoc _ _ _ _
theorem cores_at {xs : List (Svc × SvA)} {m : Nat} {y : Svc × SvA} (h : xs[m]? = some y) : coresAt (svs xs) (m : Int) = y.1.cores := by
  unfold coresAt
  rw [show ((m : Nat) : Int).toNat = m by omega, svs_at h]; rfl
set_option maxHeartbeats 16000000 in
theorem c_woUsed (A : Option Addr) (c : Nat) (xs : List (Svc × SvA)) (p : WP) (d : WorldD) (host : Int) (w : World) (hx : WiAt w A c xs) (h : WoAt w p d) :
    Calls Tryz.prog 93 #[.agg #[.slice A xs.length c], .agg (woA p d), .int .i64 host] w fun e w' => e = .returned (.int .i64 (usedD (svs xs) d.reps host)) ∧ Below w.heap.size w w' := by
  unfold woA
  obtain ⟨W1, h1⟩ : ∃ W, W = w.alloc (.cells #[.slice A xs.length c] 32) := ⟨_, rfl⟩
  obtain ⟨W, h2⟩ : ∃ W, W = W1.alloc (.cells (woA p d) 36) := ⟨_, rfl⟩
  obtain ⟨B0, b1, b2, -⟩ := two_boxes h1 h2
  have HB := Lib.hid B0
  have HF := Lib.hid (fun (X : World) (hX : Below W.heap.size W X) => (⟨cell_of (box_on b1 hX (Nat.le_refl _)) rfl, cell_of (box_on b2 hX (Nat.le_refl _)) rfl⟩ : X.cell? ⟨w.heap.size, 0, none⟩ = some (.slice A xs.length c) ∧ X.cell? ⟨w.heap.size + 1, 1, none⟩ = some (.slice p.a2 d.reps.length p.c2)))
  have H := Lib.hid (h.on B0 (Nat.le_refl _)).reps
  have HX := Lib.hid (hx.on B0 (Nat.le_refl _))
  have hc1 := h.reps.1; have hc2 := h.reps.2.1; have hc3 := hx.row.1; have hc4 := hx.row.2.1
  unfold maxLen at hc2 hc4
  have hle := B0.size
  have HSL := Lib.hid (svs_len xs)
  obtain ⟨x0, x1⟩ := HF.out W (Below.refl _ _)
  clear h hx B0 b1 b2
  unfold woA at h2
  rw [h2, h1] at x0 x1
  generalize hA : w.heap.size = B at *
  go_enter Tryz.func93, Tryz.ntmps93
  go_wp2_with (fail)
  rw [← h1, ← h2]
  clear h1 h2 x0 x1
  go_loopw [7, 13] (fun v i wr => ∃ (k : Nat) (acc : Int), k ≤ d.reps.length ∧ v = .int .i64 acc ∧ i = .int .i64 (k : Int) ∧ Hid (acc = usedD (svs xs) (d.reps.take k) host) ∧ Hid (Below W.heap.size W wr)) (fun _ i _ => d.reps.length - (intOf i).toNat)
  case atStart => exact ⟨0, 0, Nat.zero_le _, rfl, rfl, Lib.hid rfl, Lib.hid (Below.refl _ _)⟩
  case round =>
    obtain ⟨k, acc, hk, rfl, rfl, hacc, hK⟩ := hrel
    have hki : ((k : Nat) : Int).toNat = k := by omega
    by_cases hlt : k < d.reps.length
    · obtain ⟨⟨sv, ho⟩, hx⟩ : ∃ x, d.reps[k]? = some x := ⟨_, List.getElem?_eq_getElem hlt⟩
      have HK := H.out.on hK.out (Nat.le_refl _)
      obtain ⟨b, o, e0, -, -⟩ := HK.at_ hx
      rw [e0] at HK
      obtain ⟨y0, y1⟩ := rep_at HK hx
      simp only at y0 y1
      have HXX := Lib.hid hx
      have hkl : (k : Int) < (d.reps.length : Int) := by omega
      obtain ⟨V, hV⟩ : ∃ V, V = wr.alloc (.cells #[.int .i64 sv, .int .i64 ho] 53) := ⟨_, rfl⟩
      have bV : Below wr.heap.size wr V := by subst hV; exact (Below.refl _ _).alloc (Nat.le_refl _) _
      have HKV := Lib.hid (below_join hK.out bV hK.out.size)
      have z0 : V.cell? ⟨wr.heap.size, 0, none⟩ = some (.int .i64 sv) := by subst hV; exact cell_of (box_new _ _ _) rfl
      have z1 : V.cell? ⟨wr.heap.size, 1, none⟩ = some (.int .i64 ho) := by subst hV; exact cell_of (box_new _ _ _) rfl
      obtain ⟨x0, x1⟩ := HF.out V HKV.out
      clear hx HK bV
      rw [e0]
      rcases hf : (ho == host) with _ | _
      · have HO := Lib.hid (show acc = usedD (svs xs) (d.reps.take (k + 1)) host by
          rw [used_take HXX.out]; unfold usedStep
          rw [show (({ svc := sv, host := ho } : Rep).host == host) = false from hf]
          simp only [Bool.false_and, Bool.false_eq_true, if_false]
          exact hacc.out)
        rw [hV] at z0 z1 x0 x1
        go_wp2_with (fail)
        rw [← hV]
        clear hV
        go_roundw
        case rel => exact ⟨k + 1, acc, by omega, rfl, by go_num, HO, HKV⟩
        case measure => simp only [intOf]; omega
      · obtain ⟨q, hq⟩ : ∃ q, ixB sv (xs.length : Int) = q := ⟨_, rfl⟩
        have HQ := Lib.hid hq
        have HFF := Lib.hid hf
        rw [hV] at z0 z1 x0 x1
        clear hq
        go_wp2_with (fail)
        rw [← hV] at z0 z1 x0 x1 ⊢
        clear hV
        go_at_call 43
        refine (c_woIsIndex sv (xs.length : Int) q HQ.out V).mono ?_
        rintro e wx ⟨rfl, hwx⟩
        rw [hwx]
        clear hwx wx
        cases q
        · have HO := Lib.hid (show acc = usedD (svs xs) (d.reps.take (k + 1)) host by
            rw [used_take HXX.out]; unfold usedStep
            rw [HSL.out, show ixB ({ svc := sv, host := ho } : Rep).svc (xs.length : Int) = false from HQ.out]
            simp only [Bool.and_false, Bool.false_eq_true, if_false]
            exact hacc.out)
          go_wp2_with (fail)
          go_roundw
          case rel => exact ⟨k + 1, acc, by omega, rfl, by go_num, HO, HKV⟩
          case measure => simp only [intOf]; omega
        · have hr := ixB_iff.1 HQ.out
          obtain ⟨m, rfl⟩ : ∃ m : Nat, sv = m := ⟨sv.toNat, by omega⟩
          have hml : m < xs.length := by omega
          obtain ⟨y, hy⟩ : ∃ y, xs[m]? = some y := ⟨_, List.getElem?_eq_getElem hml⟩
          have HXV := HX.out.on HKV.out (Nat.le_refl _)
          obtain ⟨pb, po, rfl, -, -⟩ := HXV.row.at_ hy
          have t0 := (sv_at HXV.row hy).1
          have hmi : ((m : Nat) : Int).toNat = m := by omega
          have hml2 : (m : Int) < (xs.length : Int) := by omega
          have hm0 : (0 : Int) ≤ (m : Int) := by omega
          obtain ⟨z, hz⟩ : ∃ z, IntKind.i64.wrap (acc + y.1.cores) = z := ⟨_, rfl⟩
          have HO := Lib.hid (show z = usedD (svs xs) (d.reps.take (k + 1)) host by
            rw [used_take HXX.out]; unfold usedStep
            rw [HSL.out, show ixB ({ svc := ((m : Nat) : Int), host := ho } : Rep).svc (xs.length : Int) = true from HQ.out, show (({ svc := ((m : Nat) : Int), host := ho } : Rep).host == host) = true from HFF.out]
            simp only [Bool.and_true, if_true]
            rw [cores_at hy, ← hz, hacc.out])
          clear hr HXV hy
          go_wp2_with (fail)
          go_roundw
          case rel => exact ⟨k + 1, z, by omega, rfl, by go_num, HO, HKV⟩
          case measure => simp only [intOf]; omega
    · obtain rfl : k = d.reps.length := by omega
      have HO := Lib.hid (show acc = usedD (svs xs) d.reps host by have := hacc.out; rwa [List.take_length] at this)
      go_wp2_with (fail)
      go_ret
      exact ⟨(show Ending.returned (.int .i64 acc) = .returned (.int .i64 (usedD (svs xs) d.reps host)) by rw [HO.out]), below_join HB.out hK.out hle⟩
end Go.Proofs.YtbbadnlaelgmlaaGreat

namespace Go.Proofs.YtbbadnlaelgmlaaGreat
open Go.RowKit
set_option maxRecDepth 100000
set_option linter.unusedVariables false
set_option linter.unusedSimpArgs false

def RpBox (w : World) (b : Nat) (A : Option Addr) (n c : Nat) : Prop := w.heap[b]? = some (.cells #[.slice A n c] 34 (0, 0))
def XpBox (w : World) (b : Nat) (x : Rep) : Prop := w.heap[b]? = some (.cells #[.int .i64 x.svc, .int .i64 x.host] 53 (0, 0))
theorem RpBox.on {w w' : World} {b : Nat} {A : Option Addr} {n c B : Nat} (h : RpBox w b A n c) (hb : Below B w w') (hB : w.heap.size ≤ B) : RpBox w' b A n c := box_on h hb hB
theorem XpBox.on {w w' : World} {b : Nat} {x : Rep} {B : Nat} (h : XpBox w b x) (hb : Below B w w') (hB : w.heap.size ≤ B) : XpBox w' b x := box_on h hb hB
end Go.Proofs.YtbbadnlaelgmlaaGreat

namespace Go.Proofs.YtbbadnlaelgmlaaGreat
open Go.RowKit
set_option maxRecDepth 100000
set_option linter.unusedVariables false
set_option linter.unusedSimpArgs false

/-- A world whose lists a function has made itself. -/
def OwnW (base : Nat) (w : World) (p : WP) (d : WorldD) : Prop :=
  w.ownsRow base 58 2 (.slice p.a1 d.hosts.length p.c1) d.hosts.length (cellsV 2 hstV d.hosts) ∧ w.ownsRow base 53 2 (.slice p.a2 d.reps.length p.c2) d.reps.length (cellsV 2 repV d.reps)
theorem OwnW.wo {base : Nat} {w : World} {p : WP} {d : WorldD} (h : OwnW base w p d) (hp : ∀ x ∈ d.hosts, x.phase < 256) : WoAt w p d := by
  obtain ⟨A1, c1, e1, r1⟩ := own_rv h.1
  obtain ⟨A2, c2, e2, r2⟩ := own_rv h.2
  injection e1 with e1 _ e1'
  injection e2 with e2 _ e2'
  subst e1 e1' e2 e2'
  exact ⟨r1, r2, hp⟩
theorem OwnW.on {base B : Nat} {w w' : World} {p : WP} {d : WorldD} (h : OwnW base w p d) (hb : Below B w w') (hB : w.heap.size ≤ B) : OwnW base w' p d := ⟨own_on h.1 hb hB, own_on h.2 hb hB⟩
theorem OwnW.mono {base base' : Nat} {w : World} {p : WP} {d : WorldD} (h : OwnW base w p d) (hb : base' ≤ base) : OwnW base' w p d := ⟨own_mono h.1 hb, own_mono h.2 hb⟩
theorem row_store2 {W : World} {b : Nat} {y0 y1 : Value} {T : TypeId} (h : W.heap[b]? = some (.cells #[y0, y1] T (0, 0))) (x0 x1 : Value) :
    ((W.setCell ⟨b, 0, none⟩ x0).setCell ⟨b, 1, none⟩ x1).heap[b]? = some (.cells #[x0, x1] T (0, 0)) := set_field (set_field h x0) x1
end Go.Proofs.YtbbadnlaelgmlaaGreat

namespace Go.Proofs.YtbbadnlaelgmlaaGreat
open Go.RowKit
set_option maxRecDepth 100000
set_option linter.unusedVariables false
set_option linter.unusedSimpArgs false

theorem three_boxes {w : World} {c1 c2 c3 : Array Value} {T1 T2 T3 : TypeId} {W1 W2 W : World} (h1 : W1 = w.alloc (.cells c1 T1)) (h2 : W2 = W1.alloc (.cells c2 T2)) (h3 : W = W2.alloc (.cells c3 T3)) :
    Below w.heap.size w W ∧ W.heap[w.heap.size]? = some (.cells c1 T1 (0, 0)) ∧ W.heap[w.heap.size + 1]? = some (.cells c2 T2 (0, 0)) ∧ W.heap[w.heap.size + 1 + 1]? = some (.cells c3 T3 (0, 0)) := by
  obtain ⟨e1, b1, b2, s2⟩ := two_boxes h1 h2
  refine ⟨by rw [h3]; exact e1.alloc (by omega) _, by rw [h3]; exact old_heap _ b1, by rw [h3]; exact old_heap _ b2, by rw [h3, ← s2]; exact box_new _ _ _⟩
end Go.Proofs.YtbbadnlaelgmlaaGreat

namespace Go.Proofs.YtbbadnlaelgmlaaGreat
set_option linter.unusedVariables false
set_option linter.unusedSimpArgs false

theorem sumN_le {f g : Nat → Int} : ∀ {n : Nat}, (∀ i, i < n → f i ≤ g i) → sumN f n ≤ sumN g n := by
  intro n
  induction n with
  | zero => intro _; exact Int.le_refl _
  | succ n ih =>
    intro h
    have h1 := ih fun i hi => h i (by omega)
    have h2 := h n (by omega)
    rw [sumN, sumN]; omega
theorem sumN_mul (c : Int) (f : Nat → Int) (n : Nat) : sumN (fun i => c * f i) n = c * sumN f n := by
  induction n with
  | zero => simp [sumN]
  | succ n ih => rw [sumN, sumN, ih, Int.mul_add]
theorem sumN_at {f : Nat → Int} {a n : Nat} (ha : a < n) (hf : ∀ i, i < n → i ≠ a → f i = 0) : sumN f n = f a := by
  have h1 : sumN f n = sumN (fun i => if a = i then f a else 0) n := sumN_ext fun i hi => by
    by_cases e : a = i
    · subst e; rw [if_pos rfl]
    · rw [if_neg e]; exact hf i hi (fun h => e h.symm)
  rw [h1, sumN_one, if_pos ha]
/-- The watts of a host. -/
def hsAt (s : SiteD) (h : Nat) : Hs := (s.hosts[h]?).getD ⟨0, 0, 0, 0⟩
def phAt (d : WorldD) (h : Nat) : Nat := ((d.hosts[h]?).map (·.phase)).getD 0
def watN (s : SiteD) (ss : List Svc) (d : WorldD) (h : Nat) : Int := if phAt d h = 4 then 0 else (hsAt s h).idle + (hsAt s h).per * usedD ss d.reps (h : Int)
def brkAt (s : SiteD) (h : Nat) : Int := (rkAt s h).brk
/-- The sum over the hosts that belong to it. -/
def loadN (s : SiteD) (ss : List Svc) (d : WorldD) (b : Nat → Bool) : Int := sumN (fun h => if b h = true then watN s ss d h else 0) s.hosts.length
def isHost (k : Int) (h : Nat) : Bool := (h : Int) == k
def isBrk (s : SiteD) (k : Int) (h : Nat) : Bool := brkAt s h == k
def isFeed (s : SiteD) (k : Int) (h : Nat) : Bool := feedAt s h == k
theorem hsAt_eq {s : SiteD} {h : Nat} {x : Hs} (hx : s.hosts[h]? = some x) : hsAt s h = x := by unfold hsAt; rw [hx]; rfl
theorem phAt_eq {d : WorldD} {h : Nat} {x : Hst} (hx : d.hosts[h]? = some x) : phAt d h = x.phase := by unfold phAt; rw [hx]; rfl
section
variable {s : SiteD} {ss : List Svc} {d : WorldD}
theorem host_ok (ok : WorldOk s ss d) {h : Nat} (hh : h < s.hosts.length) : ∃ x y, s.hosts[h]? = some x ∧ d.hosts[h]? = some y ∧ (0 ≤ x.rack ∧ x.rack < s.racks.length) ∧ (0 ≤ x.idle ∧ x.idle ≤ 10000) ∧ (0 ≤ x.per ∧ x.per ≤ 1000) := by
  have h1 := siteOk_iff.1 ok.1
  have hl := ok.2.2.1
  have hm := h1.hosts _ (List.getElem_mem hh)
  exact ⟨_, _, List.getElem?_eq_getElem hh, List.getElem?_eq_getElem (by omega), hm.1, hm.2.2.1, hm.2.2.2⟩
theorem used_bd (ok : WorldOk s ss d) (h : Int) : 0 ≤ usedD ss d.reps h ∧ usedD ss d.reps h ≤ 24000 := (sums_ok ok).2.2.1 h
theorem used_sum (ok : WorldOk s ss d) : sumN (fun i => usedD ss d.reps i) s.hosts.length ≤ 24000 := by
  obtain ⟨h1, h2, -, h4⟩ := sums_ok ok
  rw [← h2]
  have h5 : sumN (fun i => (((whereD d.reps i).length : Nat) : Int) * coresAt ss i) ss.length ≤ sumN (fun i => 1000 * (((whereD d.reps i).length : Nat) : Int)) ss.length := sumN_le fun i hi => by
    have := h4 i hi
    rw [Int.mul_comm 1000]
    exact Int.mul_le_mul_of_nonneg_left this.2 (by omega)
  rw [sumN_mul, h1] at h5
  have := ok.2.2.2.2.1
  omega
/-- How great the watts of a host can be. -/
def capN (ss : List Svc) (d : WorldD) (h : Nat) : Int := 10000 + 1000 * usedD ss d.reps (h : Int)
theorem wat_bd (ok : WorldOk s ss d) {h : Nat} (hh : h < s.hosts.length) : 0 ≤ watN s ss d h ∧ watN s ss d h ≤ capN ss d h ∧ watN s ss d h ≤ 24010000 := by
  obtain ⟨x, y, hx, hy, -, h2, h3⟩ := host_ok ok hh
  have hu := used_bd ok (h : Int)
  unfold watN capN
  rw [hsAt_eq hx]
  have p1 : 0 ≤ x.per * usedD ss d.reps (h : Int) := Int.mul_nonneg h3.1 hu.1
  have p2 : x.per * usedD ss d.reps (h : Int) ≤ 1000 * usedD ss d.reps (h : Int) := Int.mul_le_mul_of_nonneg_right h3.2 hu.1
  split <;> omega
theorem cap_sum (ok : WorldOk s ss d) : sumN (capN ss d) s.hosts.length ≤ 24160000 := by
  have h0 : sumN (capN ss d) s.hosts.length = sumN (fun _ => 10000) s.hosts.length + 1000 * sumN (fun h => usedD ss d.reps (h : Int)) s.hosts.length := by
    rw [← sumN_mul, ← sumN_add]; rfl
  have h1 := used_sum ok
  have h2 := (siteOk_iff.1 ok.1).nhosts
  have h3 := sumN_bound (f := fun _ => 10000) (m := 10000) (n := s.hosts.length) (fun _ _ => ⟨by omega, by omega⟩)
  omega
/-- A load is at least 0 and less than the greatest capacity of an arc. -/
theorem load_bd (ok : WorldOk s ss d) (b : Nat → Bool) : 0 ≤ loadN s ss d b ∧ loadN s ss d b ≤ 24160000 := by
  unfold loadN
  have h1 := sumN_bound (f := fun h => if b h = true then watN s ss d h else 0) (m := 24010000) (n := s.hosts.length) (fun i hi => by have := wat_bd ok hi; split <;> omega)
  have h2 := sumN_le (f := fun h => if b h = true then watN s ss d h else 0) (g := capN ss d) (n := s.hosts.length) (fun i hi => by have := wat_bd ok hi; have := used_bd ok (i : Int); unfold capN at *; split <;> omega)
  have h3 := cap_sum ok
  exact ⟨h1.1, by omega⟩
/-- The sums so far. -/
theorem part_bd (ok : WorldOk s ss d) (b : Nat → Bool) {k : Nat} (hk : k ≤ s.hosts.length) : 0 ≤ sumN (fun h => if b h = true then watN s ss d h else 0) k ∧ sumN (fun h => if b h = true then watN s ss d h else 0) k ≤ 400000000 := by
  have h1 := sumN_bound (f := fun h => if b h = true then watN s ss d h else 0) (m := 24010000) (n := k) (fun i hi => by have := wat_bd ok (h := i) (by omega); split <;> omega)
  have h2 := (siteOk_iff.1 ok.1).nhosts
  exact ⟨h1.1, by omega⟩
theorem load_host (k : Int) : loadN s ss d (isHost k) = if 0 ≤ k ∧ k < s.hosts.length then watN s ss d k.toNat else 0 := by
  unfold loadN
  split
  · rename_i h
    rw [sumN_at (a := k.toNat) (by omega) (fun i hi hne => by rw [if_neg]; unfold isHost; simp; omega), if_pos]
    unfold isHost; simp; omega
  · rename_i h
    rw [sumN_ext (g := fun _ => 0) (fun i hi => by rw [if_neg]; unfold isHost; simp; omega), sumN_zero]
theorem rack_in (ok : WorldOk s ss d) {h : Nat} (hh : h < s.hosts.length) : 0 ≤ rackAt s h ∧ rackAt s h < s.racks.length := by
  obtain ⟨x, y, hx, -, h1, -⟩ := host_ok ok hh
  unfold rackAt; rw [hx]; exact h1
theorem rk_in (ok : WorldOk s ss d) {h : Nat} (hh : h < s.hosts.length) : s.racks[(rackAt s h).toNat]? = some (rkAt s h) := by
  have := rack_in ok hh
  unfold rkAt
  rw [List.getElem?_eq_getElem (show (rackAt s h).toNat < s.racks.length by omega)]; rfl
theorem brk_in (ok : WorldOk s ss d) {h : Nat} (hh : h < s.hosts.length) : 0 ≤ brkAt s h ∧ brkAt s h < s.brks.length := by
  have h1 := (siteOk_iff.1 ok.1).racks _ (List.mem_of_getElem? (rk_in ok hh))
  exact h1.2.1
end
end Go.Proofs.YtbbadnlaelgmlaaGreat
