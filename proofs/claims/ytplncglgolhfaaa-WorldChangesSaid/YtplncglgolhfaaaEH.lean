/-
  DERIVED. Replicas and host states compared; Index, Contains, Has; slices.Equal; Same (stage 13).
-/
import Derived.Test.YtplncglgolhfaaaEB
import Derived.Laws.StructEq
namespace Go.Proofs.Ytplncglgolhfaaa
open Go.RowKit
set_option maxRecDepth 100000
set_option linter.unusedVariables false
set_option linter.unusedSimpArgs false

theorem take_snoc {α : Type} {l m : List α} {k : Nat} {x : α} (h : l.take k = m.take k) (h1 : l[k]? = some x) (h2 : m[k]? = some x) : l.take (k + 1) = m.take (k + 1) := by
  rw [List.take_add_one, List.take_add_one, h, h1, h2]
theorem rp_fields : Try.prog.underlying 41 = some (.struct (Try.prog.fieldsOf 41)) := by kernel_rfl
theorem rp_list : (Try.prog.fieldsOf 41).toList.map (fun f => (f.name, f.type, f.offset)) = [("Service", 3, 0), ("Host", 3, 1)] := by kernel_rfl
theorem rp_stood : Try.prog.stoodInHeld 41 = false := by kernel_rfl
theorem rp_guard : Try.prog.eqGuardType Try.prog.depth 41 = false := by kernel_rfl
theorem guardRp (op : BinOp) (x y : Operand) (xs ys : Array Value) (w : World) : (eqGuard op 41 x y (.agg xs) (.agg ys)).run Try.prog w = .ok () w := run_eqGuard_agg w op _ x y xs ys rp_guard
theorem eqFieldsRp (a b : Int) (s t : Int) (w : World) : (Op.eqFields 9999 #[.int .i64 a, .int .i64 s] #[.int .i64 b, .int .i64 t] (Try.prog.fieldsOf 41).toList).run Try.prog w = .ok ((a == b) && (s == t)) w := by
  obtain ⟨f, g, e, h1, h2⟩ : ∃ f g : Field, (Try.prog.fieldsOf 41).toList = [f, g] ∧ (f.name, f.type, f.offset) = ("Service", 3, 0) ∧ (g.name, g.type, g.offset) = ("Host", 3, 1) := by
    have := rp_list
    match h : (Try.prog.fieldsOf 41).toList with
    | [f, g] => rw [h] at this; simp only [List.map_cons, List.map_nil, List.cons.injEq] at this; exact ⟨f, g, rfl, this.1, this.2.1⟩
    | [] => rw [h] at this; cases this
    | [f] => rw [h] at this; simp at this
    | f :: g :: i :: r => rw [h] at this; simp at this
  rw [e]
  obtain ⟨fn, ft, fo⟩ : f.name = "Service" ∧ f.type = 3 ∧ f.offset = 0 := by simpa using h1
  obtain ⟨gn, gt, go⟩ : g.name = "Host" ∧ g.type = 3 ∧ g.offset = 1 := by simpa using h2
  simp only [Op.eqFields, fn, ft, fo, gn, gt, go]
  cases hab : (a == b) <;> cases hst : (s == t) <;> simp [go_sem, hab, hst]
theorem neqRp (a b : Int) (s t : Int) (w : World) : (binOp .neq 41 (.agg #[.int .i64 a, .int .i64 s]) (.agg #[.int .i64 b, .int .i64 t])).run Try.prog w = .ok (.bool (!((a == b) && (s == t)))) w := by
  rw [run_neq_struct, run_equalIn_agg w 9999 _ _ _ rp_fields rp_stood, eqFieldsRp]
  rfl
theorem eqlRp (a b : Int) (s t : Int) (w : World) : (binOp .eql 41 (.agg #[.int .i64 a, .int .i64 s]) (.agg #[.int .i64 b, .int .i64 t])).run Try.prog w = .ok (.bool ((a == b) && (s == t))) w := by
  rw [run_eql_struct, run_equalIn_agg w 9999 _ _ _ rp_fields rp_stood, eqFieldsRp]
  rfl
theorem ho_fields : Try.prog.underlying 51 = some (.struct (Try.prog.fieldsOf 51)) := by kernel_rfl
theorem ho_list : (Try.prog.fieldsOf 51).toList.map (fun f => (f.name, f.type, f.offset)) = [("Phase", 49, 0), ("Firmware", 3, 1)] := by kernel_rfl
theorem ho_stood : Try.prog.stoodInHeld 51 = false := by kernel_rfl
theorem ho_guard : Try.prog.eqGuardType Try.prog.depth 51 = false := by kernel_rfl
theorem guardHo (op : BinOp) (x y : Operand) (xs ys : Array Value) (w : World) : (eqGuard op 51 x y (.agg xs) (.agg ys)).run Try.prog w = .ok () w := run_eqGuard_agg w op _ x y xs ys ho_guard
theorem eqFieldsHo (a b : Int) (s t : Int) (w : World) : (Op.eqFields 9999 #[.int .u8 a, .int .i64 s] #[.int .u8 b, .int .i64 t] (Try.prog.fieldsOf 51).toList).run Try.prog w = .ok ((a == b) && (s == t)) w := by
  obtain ⟨f, g, e, h1, h2⟩ : ∃ f g : Field, (Try.prog.fieldsOf 51).toList = [f, g] ∧ (f.name, f.type, f.offset) = ("Phase", 49, 0) ∧ (g.name, g.type, g.offset) = ("Firmware", 3, 1) := by
    have := ho_list
    match h : (Try.prog.fieldsOf 51).toList with
    | [f, g] => rw [h] at this; simp only [List.map_cons, List.map_nil, List.cons.injEq] at this; exact ⟨f, g, rfl, this.1, this.2.1⟩
    | [] => rw [h] at this; cases this
    | [f] => rw [h] at this; simp at this
    | f :: g :: i :: r => rw [h] at this; simp at this
  rw [e]
  obtain ⟨fn, ft, fo⟩ : f.name = "Phase" ∧ f.type = 49 ∧ f.offset = 0 := by simpa using h1
  obtain ⟨gn, gt, go⟩ : g.name = "Firmware" ∧ g.type = 3 ∧ g.offset = 1 := by simpa using h2
  simp only [Op.eqFields, fn, ft, fo, gn, gt, go]
  cases hab : (a == b) <;> cases hst : (s == t) <;> simp [go_sem, hab, hst]
theorem neqHo (a b : Int) (s t : Int) (w : World) : (binOp .neq 51 (.agg #[.int .u8 a, .int .i64 s]) (.agg #[.int .u8 b, .int .i64 t])).run Try.prog w = .ok (.bool (!((a == b) && (s == t)))) w := by
  rw [run_neq_struct, run_equalIn_agg w 9999 _ _ _ ho_fields ho_stood, eqFieldsHo]
  rfl
theorem eqlHo (a b : Int) (s t : Int) (w : World) : (binOp .eql 51 (.agg #[.int .u8 a, .int .i64 s]) (.agg #[.int .u8 b, .int .i64 t])).run Try.prog w = .ok (.bool ((a == b) && (s == t))) w := by
  rw [run_eql_struct, run_equalIn_agg w 9999 _ _ _ ho_fields ho_stood, eqFieldsHo]
  rfl
theorem rep_beq {x y : Rep} : ((x.svc == y.svc) && (x.host == y.host)) = decide (x = y) := by
  cases x; cases y
  rw [Bool.eq_iff_iff]
  simp
theorem hst_beq {x y : Hst} : (((x.phase : Int) == (y.phase : Int)) && (x.fw == y.fw)) = decide (x = y) := by
  cases x; cases y
  rw [Bool.eq_iff_iff]
  simp
  omega
end Go.Proofs.Ytplncglgolhfaaa
