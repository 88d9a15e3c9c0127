/-
  DERIVED. Several texts in one.
-/
import Derived.Test.YtpokpgnclohiiaaQV61
import Derived.BigRegionIn
set_option linter.unusedVariables false
set_option linter.unusedSimpArgs false

namespace Go.Proofs.Ytpokpgnclohiiaa.v6
open Go.RowKit Go.Shelf Go.BigFrame
attribute [local go_sem] Oper.semAt_some
set_option maxRecDepth 100000

/-- The operations. -/
def rgOps : Array Oper := #[{ dst := some 16, op := Go.Op.load 3 (Go.Operand.tmp 5), type := 3, pos := "levels.go:52", after := #[], guard := none }, { dst := some 17, op := Go.Op.binOp Go.BinOp.add 3 (Go.Operand.tmp 16) (Go.Operand.const (Go.Value.int Go.IntKind.i64 1)) 3, type := 3, pos := "levels.go:52", after := #[{ on := 0, ground := Go.Ground.data }], guard := none }, { dst := some 18, op := Go.Op.load 3 (Go.Operand.tmp 6), type := 3, pos := "levels.go:52", after := #[], guard := none }, { dst := some 19, op := Go.Op.move (Go.Operand.tmp 7), type := 3, pos := "levels.go:52", after := #[], guard := none }, { dst := some 20, op := Go.Op.binOp Go.BinOp.add 3 (Go.Operand.tmp 18) (Go.Operand.tmp 19) 3, type := 3, pos := "levels.go:52", after := #[{ on := 2, ground := Go.Ground.data }, { on := 3, ground := Go.Ground.data }], guard := none }, { dst := some 21, op := Go.Op.load 3 (Go.Operand.tmp 3), type := 3, pos := "levels.go:52", after := #[], guard := none }, { dst := some 22, op := Go.Op.binOp Go.BinOp.sub 3 (Go.Operand.tmp 20) (Go.Operand.tmp 21) 3, type := 3, pos := "levels.go:52", after := #[{ on := 4, ground := Go.Ground.data }, { on := 5, ground := Go.Ground.data }], guard := none }, { dst := some 23, op := Go.Op.call { callee := Go.Callee.builtin Go.Builtin.max, args := #[Go.Operand.const (Go.Value.int Go.IntKind.i64 0), Go.Operand.tmp 22], argTypes := #[3, 3] }, type := 3, pos := "levels.go:52", after := #[{ on := 6, ground := Go.Ground.data }], guard := none }, { dst := none, op := Go.Op.store 3 (Go.Operand.tmp 5) (Go.Operand.tmp 17), type := 0, pos := "levels.go:52", after := #[{ on := 1, ground := Go.Ground.data }, { on := 0, ground := Go.Ground.phase }, { on := 1, ground := Go.Ground.phase }, { on := 2, ground := Go.Ground.textOnly Go.Departure.inlinedCapture }, { on := 3, ground := Go.Ground.textOnly Go.Departure.lateStores }, { on := 4, ground := Go.Ground.textOnly Go.Departure.inlinedCapture }, { on := 5, ground := Go.Ground.textOnly Go.Departure.inlinedCapture }, { on := 6, ground := Go.Ground.textOnly Go.Departure.inlinedCapture }, { on := 7, ground := Go.Ground.textOnly Go.Departure.lateStoresUnsure }], guard := none }, { dst := none, op := Go.Op.store 3 (Go.Operand.tmp 6) (Go.Operand.tmp 23), type := 0, pos := "levels.go:52", after := #[{ on := 7, ground := Go.Ground.data }, { on := 8, ground := Go.Ground.chain }, { on := 0, ground := Go.Ground.phase }, { on := 1, ground := Go.Ground.phase }, { on := 2, ground := Go.Ground.phase }, { on := 3, ground := Go.Ground.phase }, { on := 4, ground := Go.Ground.phase }, { on := 5, ground := Go.Ground.phase }, { on := 6, ground := Go.Ground.phase }, { on := 7, ground := Go.Ground.phase }, { on := 8, ground := Go.Ground.phase }], guard := none }]
section
variable (l d : Nat) (Q : Exit → Act → World → Prop) (v0 v1 v2 v4 v8 v9 v10 v11 v12 v13 v14 v15 v16 v17 v18 v19 v20 v21 v22 v23 v24 v25 v26 v27 v28 : Value) (bC bt bl : Nat) (a k z C m : Int) (W0 W1 W2 : World)
  (hw1 : IntKind.i64.wrap (k + 1) = k + 1) (hw2 : IntKind.i64.wrap (z + a) = z + a) (hw3 : IntKind.i64.wrap (z + a - C) = z + a - C) (hmx : (if C < z + a then z + a - C else 0) = m)
  (a1 : W0.cell? ⟨bC, 0, none⟩ = some (.int .i64 C)) (a2 : W0.cell? ⟨bt, 0, none⟩ = some (.int .i64 k)) (a3 : W0.cell? ⟨bl, 0, none⟩ = some (.int .i64 z)) (af : W0.frozen? ⟨bt, 0, none⟩ = false)
  (e1 : W0.setCell ⟨bt, 0, none⟩ (.int .i64 (k + 1)) = W1) (b1 : W1.cell? ⟨bC, 0, none⟩ = some (.int .i64 C)) (b3 : W1.cell? ⟨bl, 0, none⟩ = some (.int .i64 z)) (bf : W1.frozen? ⟨bl, 0, none⟩ = false)
  (e2 : W1.setCell ⟨bl, 0, none⟩ (.int .i64 m) = W2)
  (hQ : Q .normal { tmps := #[v0, v1, v2, .pointer (some ⟨bC, 0, none⟩), v4, .pointer (some ⟨bt, 0, none⟩), .pointer (some ⟨bl, 0, none⟩), .int .i64 a, v8, v9, v10, v11, v12, v13, v14, v15, .int .i64 k, .int .i64 (k + 1), .int .i64 z, .int .i64 a, .int .i64 (z + a), .int .i64 C, .int .i64 (z + a - C), .int .i64 m, v24, v25, v26, v27, v28], defers := [] } W2)
include v0 v1 v2 v4 v8 v9 v10 v11 v12 v13 v14 v15 v16 v17 v18 v19 v20 v21 v22 v23 v24 v25 v26 v27 v28 hw1 hw2 hw3 hmx a1 a2 a3 af e1 b1 b3 bf e2 hQ
theorem rg511 : wpAnyIn (Fence.wide.inRound l) d Try.prog .any rgOps Q 1 #[true, true, true, true, true, true, true, true, true, false] { tmps := #[v0, v1, v2, .pointer (some ⟨bC, 0, none⟩), v4, .pointer (some ⟨bt, 0, none⟩), .pointer (some ⟨bl, 0, none⟩), .int .i64 a, v8, v9, v10, v11, v12, v13, v14, v15, .int .i64 k, .int .i64 (k + 1), .int .i64 z, .int .i64 a, .int .i64 (z + a), .int .i64 C, .int .i64 (z + a - C), .int .i64 m, v24, v25, v26, v27, v28], defers := [] } W1 := by
  have _h := [v16, v17, v18, v19, v20, v21, v22, v23]
  have _g := And.intro hw1 (And.intro hw2 (And.intro hw3 (And.intro hmx (And.intro a1 (And.intro a2 (And.intro a3 (And.intro af (And.intro e1 (And.intro b1 b3)))))))))
  refine wpAnyIn_ready (rs := [9]) (by kernel_rfl) (by simp) ?_
  refine (allReadyIn_want (o := { dst := none, op := Go.Op.store 3 (Go.Operand.tmp 6) (Go.Operand.tmp 23), type := 0, pos := "levels.go:52", after := #[{ on := 7, ground := Go.Ground.data }, { on := 8, ground := Go.Ground.chain }, { on := 0, ground := Go.Ground.phase }, { on := 1, ground := Go.Ground.phase }, { on := 2, ground := Go.Ground.phase }, { on := 3, ground := Go.Ground.phase }, { on := 4, ground := Go.Ground.phase }, { on := 5, ground := Go.Ground.phase }, { on := 6, ground := Go.Ground.phase }, { on := 7, ground := Go.Ground.phase }, { on := 8, ground := Go.Ground.phase }], guard := none }) rfl rfl (fun K hK => ?_) AllReadyIn.nil)
  · (first | gi_big_move | gi_big_op)
    try rw [e2]
    exact hK _ _ (wpAnyIn_done (by kernel_rfl) hQ 0)
theorem rg255 : wpAnyIn (Fence.wide.inRound l) d Try.prog .any rgOps Q 2 #[true, true, true, true, true, true, true, true, false, false] { tmps := #[v0, v1, v2, .pointer (some ⟨bC, 0, none⟩), v4, .pointer (some ⟨bt, 0, none⟩), .pointer (some ⟨bl, 0, none⟩), .int .i64 a, v8, v9, v10, v11, v12, v13, v14, v15, .int .i64 k, .int .i64 (k + 1), .int .i64 z, .int .i64 a, .int .i64 (z + a), .int .i64 C, .int .i64 (z + a - C), .int .i64 m, v24, v25, v26, v27, v28], defers := [] } W0 := by
  have _h := [v16, v17, v18, v19, v20, v21, v22, v23]
  refine wpAnyIn_ready (rs := [8]) (by kernel_rfl) (by simp) ?_
  refine (allReadyIn_want (o := { dst := none, op := Go.Op.store 3 (Go.Operand.tmp 5) (Go.Operand.tmp 17), type := 0, pos := "levels.go:52", after := #[{ on := 1, ground := Go.Ground.data }, { on := 0, ground := Go.Ground.phase }, { on := 1, ground := Go.Ground.phase }, { on := 2, ground := Go.Ground.textOnly Go.Departure.inlinedCapture }, { on := 3, ground := Go.Ground.textOnly Go.Departure.lateStores }, { on := 4, ground := Go.Ground.textOnly Go.Departure.inlinedCapture }, { on := 5, ground := Go.Ground.textOnly Go.Departure.inlinedCapture }, { on := 6, ground := Go.Ground.textOnly Go.Departure.inlinedCapture }, { on := 7, ground := Go.Ground.textOnly Go.Departure.lateStoresUnsure }], guard := none }) rfl rfl (fun K hK => ?_) AllReadyIn.nil)
  · (first | gi_big_move | gi_big_op)
    try rw [e1]
    exact hK _ _ (rg511 l d Q v0 v1 v2 v4 v8 v9 v10 v11 v12 v13 v14 v15 v16 v17 v18 v19 v20 v21 v22 v23 v24 v25 v26 v27 v28 bC bt bl a k z C m W0 W1 W2 hw1 hw2 hw3 hmx a1 a2 a3 af e1 b1 b3 bf e2 hQ)
theorem rg383 : wpAnyIn (Fence.wide.inRound l) d Try.prog .any rgOps Q 2 #[true, true, true, true, true, true, true, false, true, false] { tmps := #[v0, v1, v2, .pointer (some ⟨bC, 0, none⟩), v4, .pointer (some ⟨bt, 0, none⟩), .pointer (some ⟨bl, 0, none⟩), .int .i64 a, v8, v9, v10, v11, v12, v13, v14, v15, .int .i64 k, .int .i64 (k + 1), .int .i64 z, .int .i64 a, .int .i64 (z + a), .int .i64 C, .int .i64 (z + a - C), v23, v24, v25, v26, v27, v28], defers := [] } W1 := by
  have _h := [v16, v17, v18, v19, v20, v21, v22]
  refine wpAnyIn_ready (rs := [7]) (by kernel_rfl) (by simp) ?_
  refine (allReadyIn_want (o := { dst := some 23, op := Go.Op.call { callee := Go.Callee.builtin Go.Builtin.max, args := #[Go.Operand.const (Go.Value.int Go.IntKind.i64 0), Go.Operand.tmp 22], argTypes := #[3, 3] }, type := 3, pos := "levels.go:52", after := #[{ on := 6, ground := Go.Ground.data }], guard := none }) rfl rfl (fun K hK => ?_) AllReadyIn.nil)
  · (first | gi_big_move | gi_big_op)
    try rw [hmx]
    exact hK _ _ (rg511 l d Q v0 v1 v2 v4 v8 v9 v10 v11 v12 v13 v14 v15 v16 v17 v18 v19 v20 v21 v22 v23 v24 v25 v26 v27 v28 bC bt bl a k z C m W0 W1 W2 hw1 hw2 hw3 hmx a1 a2 a3 af e1 b1 b3 bf e2 hQ)
theorem rg319 : wpAnyIn (Fence.wide.inRound l) d Try.prog .any rgOps Q 3 #[true, true, true, true, true, true, false, false, true, false] { tmps := #[v0, v1, v2, .pointer (some ⟨bC, 0, none⟩), v4, .pointer (some ⟨bt, 0, none⟩), .pointer (some ⟨bl, 0, none⟩), .int .i64 a, v8, v9, v10, v11, v12, v13, v14, v15, .int .i64 k, .int .i64 (k + 1), .int .i64 z, .int .i64 a, .int .i64 (z + a), .int .i64 C, v22, v23, v24, v25, v26, v27, v28], defers := [] } W1 := by
  have _h := [v16, v17, v18, v19, v20, v21]
  refine wpAnyIn_ready (rs := [6]) (by kernel_rfl) (by simp) ?_
  refine (allReadyIn_want (o := { dst := some 22, op := Go.Op.binOp Go.BinOp.sub 3 (Go.Operand.tmp 20) (Go.Operand.tmp 21) 3, type := 3, pos := "levels.go:52", after := #[{ on := 4, ground := Go.Ground.data }, { on := 5, ground := Go.Ground.data }], guard := none }) rfl rfl (fun K hK => ?_) AllReadyIn.nil)
  · (first | gi_big_move | gi_big_op)
    try rw [hw3]
    exact hK _ _ (rg383 l d Q v0 v1 v2 v4 v8 v9 v10 v11 v12 v13 v14 v15 v16 v17 v18 v19 v20 v21 v22 v23 v24 v25 v26 v27 v28 bC bt bl a k z C m W0 W1 W2 hw1 hw2 hw3 hmx a1 a2 a3 af e1 b1 b3 bf e2 hQ)
theorem rg253 : wpAnyIn (Fence.wide.inRound l) d Try.prog .any rgOps Q 3 #[true, false, true, true, true, true, true, true, false, false] { tmps := #[v0, v1, v2, .pointer (some ⟨bC, 0, none⟩), v4, .pointer (some ⟨bt, 0, none⟩), .pointer (some ⟨bl, 0, none⟩), .int .i64 a, v8, v9, v10, v11, v12, v13, v14, v15, .int .i64 k, v17, .int .i64 z, .int .i64 a, .int .i64 (z + a), .int .i64 C, .int .i64 (z + a - C), .int .i64 m, v24, v25, v26, v27, v28], defers := [] } W0 := by
  have _h := [v16, v18, v19, v20, v21, v22, v23]
  refine wpAnyIn_ready (rs := [1]) (by kernel_rfl) (by simp) ?_
  refine (allReadyIn_want (o := { dst := some 17, op := Go.Op.binOp Go.BinOp.add 3 (Go.Operand.tmp 16) (Go.Operand.const (Go.Value.int Go.IntKind.i64 1)) 3, type := 3, pos := "levels.go:52", after := #[{ on := 0, ground := Go.Ground.data }], guard := none }) rfl rfl (fun K hK => ?_) AllReadyIn.nil)
  · (first | gi_big_move | gi_big_op)
    try rw [hw1]
    exact hK _ _ (rg255 l d Q v0 v1 v2 v4 v8 v9 v10 v11 v12 v13 v14 v15 v16 v17 v18 v19 v20 v21 v22 v23 v24 v25 v26 v27 v28 bC bt bl a k z C m W0 W1 W2 hw1 hw2 hw3 hmx a1 a2 a3 af e1 b1 b3 bf e2 hQ)
theorem rg127 : wpAnyIn (Fence.wide.inRound l) d Try.prog .any rgOps Q 3 #[true, true, true, true, true, true, true, false, false, false] { tmps := #[v0, v1, v2, .pointer (some ⟨bC, 0, none⟩), v4, .pointer (some ⟨bt, 0, none⟩), .pointer (some ⟨bl, 0, none⟩), .int .i64 a, v8, v9, v10, v11, v12, v13, v14, v15, .int .i64 k, .int .i64 (k + 1), .int .i64 z, .int .i64 a, .int .i64 (z + a), .int .i64 C, .int .i64 (z + a - C), v23, v24, v25, v26, v27, v28], defers := [] } W0 := by
  have _h := [v16, v17, v18, v19, v20, v21, v22]
  refine wpAnyIn_ready (rs := [7, 8]) (by kernel_rfl) (by simp) ?_
  refine (allReadyIn_want (o := { dst := some 23, op := Go.Op.call { callee := Go.Callee.builtin Go.Builtin.max, args := #[Go.Operand.const (Go.Value.int Go.IntKind.i64 0), Go.Operand.tmp 22], argTypes := #[3, 3] }, type := 3, pos := "levels.go:52", after := #[{ on := 6, ground := Go.Ground.data }], guard := none }) rfl rfl (fun K hK => ?_) (allReadyIn_want (o := { dst := none, op := Go.Op.store 3 (Go.Operand.tmp 5) (Go.Operand.tmp 17), type := 0, pos := "levels.go:52", after := #[{ on := 1, ground := Go.Ground.data }, { on := 0, ground := Go.Ground.phase }, { on := 1, ground := Go.Ground.phase }, { on := 2, ground := Go.Ground.textOnly Go.Departure.inlinedCapture }, { on := 3, ground := Go.Ground.textOnly Go.Departure.lateStores }, { on := 4, ground := Go.Ground.textOnly Go.Departure.inlinedCapture }, { on := 5, ground := Go.Ground.textOnly Go.Departure.inlinedCapture }, { on := 6, ground := Go.Ground.textOnly Go.Departure.inlinedCapture }, { on := 7, ground := Go.Ground.textOnly Go.Departure.lateStoresUnsure }], guard := none }) rfl rfl (fun K hK => ?_) AllReadyIn.nil))
  · (first | gi_big_move | gi_big_op)
    try rw [hmx]
    exact hK _ _ (rg255 l d Q v0 v1 v2 v4 v8 v9 v10 v11 v12 v13 v14 v15 v16 v17 v18 v19 v20 v21 v22 v23 v24 v25 v26 v27 v28 bC bt bl a k z C m W0 W1 W2 hw1 hw2 hw3 hmx a1 a2 a3 af e1 b1 b3 bf e2 hQ)
  · (first | gi_big_move | gi_big_op)
    try rw [e1]
    exact hK _ _ (rg383 l d Q v0 v1 v2 v4 v8 v9 v10 v11 v12 v13 v14 v15 v16 v17 v18 v19 v20 v21 v22 v23 v24 v25 v26 v27 v28 bC bt bl a k z C m W0 W1 W2 hw1 hw2 hw3 hmx a1 a2 a3 af e1 b1 b3 bf e2 hQ)
theorem rg287 : wpAnyIn (Fence.wide.inRound l) d Try.prog .any rgOps Q 4 #[true, true, true, true, true, false, false, false, true, false] { tmps := #[v0, v1, v2, .pointer (some ⟨bC, 0, none⟩), v4, .pointer (some ⟨bt, 0, none⟩), .pointer (some ⟨bl, 0, none⟩), .int .i64 a, v8, v9, v10, v11, v12, v13, v14, v15, .int .i64 k, .int .i64 (k + 1), .int .i64 z, .int .i64 a, .int .i64 (z + a), v21, v22, v23, v24, v25, v26, v27, v28], defers := [] } W1 := by
  have _h := [v16, v17, v18, v19, v20]
  refine wpAnyIn_ready (rs := [5]) (by kernel_rfl) (by simp) ?_
  refine (allReadyIn_want (o := { dst := some 21, op := Go.Op.load 3 (Go.Operand.tmp 3), type := 3, pos := "levels.go:52", after := #[], guard := none }) rfl rfl (fun K hK => ?_) AllReadyIn.nil)
  · (first | gi_big_move | gi_big_op)
    exact hK _ _ (rg319 l d Q v0 v1 v2 v4 v8 v9 v10 v11 v12 v13 v14 v15 v16 v17 v18 v19 v20 v21 v22 v23 v24 v25 v26 v27 v28 bC bt bl a k z C m W0 W1 W2 hw1 hw2 hw3 hmx a1 a2 a3 af e1 b1 b3 bf e2 hQ)
theorem rg303 : wpAnyIn (Fence.wide.inRound l) d Try.prog .any rgOps Q 4 #[true, true, true, true, false, true, false, false, true, false] { tmps := #[v0, v1, v2, .pointer (some ⟨bC, 0, none⟩), v4, .pointer (some ⟨bt, 0, none⟩), .pointer (some ⟨bl, 0, none⟩), .int .i64 a, v8, v9, v10, v11, v12, v13, v14, v15, .int .i64 k, .int .i64 (k + 1), .int .i64 z, .int .i64 a, v20, .int .i64 C, v22, v23, v24, v25, v26, v27, v28], defers := [] } W1 := by
  have _h := [v16, v17, v18, v19, v21]
  refine wpAnyIn_ready (rs := [4]) (by kernel_rfl) (by simp) ?_
  refine (allReadyIn_want (o := { dst := some 20, op := Go.Op.binOp Go.BinOp.add 3 (Go.Operand.tmp 18) (Go.Operand.tmp 19) 3, type := 3, pos := "levels.go:52", after := #[{ on := 2, ground := Go.Ground.data }, { on := 3, ground := Go.Ground.data }], guard := none }) rfl rfl (fun K hK => ?_) AllReadyIn.nil)
  · (first | gi_big_move | gi_big_op)
    try rw [hw2]
    exact hK _ _ (rg319 l d Q v0 v1 v2 v4 v8 v9 v10 v11 v12 v13 v14 v15 v16 v17 v18 v19 v20 v21 v22 v23 v24 v25 v26 v27 v28 bC bt bl a k z C m W0 W1 W2 hw1 hw2 hw3 hmx a1 a2 a3 af e1 b1 b3 bf e2 hQ)
theorem rg63 : wpAnyIn (Fence.wide.inRound l) d Try.prog .any rgOps Q 4 #[true, true, true, true, true, true, false, false, false, false] { tmps := #[v0, v1, v2, .pointer (some ⟨bC, 0, none⟩), v4, .pointer (some ⟨bt, 0, none⟩), .pointer (some ⟨bl, 0, none⟩), .int .i64 a, v8, v9, v10, v11, v12, v13, v14, v15, .int .i64 k, .int .i64 (k + 1), .int .i64 z, .int .i64 a, .int .i64 (z + a), .int .i64 C, v22, v23, v24, v25, v26, v27, v28], defers := [] } W0 := by
  have _h := [v16, v17, v18, v19, v20, v21]
  refine wpAnyIn_ready (rs := [6, 8]) (by kernel_rfl) (by simp) ?_
  refine (allReadyIn_want (o := { dst := some 22, op := Go.Op.binOp Go.BinOp.sub 3 (Go.Operand.tmp 20) (Go.Operand.tmp 21) 3, type := 3, pos := "levels.go:52", after := #[{ on := 4, ground := Go.Ground.data }, { on := 5, ground := Go.Ground.data }], guard := none }) rfl rfl (fun K hK => ?_) (allReadyIn_want (o := { dst := none, op := Go.Op.store 3 (Go.Operand.tmp 5) (Go.Operand.tmp 17), type := 0, pos := "levels.go:52", after := #[{ on := 1, ground := Go.Ground.data }, { on := 0, ground := Go.Ground.phase }, { on := 1, ground := Go.Ground.phase }, { on := 2, ground := Go.Ground.textOnly Go.Departure.inlinedCapture }, { on := 3, ground := Go.Ground.textOnly Go.Departure.lateStores }, { on := 4, ground := Go.Ground.textOnly Go.Departure.inlinedCapture }, { on := 5, ground := Go.Ground.textOnly Go.Departure.inlinedCapture }, { on := 6, ground := Go.Ground.textOnly Go.Departure.inlinedCapture }, { on := 7, ground := Go.Ground.textOnly Go.Departure.lateStoresUnsure }], guard := none }) rfl rfl (fun K hK => ?_) AllReadyIn.nil))
  · (first | gi_big_move | gi_big_op)
    try rw [hw3]
    exact hK _ _ (rg127 l d Q v0 v1 v2 v4 v8 v9 v10 v11 v12 v13 v14 v15 v16 v17 v18 v19 v20 v21 v22 v23 v24 v25 v26 v27 v28 bC bt bl a k z C m W0 W1 W2 hw1 hw2 hw3 hmx a1 a2 a3 af e1 b1 b3 bf e2 hQ)
  · (first | gi_big_move | gi_big_op)
    try rw [e1]
    exact hK _ _ (rg319 l d Q v0 v1 v2 v4 v8 v9 v10 v11 v12 v13 v14 v15 v16 v17 v18 v19 v20 v21 v22 v23 v24 v25 v26 v27 v28 bC bt bl a k z C m W0 W1 W2 hw1 hw2 hw3 hmx a1 a2 a3 af e1 b1 b3 bf e2 hQ)
theorem rg252 : wpAnyIn (Fence.wide.inRound l) d Try.prog .any rgOps Q 4 #[false, false, true, true, true, true, true, true, false, false] { tmps := #[v0, v1, v2, .pointer (some ⟨bC, 0, none⟩), v4, .pointer (some ⟨bt, 0, none⟩), .pointer (some ⟨bl, 0, none⟩), .int .i64 a, v8, v9, v10, v11, v12, v13, v14, v15, v16, v17, .int .i64 z, .int .i64 a, .int .i64 (z + a), .int .i64 C, .int .i64 (z + a - C), .int .i64 m, v24, v25, v26, v27, v28], defers := [] } W0 := by
  have _h := [v18, v19, v20, v21, v22, v23]
  refine wpAnyIn_ready (rs := [0]) (by kernel_rfl) (by simp) ?_
  refine (allReadyIn_want (o := { dst := some 16, op := Go.Op.load 3 (Go.Operand.tmp 5), type := 3, pos := "levels.go:52", after := #[], guard := none }) rfl rfl (fun K hK => ?_) AllReadyIn.nil)
  · (first | gi_big_move | gi_big_op)
    exact hK _ _ (rg253 l d Q v0 v1 v2 v4 v8 v9 v10 v11 v12 v13 v14 v15 v16 v17 v18 v19 v20 v21 v22 v23 v24 v25 v26 v27 v28 bC bt bl a k z C m W0 W1 W2 hw1 hw2 hw3 hmx a1 a2 a3 af e1 b1 b3 bf e2 hQ)
theorem rg125 : wpAnyIn (Fence.wide.inRound l) d Try.prog .any rgOps Q 4 #[true, false, true, true, true, true, true, false, false, false] { tmps := #[v0, v1, v2, .pointer (some ⟨bC, 0, none⟩), v4, .pointer (some ⟨bt, 0, none⟩), .pointer (some ⟨bl, 0, none⟩), .int .i64 a, v8, v9, v10, v11, v12, v13, v14, v15, .int .i64 k, v17, .int .i64 z, .int .i64 a, .int .i64 (z + a), .int .i64 C, .int .i64 (z + a - C), v23, v24, v25, v26, v27, v28], defers := [] } W0 := by
  have _h := [v16, v18, v19, v20, v21, v22]
  refine wpAnyIn_ready (rs := [1, 7]) (by kernel_rfl) (by simp) ?_
  refine (allReadyIn_want (o := { dst := some 17, op := Go.Op.binOp Go.BinOp.add 3 (Go.Operand.tmp 16) (Go.Operand.const (Go.Value.int Go.IntKind.i64 1)) 3, type := 3, pos := "levels.go:52", after := #[{ on := 0, ground := Go.Ground.data }], guard := none }) rfl rfl (fun K hK => ?_) (allReadyIn_want (o := { dst := some 23, op := Go.Op.call { callee := Go.Callee.builtin Go.Builtin.max, args := #[Go.Operand.const (Go.Value.int Go.IntKind.i64 0), Go.Operand.tmp 22], argTypes := #[3, 3] }, type := 3, pos := "levels.go:52", after := #[{ on := 6, ground := Go.Ground.data }], guard := none }) rfl rfl (fun K hK => ?_) AllReadyIn.nil))
  · (first | gi_big_move | gi_big_op)
    try rw [hw1]
    exact hK _ _ (rg127 l d Q v0 v1 v2 v4 v8 v9 v10 v11 v12 v13 v14 v15 v16 v17 v18 v19 v20 v21 v22 v23 v24 v25 v26 v27 v28 bC bt bl a k z C m W0 W1 W2 hw1 hw2 hw3 hmx a1 a2 a3 af e1 b1 b3 bf e2 hQ)
  · (first | gi_big_move | gi_big_op)
    try rw [hmx]
    exact hK _ _ (rg253 l d Q v0 v1 v2 v4 v8 v9 v10 v11 v12 v13 v14 v15 v16 v17 v18 v19 v20 v21 v22 v23 v24 v25 v26 v27 v28 bC bt bl a k z C m W0 W1 W2 hw1 hw2 hw3 hmx a1 a2 a3 af e1 b1 b3 bf e2 hQ)
theorem rg271 : wpAnyIn (Fence.wide.inRound l) d Try.prog .any rgOps Q 5 #[true, true, true, true, false, false, false, false, true, false] { tmps := #[v0, v1, v2, .pointer (some ⟨bC, 0, none⟩), v4, .pointer (some ⟨bt, 0, none⟩), .pointer (some ⟨bl, 0, none⟩), .int .i64 a, v8, v9, v10, v11, v12, v13, v14, v15, .int .i64 k, .int .i64 (k + 1), .int .i64 z, .int .i64 a, v20, v21, v22, v23, v24, v25, v26, v27, v28], defers := [] } W1 := by
  have _h := [v16, v17, v18, v19]
  refine wpAnyIn_ready (rs := [4, 5]) (by kernel_rfl) (by simp) ?_
  refine (allReadyIn_want (o := { dst := some 20, op := Go.Op.binOp Go.BinOp.add 3 (Go.Operand.tmp 18) (Go.Operand.tmp 19) 3, type := 3, pos := "levels.go:52", after := #[{ on := 2, ground := Go.Ground.data }, { on := 3, ground := Go.Ground.data }], guard := none }) rfl rfl (fun K hK => ?_) (allReadyIn_want (o := { dst := some 21, op := Go.Op.load 3 (Go.Operand.tmp 3), type := 3, pos := "levels.go:52", after := #[], guard := none }) rfl rfl (fun K hK => ?_) AllReadyIn.nil))
  · (first | gi_big_move | gi_big_op)
    try rw [hw2]
    exact hK _ _ (rg287 l d Q v0 v1 v2 v4 v8 v9 v10 v11 v12 v13 v14 v15 v16 v17 v18 v19 v20 v21 v22 v23 v24 v25 v26 v27 v28 bC bt bl a k z C m W0 W1 W2 hw1 hw2 hw3 hmx a1 a2 a3 af e1 b1 b3 bf e2 hQ)
  · (first | gi_big_move | gi_big_op)
    exact hK _ _ (rg303 l d Q v0 v1 v2 v4 v8 v9 v10 v11 v12 v13 v14 v15 v16 v17 v18 v19 v20 v21 v22 v23 v24 v25 v26 v27 v28 bC bt bl a k z C m W0 W1 W2 hw1 hw2 hw3 hmx a1 a2 a3 af e1 b1 b3 bf e2 hQ)
theorem rg31 : wpAnyIn (Fence.wide.inRound l) d Try.prog .any rgOps Q 5 #[true, true, true, true, true, false, false, false, false, false] { tmps := #[v0, v1, v2, .pointer (some ⟨bC, 0, none⟩), v4, .pointer (some ⟨bt, 0, none⟩), .pointer (some ⟨bl, 0, none⟩), .int .i64 a, v8, v9, v10, v11, v12, v13, v14, v15, .int .i64 k, .int .i64 (k + 1), .int .i64 z, .int .i64 a, .int .i64 (z + a), v21, v22, v23, v24, v25, v26, v27, v28], defers := [] } W0 := by
  have _h := [v16, v17, v18, v19, v20]
  refine wpAnyIn_ready (rs := [5, 8]) (by kernel_rfl) (by simp) ?_
  refine (allReadyIn_want (o := { dst := some 21, op := Go.Op.load 3 (Go.Operand.tmp 3), type := 3, pos := "levels.go:52", after := #[], guard := none }) rfl rfl (fun K hK => ?_) (allReadyIn_want (o := { dst := none, op := Go.Op.store 3 (Go.Operand.tmp 5) (Go.Operand.tmp 17), type := 0, pos := "levels.go:52", after := #[{ on := 1, ground := Go.Ground.data }, { on := 0, ground := Go.Ground.phase }, { on := 1, ground := Go.Ground.phase }, { on := 2, ground := Go.Ground.textOnly Go.Departure.inlinedCapture }, { on := 3, ground := Go.Ground.textOnly Go.Departure.lateStores }, { on := 4, ground := Go.Ground.textOnly Go.Departure.inlinedCapture }, { on := 5, ground := Go.Ground.textOnly Go.Departure.inlinedCapture }, { on := 6, ground := Go.Ground.textOnly Go.Departure.inlinedCapture }, { on := 7, ground := Go.Ground.textOnly Go.Departure.lateStoresUnsure }], guard := none }) rfl rfl (fun K hK => ?_) AllReadyIn.nil))
  · (first | gi_big_move | gi_big_op)
    exact hK _ _ (rg63 l d Q v0 v1 v2 v4 v8 v9 v10 v11 v12 v13 v14 v15 v16 v17 v18 v19 v20 v21 v22 v23 v24 v25 v26 v27 v28 bC bt bl a k z C m W0 W1 W2 hw1 hw2 hw3 hmx a1 a2 a3 af e1 b1 b3 bf e2 hQ)
  · (first | gi_big_move | gi_big_op)
    try rw [e1]
    exact hK _ _ (rg287 l d Q v0 v1 v2 v4 v8 v9 v10 v11 v12 v13 v14 v15 v16 v17 v18 v19 v20 v21 v22 v23 v24 v25 v26 v27 v28 bC bt bl a k z C m W0 W1 W2 hw1 hw2 hw3 hmx a1 a2 a3 af e1 b1 b3 bf e2 hQ)
theorem rg295 : wpAnyIn (Fence.wide.inRound l) d Try.prog .any rgOps Q 5 #[true, true, true, false, false, true, false, false, true, false] { tmps := #[v0, v1, v2, .pointer (some ⟨bC, 0, none⟩), v4, .pointer (some ⟨bt, 0, none⟩), .pointer (some ⟨bl, 0, none⟩), .int .i64 a, v8, v9, v10, v11, v12, v13, v14, v15, .int .i64 k, .int .i64 (k + 1), .int .i64 z, v19, v20, .int .i64 C, v22, v23, v24, v25, v26, v27, v28], defers := [] } W1 := by
  have _h := [v16, v17, v18, v21]
  refine wpAnyIn_ready (rs := [3]) (by kernel_rfl) (by simp) ?_
  refine (allReadyIn_want (o := { dst := some 19, op := Go.Op.move (Go.Operand.tmp 7), type := 3, pos := "levels.go:52", after := #[], guard := none }) rfl rfl (fun K hK => ?_) AllReadyIn.nil)
  · (first | gi_big_move | gi_big_op)
    exact hK _ _ (rg303 l d Q v0 v1 v2 v4 v8 v9 v10 v11 v12 v13 v14 v15 v16 v17 v18 v19 v20 v21 v22 v23 v24 v25 v26 v27 v28 bC bt bl a k z C m W0 W1 W2 hw1 hw2 hw3 hmx a1 a2 a3 af e1 b1 b3 bf e2 hQ)
theorem rg299 : wpAnyIn (Fence.wide.inRound l) d Try.prog .any rgOps Q 5 #[true, true, false, true, false, true, false, false, true, false] { tmps := #[v0, v1, v2, .pointer (some ⟨bC, 0, none⟩), v4, .pointer (some ⟨bt, 0, none⟩), .pointer (some ⟨bl, 0, none⟩), .int .i64 a, v8, v9, v10, v11, v12, v13, v14, v15, .int .i64 k, .int .i64 (k + 1), v18, .int .i64 a, v20, .int .i64 C, v22, v23, v24, v25, v26, v27, v28], defers := [] } W1 := by
  have _h := [v16, v17, v19, v21]
  refine wpAnyIn_ready (rs := [2]) (by kernel_rfl) (by simp) ?_
  refine (allReadyIn_want (o := { dst := some 18, op := Go.Op.load 3 (Go.Operand.tmp 6), type := 3, pos := "levels.go:52", after := #[], guard := none }) rfl rfl (fun K hK => ?_) AllReadyIn.nil)
  · (first | gi_big_move | gi_big_op)
    exact hK _ _ (rg303 l d Q v0 v1 v2 v4 v8 v9 v10 v11 v12 v13 v14 v15 v16 v17 v18 v19 v20 v21 v22 v23 v24 v25 v26 v27 v28 bC bt bl a k z C m W0 W1 W2 hw1 hw2 hw3 hmx a1 a2 a3 af e1 b1 b3 bf e2 hQ)
theorem rg47 : wpAnyIn (Fence.wide.inRound l) d Try.prog .any rgOps Q 5 #[true, true, true, true, false, true, false, false, false, false] { tmps := #[v0, v1, v2, .pointer (some ⟨bC, 0, none⟩), v4, .pointer (some ⟨bt, 0, none⟩), .pointer (some ⟨bl, 0, none⟩), .int .i64 a, v8, v9, v10, v11, v12, v13, v14, v15, .int .i64 k, .int .i64 (k + 1), .int .i64 z, .int .i64 a, v20, .int .i64 C, v22, v23, v24, v25, v26, v27, v28], defers := [] } W0 := by
  have _h := [v16, v17, v18, v19, v21]
  refine wpAnyIn_ready (rs := [4, 8]) (by kernel_rfl) (by simp) ?_
  refine (allReadyIn_want (o := { dst := some 20, op := Go.Op.binOp Go.BinOp.add 3 (Go.Operand.tmp 18) (Go.Operand.tmp 19) 3, type := 3, pos := "levels.go:52", after := #[{ on := 2, ground := Go.Ground.data }, { on := 3, ground := Go.Ground.data }], guard := none }) rfl rfl (fun K hK => ?_) (allReadyIn_want (o := { dst := none, op := Go.Op.store 3 (Go.Operand.tmp 5) (Go.Operand.tmp 17), type := 0, pos := "levels.go:52", after := #[{ on := 1, ground := Go.Ground.data }, { on := 0, ground := Go.Ground.phase }, { on := 1, ground := Go.Ground.phase }, { on := 2, ground := Go.Ground.textOnly Go.Departure.inlinedCapture }, { on := 3, ground := Go.Ground.textOnly Go.Departure.lateStores }, { on := 4, ground := Go.Ground.textOnly Go.Departure.inlinedCapture }, { on := 5, ground := Go.Ground.textOnly Go.Departure.inlinedCapture }, { on := 6, ground := Go.Ground.textOnly Go.Departure.inlinedCapture }, { on := 7, ground := Go.Ground.textOnly Go.Departure.lateStoresUnsure }], guard := none }) rfl rfl (fun K hK => ?_) AllReadyIn.nil))
  · (first | gi_big_move | gi_big_op)
    try rw [hw2]
    exact hK _ _ (rg63 l d Q v0 v1 v2 v4 v8 v9 v10 v11 v12 v13 v14 v15 v16 v17 v18 v19 v20 v21 v22 v23 v24 v25 v26 v27 v28 bC bt bl a k z C m W0 W1 W2 hw1 hw2 hw3 hmx a1 a2 a3 af e1 b1 b3 bf e2 hQ)
  · (first | gi_big_move | gi_big_op)
    try rw [e1]
    exact hK _ _ (rg303 l d Q v0 v1 v2 v4 v8 v9 v10 v11 v12 v13 v14 v15 v16 v17 v18 v19 v20 v21 v22 v23 v24 v25 v26 v27 v28 bC bt bl a k z C m W0 W1 W2 hw1 hw2 hw3 hmx a1 a2 a3 af e1 b1 b3 bf e2 hQ)
theorem rg61 : wpAnyIn (Fence.wide.inRound l) d Try.prog .any rgOps Q 5 #[true, false, true, true, true, true, false, false, false, false] { tmps := #[v0, v1, v2, .pointer (some ⟨bC, 0, none⟩), v4, .pointer (some ⟨bt, 0, none⟩), .pointer (some ⟨bl, 0, none⟩), .int .i64 a, v8, v9, v10, v11, v12, v13, v14, v15, .int .i64 k, v17, .int .i64 z, .int .i64 a, .int .i64 (z + a), .int .i64 C, v22, v23, v24, v25, v26, v27, v28], defers := [] } W0 := by
  have _h := [v16, v18, v19, v20, v21]
  refine wpAnyIn_ready (rs := [1, 6]) (by kernel_rfl) (by simp) ?_
  refine (allReadyIn_want (o := { dst := some 17, op := Go.Op.binOp Go.BinOp.add 3 (Go.Operand.tmp 16) (Go.Operand.const (Go.Value.int Go.IntKind.i64 1)) 3, type := 3, pos := "levels.go:52", after := #[{ on := 0, ground := Go.Ground.data }], guard := none }) rfl rfl (fun K hK => ?_) (allReadyIn_want (o := { dst := some 22, op := Go.Op.binOp Go.BinOp.sub 3 (Go.Operand.tmp 20) (Go.Operand.tmp 21) 3, type := 3, pos := "levels.go:52", after := #[{ on := 4, ground := Go.Ground.data }, { on := 5, ground := Go.Ground.data }], guard := none }) rfl rfl (fun K hK => ?_) AllReadyIn.nil))
  · (first | gi_big_move | gi_big_op)
    try rw [hw1]
    exact hK _ _ (rg63 l d Q v0 v1 v2 v4 v8 v9 v10 v11 v12 v13 v14 v15 v16 v17 v18 v19 v20 v21 v22 v23 v24 v25 v26 v27 v28 bC bt bl a k z C m W0 W1 W2 hw1 hw2 hw3 hmx a1 a2 a3 af e1 b1 b3 bf e2 hQ)
  · (first | gi_big_move | gi_big_op)
    try rw [hw3]
    exact hK _ _ (rg125 l d Q v0 v1 v2 v4 v8 v9 v10 v11 v12 v13 v14 v15 v16 v17 v18 v19 v20 v21 v22 v23 v24 v25 v26 v27 v28 bC bt bl a k z C m W0 W1 W2 hw1 hw2 hw3 hmx a1 a2 a3 af e1 b1 b3 bf e2 hQ)
theorem rg124 : wpAnyIn (Fence.wide.inRound l) d Try.prog .any rgOps Q 5 #[false, false, true, true, true, true, true, false, false, false] { tmps := #[v0, v1, v2, .pointer (some ⟨bC, 0, none⟩), v4, .pointer (some ⟨bt, 0, none⟩), .pointer (some ⟨bl, 0, none⟩), .int .i64 a, v8, v9, v10, v11, v12, v13, v14, v15, v16, v17, .int .i64 z, .int .i64 a, .int .i64 (z + a), .int .i64 C, .int .i64 (z + a - C), v23, v24, v25, v26, v27, v28], defers := [] } W0 := by
  have _h := [v18, v19, v20, v21, v22]
  refine wpAnyIn_ready (rs := [0, 7]) (by kernel_rfl) (by simp) ?_
  refine (allReadyIn_want (o := { dst := some 16, op := Go.Op.load 3 (Go.Operand.tmp 5), type := 3, pos := "levels.go:52", after := #[], guard := none }) rfl rfl (fun K hK => ?_) (allReadyIn_want (o := { dst := some 23, op := Go.Op.call { callee := Go.Callee.builtin Go.Builtin.max, args := #[Go.Operand.const (Go.Value.int Go.IntKind.i64 0), Go.Operand.tmp 22], argTypes := #[3, 3] }, type := 3, pos := "levels.go:52", after := #[{ on := 6, ground := Go.Ground.data }], guard := none }) rfl rfl (fun K hK => ?_) AllReadyIn.nil))
  · (first | gi_big_move | gi_big_op)
    exact hK _ _ (rg125 l d Q v0 v1 v2 v4 v8 v9 v10 v11 v12 v13 v14 v15 v16 v17 v18 v19 v20 v21 v22 v23 v24 v25 v26 v27 v28 bC bt bl a k z C m W0 W1 W2 hw1 hw2 hw3 hmx a1 a2 a3 af e1 b1 b3 bf e2 hQ)
  · (first | gi_big_move | gi_big_op)
    try rw [hmx]
    exact hK _ _ (rg252 l d Q v0 v1 v2 v4 v8 v9 v10 v11 v12 v13 v14 v15 v16 v17 v18 v19 v20 v21 v22 v23 v24 v25 v26 v27 v28 bC bt bl a k z C m W0 W1 W2 hw1 hw2 hw3 hmx a1 a2 a3 af e1 b1 b3 bf e2 hQ)
theorem rg263 : wpAnyIn (Fence.wide.inRound l) d Try.prog .any rgOps Q 6 #[true, true, true, false, false, false, false, false, true, false] { tmps := #[v0, v1, v2, .pointer (some ⟨bC, 0, none⟩), v4, .pointer (some ⟨bt, 0, none⟩), .pointer (some ⟨bl, 0, none⟩), .int .i64 a, v8, v9, v10, v11, v12, v13, v14, v15, .int .i64 k, .int .i64 (k + 1), .int .i64 z, v19, v20, v21, v22, v23, v24, v25, v26, v27, v28], defers := [] } W1 := by
  have _h := [v16, v17, v18]
  refine wpAnyIn_ready (rs := [3, 5]) (by kernel_rfl) (by simp) ?_
  refine (allReadyIn_want (o := { dst := some 19, op := Go.Op.move (Go.Operand.tmp 7), type := 3, pos := "levels.go:52", after := #[], guard := none }) rfl rfl (fun K hK => ?_) (allReadyIn_want (o := { dst := some 21, op := Go.Op.load 3 (Go.Operand.tmp 3), type := 3, pos := "levels.go:52", after := #[], guard := none }) rfl rfl (fun K hK => ?_) AllReadyIn.nil))
  · (first | gi_big_move | gi_big_op)
    exact hK _ _ (rg271 l d Q v0 v1 v2 v4 v8 v9 v10 v11 v12 v13 v14 v15 v16 v17 v18 v19 v20 v21 v22 v23 v24 v25 v26 v27 v28 bC bt bl a k z C m W0 W1 W2 hw1 hw2 hw3 hmx a1 a2 a3 af e1 b1 b3 bf e2 hQ)
  · (first | gi_big_move | gi_big_op)
    exact hK _ _ (rg295 l d Q v0 v1 v2 v4 v8 v9 v10 v11 v12 v13 v14 v15 v16 v17 v18 v19 v20 v21 v22 v23 v24 v25 v26 v27 v28 bC bt bl a k z C m W0 W1 W2 hw1 hw2 hw3 hmx a1 a2 a3 af e1 b1 b3 bf e2 hQ)
theorem rg15 : wpAnyIn (Fence.wide.inRound l) d Try.prog .any rgOps Q 6 #[true, true, true, true, false, false, false, false, false, false] { tmps := #[v0, v1, v2, .pointer (some ⟨bC, 0, none⟩), v4, .pointer (some ⟨bt, 0, none⟩), .pointer (some ⟨bl, 0, none⟩), .int .i64 a, v8, v9, v10, v11, v12, v13, v14, v15, .int .i64 k, .int .i64 (k + 1), .int .i64 z, .int .i64 a, v20, v21, v22, v23, v24, v25, v26, v27, v28], defers := [] } W0 := by
  have _h := [v16, v17, v18, v19]
  refine wpAnyIn_ready (rs := [4, 5, 8]) (by kernel_rfl) (by simp) ?_
  refine (allReadyIn_want (o := { dst := some 20, op := Go.Op.binOp Go.BinOp.add 3 (Go.Operand.tmp 18) (Go.Operand.tmp 19) 3, type := 3, pos := "levels.go:52", after := #[{ on := 2, ground := Go.Ground.data }, { on := 3, ground := Go.Ground.data }], guard := none }) rfl rfl (fun K hK => ?_) (allReadyIn_want (o := { dst := some 21, op := Go.Op.load 3 (Go.Operand.tmp 3), type := 3, pos := "levels.go:52", after := #[], guard := none }) rfl rfl (fun K hK => ?_) (allReadyIn_want (o := { dst := none, op := Go.Op.store 3 (Go.Operand.tmp 5) (Go.Operand.tmp 17), type := 0, pos := "levels.go:52", after := #[{ on := 1, ground := Go.Ground.data }, { on := 0, ground := Go.Ground.phase }, { on := 1, ground := Go.Ground.phase }, { on := 2, ground := Go.Ground.textOnly Go.Departure.inlinedCapture }, { on := 3, ground := Go.Ground.textOnly Go.Departure.lateStores }, { on := 4, ground := Go.Ground.textOnly Go.Departure.inlinedCapture }, { on := 5, ground := Go.Ground.textOnly Go.Departure.inlinedCapture }, { on := 6, ground := Go.Ground.textOnly Go.Departure.inlinedCapture }, { on := 7, ground := Go.Ground.textOnly Go.Departure.lateStoresUnsure }], guard := none }) rfl rfl (fun K hK => ?_) AllReadyIn.nil)))
  · (first | gi_big_move | gi_big_op)
    try rw [hw2]
    exact hK _ _ (rg31 l d Q v0 v1 v2 v4 v8 v9 v10 v11 v12 v13 v14 v15 v16 v17 v18 v19 v20 v21 v22 v23 v24 v25 v26 v27 v28 bC bt bl a k z C m W0 W1 W2 hw1 hw2 hw3 hmx a1 a2 a3 af e1 b1 b3 bf e2 hQ)
  · (first | gi_big_move | gi_big_op)
    exact hK _ _ (rg47 l d Q v0 v1 v2 v4 v8 v9 v10 v11 v12 v13 v14 v15 v16 v17 v18 v19 v20 v21 v22 v23 v24 v25 v26 v27 v28 bC bt bl a k z C m W0 W1 W2 hw1 hw2 hw3 hmx a1 a2 a3 af e1 b1 b3 bf e2 hQ)
  · (first | gi_big_move | gi_big_op)
    try rw [e1]
    exact hK _ _ (rg271 l d Q v0 v1 v2 v4 v8 v9 v10 v11 v12 v13 v14 v15 v16 v17 v18 v19 v20 v21 v22 v23 v24 v25 v26 v27 v28 bC bt bl a k z C m W0 W1 W2 hw1 hw2 hw3 hmx a1 a2 a3 af e1 b1 b3 bf e2 hQ)
theorem rg267 : wpAnyIn (Fence.wide.inRound l) d Try.prog .any rgOps Q 6 #[true, true, false, true, false, false, false, false, true, false] { tmps := #[v0, v1, v2, .pointer (some ⟨bC, 0, none⟩), v4, .pointer (some ⟨bt, 0, none⟩), .pointer (some ⟨bl, 0, none⟩), .int .i64 a, v8, v9, v10, v11, v12, v13, v14, v15, .int .i64 k, .int .i64 (k + 1), v18, .int .i64 a, v20, v21, v22, v23, v24, v25, v26, v27, v28], defers := [] } W1 := by
  have _h := [v16, v17, v19]
  refine wpAnyIn_ready (rs := [2, 5]) (by kernel_rfl) (by simp) ?_
  refine (allReadyIn_want (o := { dst := some 18, op := Go.Op.load 3 (Go.Operand.tmp 6), type := 3, pos := "levels.go:52", after := #[], guard := none }) rfl rfl (fun K hK => ?_) (allReadyIn_want (o := { dst := some 21, op := Go.Op.load 3 (Go.Operand.tmp 3), type := 3, pos := "levels.go:52", after := #[], guard := none }) rfl rfl (fun K hK => ?_) AllReadyIn.nil))
  · (first | gi_big_move | gi_big_op)
    exact hK _ _ (rg271 l d Q v0 v1 v2 v4 v8 v9 v10 v11 v12 v13 v14 v15 v16 v17 v18 v19 v20 v21 v22 v23 v24 v25 v26 v27 v28 bC bt bl a k z C m W0 W1 W2 hw1 hw2 hw3 hmx a1 a2 a3 af e1 b1 b3 bf e2 hQ)
  · (first | gi_big_move | gi_big_op)
    exact hK _ _ (rg299 l d Q v0 v1 v2 v4 v8 v9 v10 v11 v12 v13 v14 v15 v16 v17 v18 v19 v20 v21 v22 v23 v24 v25 v26 v27 v28 bC bt bl a k z C m W0 W1 W2 hw1 hw2 hw3 hmx a1 a2 a3 af e1 b1 b3 bf e2 hQ)
theorem rg29 : wpAnyIn (Fence.wide.inRound l) d Try.prog .any rgOps Q 6 #[true, false, true, true, true, false, false, false, false, false] { tmps := #[v0, v1, v2, .pointer (some ⟨bC, 0, none⟩), v4, .pointer (some ⟨bt, 0, none⟩), .pointer (some ⟨bl, 0, none⟩), .int .i64 a, v8, v9, v10, v11, v12, v13, v14, v15, .int .i64 k, v17, .int .i64 z, .int .i64 a, .int .i64 (z + a), v21, v22, v23, v24, v25, v26, v27, v28], defers := [] } W0 := by
  have _h := [v16, v18, v19, v20]
  refine wpAnyIn_ready (rs := [1, 5]) (by kernel_rfl) (by simp) ?_
  refine (allReadyIn_want (o := { dst := some 17, op := Go.Op.binOp Go.BinOp.add 3 (Go.Operand.tmp 16) (Go.Operand.const (Go.Value.int Go.IntKind.i64 1)) 3, type := 3, pos := "levels.go:52", after := #[{ on := 0, ground := Go.Ground.data }], guard := none }) rfl rfl (fun K hK => ?_) (allReadyIn_want (o := { dst := some 21, op := Go.Op.load 3 (Go.Operand.tmp 3), type := 3, pos := "levels.go:52", after := #[], guard := none }) rfl rfl (fun K hK => ?_) AllReadyIn.nil))
  · (first | gi_big_move | gi_big_op)
    try rw [hw1]
    exact hK _ _ (rg31 l d Q v0 v1 v2 v4 v8 v9 v10 v11 v12 v13 v14 v15 v16 v17 v18 v19 v20 v21 v22 v23 v24 v25 v26 v27 v28 bC bt bl a k z C m W0 W1 W2 hw1 hw2 hw3 hmx a1 a2 a3 af e1 b1 b3 bf e2 hQ)
  · (first | gi_big_move | gi_big_op)
    exact hK _ _ (rg61 l d Q v0 v1 v2 v4 v8 v9 v10 v11 v12 v13 v14 v15 v16 v17 v18 v19 v20 v21 v22 v23 v24 v25 v26 v27 v28 bC bt bl a k z C m W0 W1 W2 hw1 hw2 hw3 hmx a1 a2 a3 af e1 b1 b3 bf e2 hQ)
theorem rg291 : wpAnyIn (Fence.wide.inRound l) d Try.prog .any rgOps Q 6 #[true, true, false, false, false, true, false, false, true, false] { tmps := #[v0, v1, v2, .pointer (some ⟨bC, 0, none⟩), v4, .pointer (some ⟨bt, 0, none⟩), .pointer (some ⟨bl, 0, none⟩), .int .i64 a, v8, v9, v10, v11, v12, v13, v14, v15, .int .i64 k, .int .i64 (k + 1), v18, v19, v20, .int .i64 C, v22, v23, v24, v25, v26, v27, v28], defers := [] } W1 := by
  have _h := [v16, v17, v21]
  refine wpAnyIn_ready (rs := [2, 3]) (by kernel_rfl) (by simp) ?_
  refine (allReadyIn_want (o := { dst := some 18, op := Go.Op.load 3 (Go.Operand.tmp 6), type := 3, pos := "levels.go:52", after := #[], guard := none }) rfl rfl (fun K hK => ?_) (allReadyIn_want (o := { dst := some 19, op := Go.Op.move (Go.Operand.tmp 7), type := 3, pos := "levels.go:52", after := #[], guard := none }) rfl rfl (fun K hK => ?_) AllReadyIn.nil))
  · (first | gi_big_move | gi_big_op)
    exact hK _ _ (rg295 l d Q v0 v1 v2 v4 v8 v9 v10 v11 v12 v13 v14 v15 v16 v17 v18 v19 v20 v21 v22 v23 v24 v25 v26 v27 v28 bC bt bl a k z C m W0 W1 W2 hw1 hw2 hw3 hmx a1 a2 a3 af e1 b1 b3 bf e2 hQ)
  · (first | gi_big_move | gi_big_op)
    exact hK _ _ (rg299 l d Q v0 v1 v2 v4 v8 v9 v10 v11 v12 v13 v14 v15 v16 v17 v18 v19 v20 v21 v22 v23 v24 v25 v26 v27 v28 bC bt bl a k z C m W0 W1 W2 hw1 hw2 hw3 hmx a1 a2 a3 af e1 b1 b3 bf e2 hQ)
theorem rg39 : wpAnyIn (Fence.wide.inRound l) d Try.prog .any rgOps Q 6 #[true, true, true, false, false, true, false, false, false, false] { tmps := #[v0, v1, v2, .pointer (some ⟨bC, 0, none⟩), v4, .pointer (some ⟨bt, 0, none⟩), .pointer (some ⟨bl, 0, none⟩), .int .i64 a, v8, v9, v10, v11, v12, v13, v14, v15, .int .i64 k, .int .i64 (k + 1), .int .i64 z, v19, v20, .int .i64 C, v22, v23, v24, v25, v26, v27, v28], defers := [] } W0 := by
  have _h := [v16, v17, v18, v21]
  refine wpAnyIn_ready (rs := [3, 8]) (by kernel_rfl) (by simp) ?_
  refine (allReadyIn_want (o := { dst := some 19, op := Go.Op.move (Go.Operand.tmp 7), type := 3, pos := "levels.go:52", after := #[], guard := none }) rfl rfl (fun K hK => ?_) (allReadyIn_want (o := { dst := none, op := Go.Op.store 3 (Go.Operand.tmp 5) (Go.Operand.tmp 17), type := 0, pos := "levels.go:52", after := #[{ on := 1, ground := Go.Ground.data }, { on := 0, ground := Go.Ground.phase }, { on := 1, ground := Go.Ground.phase }, { on := 2, ground := Go.Ground.textOnly Go.Departure.inlinedCapture }, { on := 3, ground := Go.Ground.textOnly Go.Departure.lateStores }, { on := 4, ground := Go.Ground.textOnly Go.Departure.inlinedCapture }, { on := 5, ground := Go.Ground.textOnly Go.Departure.inlinedCapture }, { on := 6, ground := Go.Ground.textOnly Go.Departure.inlinedCapture }, { on := 7, ground := Go.Ground.textOnly Go.Departure.lateStoresUnsure }], guard := none }) rfl rfl (fun K hK => ?_) AllReadyIn.nil))
  · (first | gi_big_move | gi_big_op)
    exact hK _ _ (rg47 l d Q v0 v1 v2 v4 v8 v9 v10 v11 v12 v13 v14 v15 v16 v17 v18 v19 v20 v21 v22 v23 v24 v25 v26 v27 v28 bC bt bl a k z C m W0 W1 W2 hw1 hw2 hw3 hmx a1 a2 a3 af e1 b1 b3 bf e2 hQ)
  · (first | gi_big_move | gi_big_op)
    try rw [e1]
    exact hK _ _ (rg295 l d Q v0 v1 v2 v4 v8 v9 v10 v11 v12 v13 v14 v15 v16 v17 v18 v19 v20 v21 v22 v23 v24 v25 v26 v27 v28 bC bt bl a k z C m W0 W1 W2 hw1 hw2 hw3 hmx a1 a2 a3 af e1 b1 b3 bf e2 hQ)
theorem rg43 : wpAnyIn (Fence.wide.inRound l) d Try.prog .any rgOps Q 6 #[true, true, false, true, false, true, false, false, false, false] { tmps := #[v0, v1, v2, .pointer (some ⟨bC, 0, none⟩), v4, .pointer (some ⟨bt, 0, none⟩), .pointer (some ⟨bl, 0, none⟩), .int .i64 a, v8, v9, v10, v11, v12, v13, v14, v15, .int .i64 k, .int .i64 (k + 1), v18, .int .i64 a, v20, .int .i64 C, v22, v23, v24, v25, v26, v27, v28], defers := [] } W0 := by
  have _h := [v16, v17, v19, v21]
  refine wpAnyIn_ready (rs := [2, 8]) (by kernel_rfl) (by simp) ?_
  refine (allReadyIn_want (o := { dst := some 18, op := Go.Op.load 3 (Go.Operand.tmp 6), type := 3, pos := "levels.go:52", after := #[], guard := none }) rfl rfl (fun K hK => ?_) (allReadyIn_want (o := { dst := none, op := Go.Op.store 3 (Go.Operand.tmp 5) (Go.Operand.tmp 17), type := 0, pos := "levels.go:52", after := #[{ on := 1, ground := Go.Ground.data }, { on := 0, ground := Go.Ground.phase }, { on := 1, ground := Go.Ground.phase }, { on := 2, ground := Go.Ground.textOnly Go.Departure.inlinedCapture }, { on := 3, ground := Go.Ground.textOnly Go.Departure.lateStores }, { on := 4, ground := Go.Ground.textOnly Go.Departure.inlinedCapture }, { on := 5, ground := Go.Ground.textOnly Go.Departure.inlinedCapture }, { on := 6, ground := Go.Ground.textOnly Go.Departure.inlinedCapture }, { on := 7, ground := Go.Ground.textOnly Go.Departure.lateStoresUnsure }], guard := none }) rfl rfl (fun K hK => ?_) AllReadyIn.nil))
  · (first | gi_big_move | gi_big_op)
    exact hK _ _ (rg47 l d Q v0 v1 v2 v4 v8 v9 v10 v11 v12 v13 v14 v15 v16 v17 v18 v19 v20 v21 v22 v23 v24 v25 v26 v27 v28 bC bt bl a k z C m W0 W1 W2 hw1 hw2 hw3 hmx a1 a2 a3 af e1 b1 b3 bf e2 hQ)
  · (first | gi_big_move | gi_big_op)
    try rw [e1]
    exact hK _ _ (rg299 l d Q v0 v1 v2 v4 v8 v9 v10 v11 v12 v13 v14 v15 v16 v17 v18 v19 v20 v21 v22 v23 v24 v25 v26 v27 v28 bC bt bl a k z C m W0 W1 W2 hw1 hw2 hw3 hmx a1 a2 a3 af e1 b1 b3 bf e2 hQ)
theorem rg45 : wpAnyIn (Fence.wide.inRound l) d Try.prog .any rgOps Q 6 #[true, false, true, true, false, true, false, false, false, false] { tmps := #[v0, v1, v2, .pointer (some ⟨bC, 0, none⟩), v4, .pointer (some ⟨bt, 0, none⟩), .pointer (some ⟨bl, 0, none⟩), .int .i64 a, v8, v9, v10, v11, v12, v13, v14, v15, .int .i64 k, v17, .int .i64 z, .int .i64 a, v20, .int .i64 C, v22, v23, v24, v25, v26, v27, v28], defers := [] } W0 := by
  have _h := [v16, v18, v19, v21]
  refine wpAnyIn_ready (rs := [1, 4]) (by kernel_rfl) (by simp) ?_
  refine (allReadyIn_want (o := { dst := some 17, op := Go.Op.binOp Go.BinOp.add 3 (Go.Operand.tmp 16) (Go.Operand.const (Go.Value.int Go.IntKind.i64 1)) 3, type := 3, pos := "levels.go:52", after := #[{ on := 0, ground := Go.Ground.data }], guard := none }) rfl rfl (fun K hK => ?_) (allReadyIn_want (o := { dst := some 20, op := Go.Op.binOp Go.BinOp.add 3 (Go.Operand.tmp 18) (Go.Operand.tmp 19) 3, type := 3, pos := "levels.go:52", after := #[{ on := 2, ground := Go.Ground.data }, { on := 3, ground := Go.Ground.data }], guard := none }) rfl rfl (fun K hK => ?_) AllReadyIn.nil))
  · (first | gi_big_move | gi_big_op)
    try rw [hw1]
    exact hK _ _ (rg47 l d Q v0 v1 v2 v4 v8 v9 v10 v11 v12 v13 v14 v15 v16 v17 v18 v19 v20 v21 v22 v23 v24 v25 v26 v27 v28 bC bt bl a k z C m W0 W1 W2 hw1 hw2 hw3 hmx a1 a2 a3 af e1 b1 b3 bf e2 hQ)
  · (first | gi_big_move | gi_big_op)
    try rw [hw2]
    exact hK _ _ (rg61 l d Q v0 v1 v2 v4 v8 v9 v10 v11 v12 v13 v14 v15 v16 v17 v18 v19 v20 v21 v22 v23 v24 v25 v26 v27 v28 bC bt bl a k z C m W0 W1 W2 hw1 hw2 hw3 hmx a1 a2 a3 af e1 b1 b3 bf e2 hQ)
theorem rg60 : wpAnyIn (Fence.wide.inRound l) d Try.prog .any rgOps Q 6 #[false, false, true, true, true, true, false, false, false, false] { tmps := #[v0, v1, v2, .pointer (some ⟨bC, 0, none⟩), v4, .pointer (some ⟨bt, 0, none⟩), .pointer (some ⟨bl, 0, none⟩), .int .i64 a, v8, v9, v10, v11, v12, v13, v14, v15, v16, v17, .int .i64 z, .int .i64 a, .int .i64 (z + a), .int .i64 C, v22, v23, v24, v25, v26, v27, v28], defers := [] } W0 := by
  have _h := [v18, v19, v20, v21]
  refine wpAnyIn_ready (rs := [0, 6]) (by kernel_rfl) (by simp) ?_
  refine (allReadyIn_want (o := { dst := some 16, op := Go.Op.load 3 (Go.Operand.tmp 5), type := 3, pos := "levels.go:52", after := #[], guard := none }) rfl rfl (fun K hK => ?_) (allReadyIn_want (o := { dst := some 22, op := Go.Op.binOp Go.BinOp.sub 3 (Go.Operand.tmp 20) (Go.Operand.tmp 21) 3, type := 3, pos := "levels.go:52", after := #[{ on := 4, ground := Go.Ground.data }, { on := 5, ground := Go.Ground.data }], guard := none }) rfl rfl (fun K hK => ?_) AllReadyIn.nil))
  · (first | gi_big_move | gi_big_op)
    exact hK _ _ (rg61 l d Q v0 v1 v2 v4 v8 v9 v10 v11 v12 v13 v14 v15 v16 v17 v18 v19 v20 v21 v22 v23 v24 v25 v26 v27 v28 bC bt bl a k z C m W0 W1 W2 hw1 hw2 hw3 hmx a1 a2 a3 af e1 b1 b3 bf e2 hQ)
  · (first | gi_big_move | gi_big_op)
    try rw [hw3]
    exact hK _ _ (rg124 l d Q v0 v1 v2 v4 v8 v9 v10 v11 v12 v13 v14 v15 v16 v17 v18 v19 v20 v21 v22 v23 v24 v25 v26 v27 v28 bC bt bl a k z C m W0 W1 W2 hw1 hw2 hw3 hmx a1 a2 a3 af e1 b1 b3 bf e2 hQ)
theorem rg7 : wpAnyIn (Fence.wide.inRound l) d Try.prog .any rgOps Q 7 #[true, true, true, false, false, false, false, false, false, false] { tmps := #[v0, v1, v2, .pointer (some ⟨bC, 0, none⟩), v4, .pointer (some ⟨bt, 0, none⟩), .pointer (some ⟨bl, 0, none⟩), .int .i64 a, v8, v9, v10, v11, v12, v13, v14, v15, .int .i64 k, .int .i64 (k + 1), .int .i64 z, v19, v20, v21, v22, v23, v24, v25, v26, v27, v28], defers := [] } W0 := by
  have _h := [v16, v17, v18]
  refine wpAnyIn_ready (rs := [3, 5, 8]) (by kernel_rfl) (by simp) ?_
  refine (allReadyIn_want (o := { dst := some 19, op := Go.Op.move (Go.Operand.tmp 7), type := 3, pos := "levels.go:52", after := #[], guard := none }) rfl rfl (fun K hK => ?_) (allReadyIn_want (o := { dst := some 21, op := Go.Op.load 3 (Go.Operand.tmp 3), type := 3, pos := "levels.go:52", after := #[], guard := none }) rfl rfl (fun K hK => ?_) (allReadyIn_want (o := { dst := none, op := Go.Op.store 3 (Go.Operand.tmp 5) (Go.Operand.tmp 17), type := 0, pos := "levels.go:52", after := #[{ on := 1, ground := Go.Ground.data }, { on := 0, ground := Go.Ground.phase }, { on := 1, ground := Go.Ground.phase }, { on := 2, ground := Go.Ground.textOnly Go.Departure.inlinedCapture }, { on := 3, ground := Go.Ground.textOnly Go.Departure.lateStores }, { on := 4, ground := Go.Ground.textOnly Go.Departure.inlinedCapture }, { on := 5, ground := Go.Ground.textOnly Go.Departure.inlinedCapture }, { on := 6, ground := Go.Ground.textOnly Go.Departure.inlinedCapture }, { on := 7, ground := Go.Ground.textOnly Go.Departure.lateStoresUnsure }], guard := none }) rfl rfl (fun K hK => ?_) AllReadyIn.nil)))
  · (first | gi_big_move | gi_big_op)
    exact hK _ _ (rg15 l d Q v0 v1 v2 v4 v8 v9 v10 v11 v12 v13 v14 v15 v16 v17 v18 v19 v20 v21 v22 v23 v24 v25 v26 v27 v28 bC bt bl a k z C m W0 W1 W2 hw1 hw2 hw3 hmx a1 a2 a3 af e1 b1 b3 bf e2 hQ)
  · (first | gi_big_move | gi_big_op)
    exact hK _ _ (rg39 l d Q v0 v1 v2 v4 v8 v9 v10 v11 v12 v13 v14 v15 v16 v17 v18 v19 v20 v21 v22 v23 v24 v25 v26 v27 v28 bC bt bl a k z C m W0 W1 W2 hw1 hw2 hw3 hmx a1 a2 a3 af e1 b1 b3 bf e2 hQ)
  · (first | gi_big_move | gi_big_op)
    try rw [e1]
    exact hK _ _ (rg263 l d Q v0 v1 v2 v4 v8 v9 v10 v11 v12 v13 v14 v15 v16 v17 v18 v19 v20 v21 v22 v23 v24 v25 v26 v27 v28 bC bt bl a k z C m W0 W1 W2 hw1 hw2 hw3 hmx a1 a2 a3 af e1 b1 b3 bf e2 hQ)
theorem rg13 : wpAnyIn (Fence.wide.inRound l) d Try.prog .any rgOps Q 7 #[true, false, true, true, false, false, false, false, false, false] { tmps := #[v0, v1, v2, .pointer (some ⟨bC, 0, none⟩), v4, .pointer (some ⟨bt, 0, none⟩), .pointer (some ⟨bl, 0, none⟩), .int .i64 a, v8, v9, v10, v11, v12, v13, v14, v15, .int .i64 k, v17, .int .i64 z, .int .i64 a, v20, v21, v22, v23, v24, v25, v26, v27, v28], defers := [] } W0 := by
  have _h := [v16, v18, v19]
  refine wpAnyIn_ready (rs := [1, 4, 5]) (by kernel_rfl) (by simp) ?_
  refine (allReadyIn_want (o := { dst := some 17, op := Go.Op.binOp Go.BinOp.add 3 (Go.Operand.tmp 16) (Go.Operand.const (Go.Value.int Go.IntKind.i64 1)) 3, type := 3, pos := "levels.go:52", after := #[{ on := 0, ground := Go.Ground.data }], guard := none }) rfl rfl (fun K hK => ?_) (allReadyIn_want (o := { dst := some 20, op := Go.Op.binOp Go.BinOp.add 3 (Go.Operand.tmp 18) (Go.Operand.tmp 19) 3, type := 3, pos := "levels.go:52", after := #[{ on := 2, ground := Go.Ground.data }, { on := 3, ground := Go.Ground.data }], guard := none }) rfl rfl (fun K hK => ?_) (allReadyIn_want (o := { dst := some 21, op := Go.Op.load 3 (Go.Operand.tmp 3), type := 3, pos := "levels.go:52", after := #[], guard := none }) rfl rfl (fun K hK => ?_) AllReadyIn.nil)))
  · (first | gi_big_move | gi_big_op)
    try rw [hw1]
    exact hK _ _ (rg15 l d Q v0 v1 v2 v4 v8 v9 v10 v11 v12 v13 v14 v15 v16 v17 v18 v19 v20 v21 v22 v23 v24 v25 v26 v27 v28 bC bt bl a k z C m W0 W1 W2 hw1 hw2 hw3 hmx a1 a2 a3 af e1 b1 b3 bf e2 hQ)
  · (first | gi_big_move | gi_big_op)
    try rw [hw2]
    exact hK _ _ (rg29 l d Q v0 v1 v2 v4 v8 v9 v10 v11 v12 v13 v14 v15 v16 v17 v18 v19 v20 v21 v22 v23 v24 v25 v26 v27 v28 bC bt bl a k z C m W0 W1 W2 hw1 hw2 hw3 hmx a1 a2 a3 af e1 b1 b3 bf e2 hQ)
  · (first | gi_big_move | gi_big_op)
    exact hK _ _ (rg45 l d Q v0 v1 v2 v4 v8 v9 v10 v11 v12 v13 v14 v15 v16 v17 v18 v19 v20 v21 v22 v23 v24 v25 v26 v27 v28 bC bt bl a k z C m W0 W1 W2 hw1 hw2 hw3 hmx a1 a2 a3 af e1 b1 b3 bf e2 hQ)
theorem rg11 : wpAnyIn (Fence.wide.inRound l) d Try.prog .any rgOps Q 7 #[true, true, false, true, false, false, false, false, false, false] { tmps := #[v0, v1, v2, .pointer (some ⟨bC, 0, none⟩), v4, .pointer (some ⟨bt, 0, none⟩), .pointer (some ⟨bl, 0, none⟩), .int .i64 a, v8, v9, v10, v11, v12, v13, v14, v15, .int .i64 k, .int .i64 (k + 1), v18, .int .i64 a, v20, v21, v22, v23, v24, v25, v26, v27, v28], defers := [] } W0 := by
  have _h := [v16, v17, v19]
  refine wpAnyIn_ready (rs := [2, 5, 8]) (by kernel_rfl) (by simp) ?_
  refine (allReadyIn_want (o := { dst := some 18, op := Go.Op.load 3 (Go.Operand.tmp 6), type := 3, pos := "levels.go:52", after := #[], guard := none }) rfl rfl (fun K hK => ?_) (allReadyIn_want (o := { dst := some 21, op := Go.Op.load 3 (Go.Operand.tmp 3), type := 3, pos := "levels.go:52", after := #[], guard := none }) rfl rfl (fun K hK => ?_) (allReadyIn_want (o := { dst := none, op := Go.Op.store 3 (Go.Operand.tmp 5) (Go.Operand.tmp 17), type := 0, pos := "levels.go:52", after := #[{ on := 1, ground := Go.Ground.data }, { on := 0, ground := Go.Ground.phase }, { on := 1, ground := Go.Ground.phase }, { on := 2, ground := Go.Ground.textOnly Go.Departure.inlinedCapture }, { on := 3, ground := Go.Ground.textOnly Go.Departure.lateStores }, { on := 4, ground := Go.Ground.textOnly Go.Departure.inlinedCapture }, { on := 5, ground := Go.Ground.textOnly Go.Departure.inlinedCapture }, { on := 6, ground := Go.Ground.textOnly Go.Departure.inlinedCapture }, { on := 7, ground := Go.Ground.textOnly Go.Departure.lateStoresUnsure }], guard := none }) rfl rfl (fun K hK => ?_) AllReadyIn.nil)))
  · (first | gi_big_move | gi_big_op)
    exact hK _ _ (rg15 l d Q v0 v1 v2 v4 v8 v9 v10 v11 v12 v13 v14 v15 v16 v17 v18 v19 v20 v21 v22 v23 v24 v25 v26 v27 v28 bC bt bl a k z C m W0 W1 W2 hw1 hw2 hw3 hmx a1 a2 a3 af e1 b1 b3 bf e2 hQ)
  · (first | gi_big_move | gi_big_op)
    exact hK _ _ (rg43 l d Q v0 v1 v2 v4 v8 v9 v10 v11 v12 v13 v14 v15 v16 v17 v18 v19 v20 v21 v22 v23 v24 v25 v26 v27 v28 bC bt bl a k z C m W0 W1 W2 hw1 hw2 hw3 hmx a1 a2 a3 af e1 b1 b3 bf e2 hQ)
  · (first | gi_big_move | gi_big_op)
    try rw [e1]
    exact hK _ _ (rg267 l d Q v0 v1 v2 v4 v8 v9 v10 v11 v12 v13 v14 v15 v16 v17 v18 v19 v20 v21 v22 v23 v24 v25 v26 v27 v28 bC bt bl a k z C m W0 W1 W2 hw1 hw2 hw3 hmx a1 a2 a3 af e1 b1 b3 bf e2 hQ)
theorem rg259 : wpAnyIn (Fence.wide.inRound l) d Try.prog .any rgOps Q 7 #[true, true, false, false, false, false, false, false, true, false] { tmps := #[v0, v1, v2, .pointer (some ⟨bC, 0, none⟩), v4, .pointer (some ⟨bt, 0, none⟩), .pointer (some ⟨bl, 0, none⟩), .int .i64 a, v8, v9, v10, v11, v12, v13, v14, v15, .int .i64 k, .int .i64 (k + 1), v18, v19, v20, v21, v22, v23, v24, v25, v26, v27, v28], defers := [] } W1 := by
  have _h := [v16, v17]
  refine wpAnyIn_ready (rs := [2, 3, 5]) (by kernel_rfl) (by simp) ?_
  refine (allReadyIn_want (o := { dst := some 18, op := Go.Op.load 3 (Go.Operand.tmp 6), type := 3, pos := "levels.go:52", after := #[], guard := none }) rfl rfl (fun K hK => ?_) (allReadyIn_want (o := { dst := some 19, op := Go.Op.move (Go.Operand.tmp 7), type := 3, pos := "levels.go:52", after := #[], guard := none }) rfl rfl (fun K hK => ?_) (allReadyIn_want (o := { dst := some 21, op := Go.Op.load 3 (Go.Operand.tmp 3), type := 3, pos := "levels.go:52", after := #[], guard := none }) rfl rfl (fun K hK => ?_) AllReadyIn.nil)))
  · (first | gi_big_move | gi_big_op)
    exact hK _ _ (rg263 l d Q v0 v1 v2 v4 v8 v9 v10 v11 v12 v13 v14 v15 v16 v17 v18 v19 v20 v21 v22 v23 v24 v25 v26 v27 v28 bC bt bl a k z C m W0 W1 W2 hw1 hw2 hw3 hmx a1 a2 a3 af e1 b1 b3 bf e2 hQ)
  · (first | gi_big_move | gi_big_op)
    exact hK _ _ (rg267 l d Q v0 v1 v2 v4 v8 v9 v10 v11 v12 v13 v14 v15 v16 v17 v18 v19 v20 v21 v22 v23 v24 v25 v26 v27 v28 bC bt bl a k z C m W0 W1 W2 hw1 hw2 hw3 hmx a1 a2 a3 af e1 b1 b3 bf e2 hQ)
  · (first | gi_big_move | gi_big_op)
    exact hK _ _ (rg291 l d Q v0 v1 v2 v4 v8 v9 v10 v11 v12 v13 v14 v15 v16 v17 v18 v19 v20 v21 v22 v23 v24 v25 v26 v27 v28 bC bt bl a k z C m W0 W1 W2 hw1 hw2 hw3 hmx a1 a2 a3 af e1 b1 b3 bf e2 hQ)
theorem rg28 : wpAnyIn (Fence.wide.inRound l) d Try.prog .any rgOps Q 7 #[false, false, true, true, true, false, false, false, false, false] { tmps := #[v0, v1, v2, .pointer (some ⟨bC, 0, none⟩), v4, .pointer (some ⟨bt, 0, none⟩), .pointer (some ⟨bl, 0, none⟩), .int .i64 a, v8, v9, v10, v11, v12, v13, v14, v15, v16, v17, .int .i64 z, .int .i64 a, .int .i64 (z + a), v21, v22, v23, v24, v25, v26, v27, v28], defers := [] } W0 := by
  have _h := [v18, v19, v20]
  refine wpAnyIn_ready (rs := [0, 5]) (by kernel_rfl) (by simp) ?_
  refine (allReadyIn_want (o := { dst := some 16, op := Go.Op.load 3 (Go.Operand.tmp 5), type := 3, pos := "levels.go:52", after := #[], guard := none }) rfl rfl (fun K hK => ?_) (allReadyIn_want (o := { dst := some 21, op := Go.Op.load 3 (Go.Operand.tmp 3), type := 3, pos := "levels.go:52", after := #[], guard := none }) rfl rfl (fun K hK => ?_) AllReadyIn.nil))
  · (first | gi_big_move | gi_big_op)
    exact hK _ _ (rg29 l d Q v0 v1 v2 v4 v8 v9 v10 v11 v12 v13 v14 v15 v16 v17 v18 v19 v20 v21 v22 v23 v24 v25 v26 v27 v28 bC bt bl a k z C m W0 W1 W2 hw1 hw2 hw3 hmx a1 a2 a3 af e1 b1 b3 bf e2 hQ)
  · (first | gi_big_move | gi_big_op)
    exact hK _ _ (rg60 l d Q v0 v1 v2 v4 v8 v9 v10 v11 v12 v13 v14 v15 v16 v17 v18 v19 v20 v21 v22 v23 v24 v25 v26 v27 v28 bC bt bl a k z C m W0 W1 W2 hw1 hw2 hw3 hmx a1 a2 a3 af e1 b1 b3 bf e2 hQ)
theorem rg35 : wpAnyIn (Fence.wide.inRound l) d Try.prog .any rgOps Q 7 #[true, true, false, false, false, true, false, false, false, false] { tmps := #[v0, v1, v2, .pointer (some ⟨bC, 0, none⟩), v4, .pointer (some ⟨bt, 0, none⟩), .pointer (some ⟨bl, 0, none⟩), .int .i64 a, v8, v9, v10, v11, v12, v13, v14, v15, .int .i64 k, .int .i64 (k + 1), v18, v19, v20, .int .i64 C, v22, v23, v24, v25, v26, v27, v28], defers := [] } W0 := by
  have _h := [v16, v17, v21]
  refine wpAnyIn_ready (rs := [2, 3, 8]) (by kernel_rfl) (by simp) ?_
  refine (allReadyIn_want (o := { dst := some 18, op := Go.Op.load 3 (Go.Operand.tmp 6), type := 3, pos := "levels.go:52", after := #[], guard := none }) rfl rfl (fun K hK => ?_) (allReadyIn_want (o := { dst := some 19, op := Go.Op.move (Go.Operand.tmp 7), type := 3, pos := "levels.go:52", after := #[], guard := none }) rfl rfl (fun K hK => ?_) (allReadyIn_want (o := { dst := none, op := Go.Op.store 3 (Go.Operand.tmp 5) (Go.Operand.tmp 17), type := 0, pos := "levels.go:52", after := #[{ on := 1, ground := Go.Ground.data }, { on := 0, ground := Go.Ground.phase }, { on := 1, ground := Go.Ground.phase }, { on := 2, ground := Go.Ground.textOnly Go.Departure.inlinedCapture }, { on := 3, ground := Go.Ground.textOnly Go.Departure.lateStores }, { on := 4, ground := Go.Ground.textOnly Go.Departure.inlinedCapture }, { on := 5, ground := Go.Ground.textOnly Go.Departure.inlinedCapture }, { on := 6, ground := Go.Ground.textOnly Go.Departure.inlinedCapture }, { on := 7, ground := Go.Ground.textOnly Go.Departure.lateStoresUnsure }], guard := none }) rfl rfl (fun K hK => ?_) AllReadyIn.nil)))
  · (first | gi_big_move | gi_big_op)
    exact hK _ _ (rg39 l d Q v0 v1 v2 v4 v8 v9 v10 v11 v12 v13 v14 v15 v16 v17 v18 v19 v20 v21 v22 v23 v24 v25 v26 v27 v28 bC bt bl a k z C m W0 W1 W2 hw1 hw2 hw3 hmx a1 a2 a3 af e1 b1 b3 bf e2 hQ)
  · (first | gi_big_move | gi_big_op)
    exact hK _ _ (rg43 l d Q v0 v1 v2 v4 v8 v9 v10 v11 v12 v13 v14 v15 v16 v17 v18 v19 v20 v21 v22 v23 v24 v25 v26 v27 v28 bC bt bl a k z C m W0 W1 W2 hw1 hw2 hw3 hmx a1 a2 a3 af e1 b1 b3 bf e2 hQ)
  · (first | gi_big_move | gi_big_op)
    try rw [e1]
    exact hK _ _ (rg291 l d Q v0 v1 v2 v4 v8 v9 v10 v11 v12 v13 v14 v15 v16 v17 v18 v19 v20 v21 v22 v23 v24 v25 v26 v27 v28 bC bt bl a k z C m W0 W1 W2 hw1 hw2 hw3 hmx a1 a2 a3 af e1 b1 b3 bf e2 hQ)
theorem rg37 : wpAnyIn (Fence.wide.inRound l) d Try.prog .any rgOps Q 7 #[true, false, true, false, false, true, false, false, false, false] { tmps := #[v0, v1, v2, .pointer (some ⟨bC, 0, none⟩), v4, .pointer (some ⟨bt, 0, none⟩), .pointer (some ⟨bl, 0, none⟩), .int .i64 a, v8, v9, v10, v11, v12, v13, v14, v15, .int .i64 k, v17, .int .i64 z, v19, v20, .int .i64 C, v22, v23, v24, v25, v26, v27, v28], defers := [] } W0 := by
  have _h := [v16, v18, v21]
  refine wpAnyIn_ready (rs := [1, 3]) (by kernel_rfl) (by simp) ?_
  refine (allReadyIn_want (o := { dst := some 17, op := Go.Op.binOp Go.BinOp.add 3 (Go.Operand.tmp 16) (Go.Operand.const (Go.Value.int Go.IntKind.i64 1)) 3, type := 3, pos := "levels.go:52", after := #[{ on := 0, ground := Go.Ground.data }], guard := none }) rfl rfl (fun K hK => ?_) (allReadyIn_want (o := { dst := some 19, op := Go.Op.move (Go.Operand.tmp 7), type := 3, pos := "levels.go:52", after := #[], guard := none }) rfl rfl (fun K hK => ?_) AllReadyIn.nil))
  · (first | gi_big_move | gi_big_op)
    try rw [hw1]
    exact hK _ _ (rg39 l d Q v0 v1 v2 v4 v8 v9 v10 v11 v12 v13 v14 v15 v16 v17 v18 v19 v20 v21 v22 v23 v24 v25 v26 v27 v28 bC bt bl a k z C m W0 W1 W2 hw1 hw2 hw3 hmx a1 a2 a3 af e1 b1 b3 bf e2 hQ)
  · (first | gi_big_move | gi_big_op)
    exact hK _ _ (rg45 l d Q v0 v1 v2 v4 v8 v9 v10 v11 v12 v13 v14 v15 v16 v17 v18 v19 v20 v21 v22 v23 v24 v25 v26 v27 v28 bC bt bl a k z C m W0 W1 W2 hw1 hw2 hw3 hmx a1 a2 a3 af e1 b1 b3 bf e2 hQ)
theorem rg41 : wpAnyIn (Fence.wide.inRound l) d Try.prog .any rgOps Q 7 #[true, false, false, true, false, true, false, false, false, false] { tmps := #[v0, v1, v2, .pointer (some ⟨bC, 0, none⟩), v4, .pointer (some ⟨bt, 0, none⟩), .pointer (some ⟨bl, 0, none⟩), .int .i64 a, v8, v9, v10, v11, v12, v13, v14, v15, .int .i64 k, v17, v18, .int .i64 a, v20, .int .i64 C, v22, v23, v24, v25, v26, v27, v28], defers := [] } W0 := by
  have _h := [v16, v19, v21]
  refine wpAnyIn_ready (rs := [1, 2]) (by kernel_rfl) (by simp) ?_
  refine (allReadyIn_want (o := { dst := some 17, op := Go.Op.binOp Go.BinOp.add 3 (Go.Operand.tmp 16) (Go.Operand.const (Go.Value.int Go.IntKind.i64 1)) 3, type := 3, pos := "levels.go:52", after := #[{ on := 0, ground := Go.Ground.data }], guard := none }) rfl rfl (fun K hK => ?_) (allReadyIn_want (o := { dst := some 18, op := Go.Op.load 3 (Go.Operand.tmp 6), type := 3, pos := "levels.go:52", after := #[], guard := none }) rfl rfl (fun K hK => ?_) AllReadyIn.nil))
  · (first | gi_big_move | gi_big_op)
    try rw [hw1]
    exact hK _ _ (rg43 l d Q v0 v1 v2 v4 v8 v9 v10 v11 v12 v13 v14 v15 v16 v17 v18 v19 v20 v21 v22 v23 v24 v25 v26 v27 v28 bC bt bl a k z C m W0 W1 W2 hw1 hw2 hw3 hmx a1 a2 a3 af e1 b1 b3 bf e2 hQ)
  · (first | gi_big_move | gi_big_op)
    exact hK _ _ (rg45 l d Q v0 v1 v2 v4 v8 v9 v10 v11 v12 v13 v14 v15 v16 v17 v18 v19 v20 v21 v22 v23 v24 v25 v26 v27 v28 bC bt bl a k z C m W0 W1 W2 hw1 hw2 hw3 hmx a1 a2 a3 af e1 b1 b3 bf e2 hQ)
theorem rg44 : wpAnyIn (Fence.wide.inRound l) d Try.prog .any rgOps Q 7 #[false, false, true, true, false, true, false, false, false, false] { tmps := #[v0, v1, v2, .pointer (some ⟨bC, 0, none⟩), v4, .pointer (some ⟨bt, 0, none⟩), .pointer (some ⟨bl, 0, none⟩), .int .i64 a, v8, v9, v10, v11, v12, v13, v14, v15, v16, v17, .int .i64 z, .int .i64 a, v20, .int .i64 C, v22, v23, v24, v25, v26, v27, v28], defers := [] } W0 := by
  have _h := [v18, v19, v21]
  refine wpAnyIn_ready (rs := [0, 4]) (by kernel_rfl) (by simp) ?_
  refine (allReadyIn_want (o := { dst := some 16, op := Go.Op.load 3 (Go.Operand.tmp 5), type := 3, pos := "levels.go:52", after := #[], guard := none }) rfl rfl (fun K hK => ?_) (allReadyIn_want (o := { dst := some 20, op := Go.Op.binOp Go.BinOp.add 3 (Go.Operand.tmp 18) (Go.Operand.tmp 19) 3, type := 3, pos := "levels.go:52", after := #[{ on := 2, ground := Go.Ground.data }, { on := 3, ground := Go.Ground.data }], guard := none }) rfl rfl (fun K hK => ?_) AllReadyIn.nil))
  · (first | gi_big_move | gi_big_op)
    exact hK _ _ (rg45 l d Q v0 v1 v2 v4 v8 v9 v10 v11 v12 v13 v14 v15 v16 v17 v18 v19 v20 v21 v22 v23 v24 v25 v26 v27 v28 bC bt bl a k z C m W0 W1 W2 hw1 hw2 hw3 hmx a1 a2 a3 af e1 b1 b3 bf e2 hQ)
  · (first | gi_big_move | gi_big_op)
    try rw [hw2]
    exact hK _ _ (rg60 l d Q v0 v1 v2 v4 v8 v9 v10 v11 v12 v13 v14 v15 v16 v17 v18 v19 v20 v21 v22 v23 v24 v25 v26 v27 v28 bC bt bl a k z C m W0 W1 W2 hw1 hw2 hw3 hmx a1 a2 a3 af e1 b1 b3 bf e2 hQ)
theorem rg5 : wpAnyIn (Fence.wide.inRound l) d Try.prog .any rgOps Q 8 #[true, false, true, false, false, false, false, false, false, false] { tmps := #[v0, v1, v2, .pointer (some ⟨bC, 0, none⟩), v4, .pointer (some ⟨bt, 0, none⟩), .pointer (some ⟨bl, 0, none⟩), .int .i64 a, v8, v9, v10, v11, v12, v13, v14, v15, .int .i64 k, v17, .int .i64 z, v19, v20, v21, v22, v23, v24, v25, v26, v27, v28], defers := [] } W0 := by
  have _h := [v16, v18]
  refine wpAnyIn_ready (rs := [1, 3, 5]) (by kernel_rfl) (by simp) ?_
  refine (allReadyIn_want (o := { dst := some 17, op := Go.Op.binOp Go.BinOp.add 3 (Go.Operand.tmp 16) (Go.Operand.const (Go.Value.int Go.IntKind.i64 1)) 3, type := 3, pos := "levels.go:52", after := #[{ on := 0, ground := Go.Ground.data }], guard := none }) rfl rfl (fun K hK => ?_) (allReadyIn_want (o := { dst := some 19, op := Go.Op.move (Go.Operand.tmp 7), type := 3, pos := "levels.go:52", after := #[], guard := none }) rfl rfl (fun K hK => ?_) (allReadyIn_want (o := { dst := some 21, op := Go.Op.load 3 (Go.Operand.tmp 3), type := 3, pos := "levels.go:52", after := #[], guard := none }) rfl rfl (fun K hK => ?_) AllReadyIn.nil)))
  · (first | gi_big_move | gi_big_op)
    try rw [hw1]
    exact hK _ _ (rg7 l d Q v0 v1 v2 v4 v8 v9 v10 v11 v12 v13 v14 v15 v16 v17 v18 v19 v20 v21 v22 v23 v24 v25 v26 v27 v28 bC bt bl a k z C m W0 W1 W2 hw1 hw2 hw3 hmx a1 a2 a3 af e1 b1 b3 bf e2 hQ)
  · (first | gi_big_move | gi_big_op)
    exact hK _ _ (rg13 l d Q v0 v1 v2 v4 v8 v9 v10 v11 v12 v13 v14 v15 v16 v17 v18 v19 v20 v21 v22 v23 v24 v25 v26 v27 v28 bC bt bl a k z C m W0 W1 W2 hw1 hw2 hw3 hmx a1 a2 a3 af e1 b1 b3 bf e2 hQ)
  · (first | gi_big_move | gi_big_op)
    exact hK _ _ (rg37 l d Q v0 v1 v2 v4 v8 v9 v10 v11 v12 v13 v14 v15 v16 v17 v18 v19 v20 v21 v22 v23 v24 v25 v26 v27 v28 bC bt bl a k z C m W0 W1 W2 hw1 hw2 hw3 hmx a1 a2 a3 af e1 b1 b3 bf e2 hQ)
theorem rg3 : wpAnyIn (Fence.wide.inRound l) d Try.prog .any rgOps Q 8 #[true, true, false, false, false, false, false, false, false, false] { tmps := #[v0, v1, v2, .pointer (some ⟨bC, 0, none⟩), v4, .pointer (some ⟨bt, 0, none⟩), .pointer (some ⟨bl, 0, none⟩), .int .i64 a, v8, v9, v10, v11, v12, v13, v14, v15, .int .i64 k, .int .i64 (k + 1), v18, v19, v20, v21, v22, v23, v24, v25, v26, v27, v28], defers := [] } W0 := by
  have _h := [v16, v17]
  refine wpAnyIn_ready (rs := [2, 3, 5, 8]) (by kernel_rfl) (by simp) ?_
  refine (allReadyIn_want (o := { dst := some 18, op := Go.Op.load 3 (Go.Operand.tmp 6), type := 3, pos := "levels.go:52", after := #[], guard := none }) rfl rfl (fun K hK => ?_) (allReadyIn_want (o := { dst := some 19, op := Go.Op.move (Go.Operand.tmp 7), type := 3, pos := "levels.go:52", after := #[], guard := none }) rfl rfl (fun K hK => ?_) (allReadyIn_want (o := { dst := some 21, op := Go.Op.load 3 (Go.Operand.tmp 3), type := 3, pos := "levels.go:52", after := #[], guard := none }) rfl rfl (fun K hK => ?_) (allReadyIn_want (o := { dst := none, op := Go.Op.store 3 (Go.Operand.tmp 5) (Go.Operand.tmp 17), type := 0, pos := "levels.go:52", after := #[{ on := 1, ground := Go.Ground.data }, { on := 0, ground := Go.Ground.phase }, { on := 1, ground := Go.Ground.phase }, { on := 2, ground := Go.Ground.textOnly Go.Departure.inlinedCapture }, { on := 3, ground := Go.Ground.textOnly Go.Departure.lateStores }, { on := 4, ground := Go.Ground.textOnly Go.Departure.inlinedCapture }, { on := 5, ground := Go.Ground.textOnly Go.Departure.inlinedCapture }, { on := 6, ground := Go.Ground.textOnly Go.Departure.inlinedCapture }, { on := 7, ground := Go.Ground.textOnly Go.Departure.lateStoresUnsure }], guard := none }) rfl rfl (fun K hK => ?_) AllReadyIn.nil))))
  · (first | gi_big_move | gi_big_op)
    exact hK _ _ (rg7 l d Q v0 v1 v2 v4 v8 v9 v10 v11 v12 v13 v14 v15 v16 v17 v18 v19 v20 v21 v22 v23 v24 v25 v26 v27 v28 bC bt bl a k z C m W0 W1 W2 hw1 hw2 hw3 hmx a1 a2 a3 af e1 b1 b3 bf e2 hQ)
  · (first | gi_big_move | gi_big_op)
    exact hK _ _ (rg11 l d Q v0 v1 v2 v4 v8 v9 v10 v11 v12 v13 v14 v15 v16 v17 v18 v19 v20 v21 v22 v23 v24 v25 v26 v27 v28 bC bt bl a k z C m W0 W1 W2 hw1 hw2 hw3 hmx a1 a2 a3 af e1 b1 b3 bf e2 hQ)
  · (first | gi_big_move | gi_big_op)
    exact hK _ _ (rg35 l d Q v0 v1 v2 v4 v8 v9 v10 v11 v12 v13 v14 v15 v16 v17 v18 v19 v20 v21 v22 v23 v24 v25 v26 v27 v28 bC bt bl a k z C m W0 W1 W2 hw1 hw2 hw3 hmx a1 a2 a3 af e1 b1 b3 bf e2 hQ)
  · (first | gi_big_move | gi_big_op)
    try rw [e1]
    exact hK _ _ (rg259 l d Q v0 v1 v2 v4 v8 v9 v10 v11 v12 v13 v14 v15 v16 v17 v18 v19 v20 v21 v22 v23 v24 v25 v26 v27 v28 bC bt bl a k z C m W0 W1 W2 hw1 hw2 hw3 hmx a1 a2 a3 af e1 b1 b3 bf e2 hQ)
theorem rg9 : wpAnyIn (Fence.wide.inRound l) d Try.prog .any rgOps Q 8 #[true, false, false, true, false, false, false, false, false, false] { tmps := #[v0, v1, v2, .pointer (some ⟨bC, 0, none⟩), v4, .pointer (some ⟨bt, 0, none⟩), .pointer (some ⟨bl, 0, none⟩), .int .i64 a, v8, v9, v10, v11, v12, v13, v14, v15, .int .i64 k, v17, v18, .int .i64 a, v20, v21, v22, v23, v24, v25, v26, v27, v28], defers := [] } W0 := by
  have _h := [v16, v19]
  refine wpAnyIn_ready (rs := [1, 2, 5]) (by kernel_rfl) (by simp) ?_
  refine (allReadyIn_want (o := { dst := some 17, op := Go.Op.binOp Go.BinOp.add 3 (Go.Operand.tmp 16) (Go.Operand.const (Go.Value.int Go.IntKind.i64 1)) 3, type := 3, pos := "levels.go:52", after := #[{ on := 0, ground := Go.Ground.data }], guard := none }) rfl rfl (fun K hK => ?_) (allReadyIn_want (o := { dst := some 18, op := Go.Op.load 3 (Go.Operand.tmp 6), type := 3, pos := "levels.go:52", after := #[], guard := none }) rfl rfl (fun K hK => ?_) (allReadyIn_want (o := { dst := some 21, op := Go.Op.load 3 (Go.Operand.tmp 3), type := 3, pos := "levels.go:52", after := #[], guard := none }) rfl rfl (fun K hK => ?_) AllReadyIn.nil)))
  · (first | gi_big_move | gi_big_op)
    try rw [hw1]
    exact hK _ _ (rg11 l d Q v0 v1 v2 v4 v8 v9 v10 v11 v12 v13 v14 v15 v16 v17 v18 v19 v20 v21 v22 v23 v24 v25 v26 v27 v28 bC bt bl a k z C m W0 W1 W2 hw1 hw2 hw3 hmx a1 a2 a3 af e1 b1 b3 bf e2 hQ)
  · (first | gi_big_move | gi_big_op)
    exact hK _ _ (rg13 l d Q v0 v1 v2 v4 v8 v9 v10 v11 v12 v13 v14 v15 v16 v17 v18 v19 v20 v21 v22 v23 v24 v25 v26 v27 v28 bC bt bl a k z C m W0 W1 W2 hw1 hw2 hw3 hmx a1 a2 a3 af e1 b1 b3 bf e2 hQ)
  · (first | gi_big_move | gi_big_op)
    exact hK _ _ (rg41 l d Q v0 v1 v2 v4 v8 v9 v10 v11 v12 v13 v14 v15 v16 v17 v18 v19 v20 v21 v22 v23 v24 v25 v26 v27 v28 bC bt bl a k z C m W0 W1 W2 hw1 hw2 hw3 hmx a1 a2 a3 af e1 b1 b3 bf e2 hQ)
theorem rg12 : wpAnyIn (Fence.wide.inRound l) d Try.prog .any rgOps Q 8 #[false, false, true, true, false, false, false, false, false, false] { tmps := #[v0, v1, v2, .pointer (some ⟨bC, 0, none⟩), v4, .pointer (some ⟨bt, 0, none⟩), .pointer (some ⟨bl, 0, none⟩), .int .i64 a, v8, v9, v10, v11, v12, v13, v14, v15, v16, v17, .int .i64 z, .int .i64 a, v20, v21, v22, v23, v24, v25, v26, v27, v28], defers := [] } W0 := by
  have _h := [v18, v19]
  refine wpAnyIn_ready (rs := [0, 4, 5]) (by kernel_rfl) (by simp) ?_
  refine (allReadyIn_want (o := { dst := some 16, op := Go.Op.load 3 (Go.Operand.tmp 5), type := 3, pos := "levels.go:52", after := #[], guard := none }) rfl rfl (fun K hK => ?_) (allReadyIn_want (o := { dst := some 20, op := Go.Op.binOp Go.BinOp.add 3 (Go.Operand.tmp 18) (Go.Operand.tmp 19) 3, type := 3, pos := "levels.go:52", after := #[{ on := 2, ground := Go.Ground.data }, { on := 3, ground := Go.Ground.data }], guard := none }) rfl rfl (fun K hK => ?_) (allReadyIn_want (o := { dst := some 21, op := Go.Op.load 3 (Go.Operand.tmp 3), type := 3, pos := "levels.go:52", after := #[], guard := none }) rfl rfl (fun K hK => ?_) AllReadyIn.nil)))
  · (first | gi_big_move | gi_big_op)
    exact hK _ _ (rg13 l d Q v0 v1 v2 v4 v8 v9 v10 v11 v12 v13 v14 v15 v16 v17 v18 v19 v20 v21 v22 v23 v24 v25 v26 v27 v28 bC bt bl a k z C m W0 W1 W2 hw1 hw2 hw3 hmx a1 a2 a3 af e1 b1 b3 bf e2 hQ)
  · (first | gi_big_move | gi_big_op)
    try rw [hw2]
    exact hK _ _ (rg28 l d Q v0 v1 v2 v4 v8 v9 v10 v11 v12 v13 v14 v15 v16 v17 v18 v19 v20 v21 v22 v23 v24 v25 v26 v27 v28 bC bt bl a k z C m W0 W1 W2 hw1 hw2 hw3 hmx a1 a2 a3 af e1 b1 b3 bf e2 hQ)
  · (first | gi_big_move | gi_big_op)
    exact hK _ _ (rg44 l d Q v0 v1 v2 v4 v8 v9 v10 v11 v12 v13 v14 v15 v16 v17 v18 v19 v20 v21 v22 v23 v24 v25 v26 v27 v28 bC bt bl a k z C m W0 W1 W2 hw1 hw2 hw3 hmx a1 a2 a3 af e1 b1 b3 bf e2 hQ)
theorem rg33 : wpAnyIn (Fence.wide.inRound l) d Try.prog .any rgOps Q 8 #[true, false, false, false, false, true, false, false, false, false] { tmps := #[v0, v1, v2, .pointer (some ⟨bC, 0, none⟩), v4, .pointer (some ⟨bt, 0, none⟩), .pointer (some ⟨bl, 0, none⟩), .int .i64 a, v8, v9, v10, v11, v12, v13, v14, v15, .int .i64 k, v17, v18, v19, v20, .int .i64 C, v22, v23, v24, v25, v26, v27, v28], defers := [] } W0 := by
  have _h := [v16, v21]
  refine wpAnyIn_ready (rs := [1, 2, 3]) (by kernel_rfl) (by simp) ?_
  refine (allReadyIn_want (o := { dst := some 17, op := Go.Op.binOp Go.BinOp.add 3 (Go.Operand.tmp 16) (Go.Operand.const (Go.Value.int Go.IntKind.i64 1)) 3, type := 3, pos := "levels.go:52", after := #[{ on := 0, ground := Go.Ground.data }], guard := none }) rfl rfl (fun K hK => ?_) (allReadyIn_want (o := { dst := some 18, op := Go.Op.load 3 (Go.Operand.tmp 6), type := 3, pos := "levels.go:52", after := #[], guard := none }) rfl rfl (fun K hK => ?_) (allReadyIn_want (o := { dst := some 19, op := Go.Op.move (Go.Operand.tmp 7), type := 3, pos := "levels.go:52", after := #[], guard := none }) rfl rfl (fun K hK => ?_) AllReadyIn.nil)))
  · (first | gi_big_move | gi_big_op)
    try rw [hw1]
    exact hK _ _ (rg35 l d Q v0 v1 v2 v4 v8 v9 v10 v11 v12 v13 v14 v15 v16 v17 v18 v19 v20 v21 v22 v23 v24 v25 v26 v27 v28 bC bt bl a k z C m W0 W1 W2 hw1 hw2 hw3 hmx a1 a2 a3 af e1 b1 b3 bf e2 hQ)
  · (first | gi_big_move | gi_big_op)
    exact hK _ _ (rg37 l d Q v0 v1 v2 v4 v8 v9 v10 v11 v12 v13 v14 v15 v16 v17 v18 v19 v20 v21 v22 v23 v24 v25 v26 v27 v28 bC bt bl a k z C m W0 W1 W2 hw1 hw2 hw3 hmx a1 a2 a3 af e1 b1 b3 bf e2 hQ)
  · (first | gi_big_move | gi_big_op)
    exact hK _ _ (rg41 l d Q v0 v1 v2 v4 v8 v9 v10 v11 v12 v13 v14 v15 v16 v17 v18 v19 v20 v21 v22 v23 v24 v25 v26 v27 v28 bC bt bl a k z C m W0 W1 W2 hw1 hw2 hw3 hmx a1 a2 a3 af e1 b1 b3 bf e2 hQ)
theorem rg36 : wpAnyIn (Fence.wide.inRound l) d Try.prog .any rgOps Q 8 #[false, false, true, false, false, true, false, false, false, false] { tmps := #[v0, v1, v2, .pointer (some ⟨bC, 0, none⟩), v4, .pointer (some ⟨bt, 0, none⟩), .pointer (some ⟨bl, 0, none⟩), .int .i64 a, v8, v9, v10, v11, v12, v13, v14, v15, v16, v17, .int .i64 z, v19, v20, .int .i64 C, v22, v23, v24, v25, v26, v27, v28], defers := [] } W0 := by
  have _h := [v18, v21]
  refine wpAnyIn_ready (rs := [0, 3]) (by kernel_rfl) (by simp) ?_
  refine (allReadyIn_want (o := { dst := some 16, op := Go.Op.load 3 (Go.Operand.tmp 5), type := 3, pos := "levels.go:52", after := #[], guard := none }) rfl rfl (fun K hK => ?_) (allReadyIn_want (o := { dst := some 19, op := Go.Op.move (Go.Operand.tmp 7), type := 3, pos := "levels.go:52", after := #[], guard := none }) rfl rfl (fun K hK => ?_) AllReadyIn.nil))
  · (first | gi_big_move | gi_big_op)
    exact hK _ _ (rg37 l d Q v0 v1 v2 v4 v8 v9 v10 v11 v12 v13 v14 v15 v16 v17 v18 v19 v20 v21 v22 v23 v24 v25 v26 v27 v28 bC bt bl a k z C m W0 W1 W2 hw1 hw2 hw3 hmx a1 a2 a3 af e1 b1 b3 bf e2 hQ)
  · (first | gi_big_move | gi_big_op)
    exact hK _ _ (rg44 l d Q v0 v1 v2 v4 v8 v9 v10 v11 v12 v13 v14 v15 v16 v17 v18 v19 v20 v21 v22 v23 v24 v25 v26 v27 v28 bC bt bl a k z C m W0 W1 W2 hw1 hw2 hw3 hmx a1 a2 a3 af e1 b1 b3 bf e2 hQ)
theorem rg40 : wpAnyIn (Fence.wide.inRound l) d Try.prog .any rgOps Q 8 #[false, false, false, true, false, true, false, false, false, false] { tmps := #[v0, v1, v2, .pointer (some ⟨bC, 0, none⟩), v4, .pointer (some ⟨bt, 0, none⟩), .pointer (some ⟨bl, 0, none⟩), .int .i64 a, v8, v9, v10, v11, v12, v13, v14, v15, v16, v17, v18, .int .i64 a, v20, .int .i64 C, v22, v23, v24, v25, v26, v27, v28], defers := [] } W0 := by
  have _h := [v19, v21]
  refine wpAnyIn_ready (rs := [0, 2]) (by kernel_rfl) (by simp) ?_
  refine (allReadyIn_want (o := { dst := some 16, op := Go.Op.load 3 (Go.Operand.tmp 5), type := 3, pos := "levels.go:52", after := #[], guard := none }) rfl rfl (fun K hK => ?_) (allReadyIn_want (o := { dst := some 18, op := Go.Op.load 3 (Go.Operand.tmp 6), type := 3, pos := "levels.go:52", after := #[], guard := none }) rfl rfl (fun K hK => ?_) AllReadyIn.nil))
  · (first | gi_big_move | gi_big_op)
    exact hK _ _ (rg41 l d Q v0 v1 v2 v4 v8 v9 v10 v11 v12 v13 v14 v15 v16 v17 v18 v19 v20 v21 v22 v23 v24 v25 v26 v27 v28 bC bt bl a k z C m W0 W1 W2 hw1 hw2 hw3 hmx a1 a2 a3 af e1 b1 b3 bf e2 hQ)
  · (first | gi_big_move | gi_big_op)
    exact hK _ _ (rg44 l d Q v0 v1 v2 v4 v8 v9 v10 v11 v12 v13 v14 v15 v16 v17 v18 v19 v20 v21 v22 v23 v24 v25 v26 v27 v28 bC bt bl a k z C m W0 W1 W2 hw1 hw2 hw3 hmx a1 a2 a3 af e1 b1 b3 bf e2 hQ)
theorem rg1 : wpAnyIn (Fence.wide.inRound l) d Try.prog .any rgOps Q 9 #[true, false, false, false, false, false, false, false, false, false] { tmps := #[v0, v1, v2, .pointer (some ⟨bC, 0, none⟩), v4, .pointer (some ⟨bt, 0, none⟩), .pointer (some ⟨bl, 0, none⟩), .int .i64 a, v8, v9, v10, v11, v12, v13, v14, v15, .int .i64 k, v17, v18, v19, v20, v21, v22, v23, v24, v25, v26, v27, v28], defers := [] } W0 := by
  have _h := [v16]
  refine wpAnyIn_ready (rs := [1, 2, 3, 5]) (by kernel_rfl) (by simp) ?_
  refine (allReadyIn_want (o := { dst := some 17, op := Go.Op.binOp Go.BinOp.add 3 (Go.Operand.tmp 16) (Go.Operand.const (Go.Value.int Go.IntKind.i64 1)) 3, type := 3, pos := "levels.go:52", after := #[{ on := 0, ground := Go.Ground.data }], guard := none }) rfl rfl (fun K hK => ?_) (allReadyIn_want (o := { dst := some 18, op := Go.Op.load 3 (Go.Operand.tmp 6), type := 3, pos := "levels.go:52", after := #[], guard := none }) rfl rfl (fun K hK => ?_) (allReadyIn_want (o := { dst := some 19, op := Go.Op.move (Go.Operand.tmp 7), type := 3, pos := "levels.go:52", after := #[], guard := none }) rfl rfl (fun K hK => ?_) (allReadyIn_want (o := { dst := some 21, op := Go.Op.load 3 (Go.Operand.tmp 3), type := 3, pos := "levels.go:52", after := #[], guard := none }) rfl rfl (fun K hK => ?_) AllReadyIn.nil))))
  · (first | gi_big_move | gi_big_op)
    try rw [hw1]
    exact hK _ _ (rg3 l d Q v0 v1 v2 v4 v8 v9 v10 v11 v12 v13 v14 v15 v16 v17 v18 v19 v20 v21 v22 v23 v24 v25 v26 v27 v28 bC bt bl a k z C m W0 W1 W2 hw1 hw2 hw3 hmx a1 a2 a3 af e1 b1 b3 bf e2 hQ)
  · (first | gi_big_move | gi_big_op)
    exact hK _ _ (rg5 l d Q v0 v1 v2 v4 v8 v9 v10 v11 v12 v13 v14 v15 v16 v17 v18 v19 v20 v21 v22 v23 v24 v25 v26 v27 v28 bC bt bl a k z C m W0 W1 W2 hw1 hw2 hw3 hmx a1 a2 a3 af e1 b1 b3 bf e2 hQ)
  · (first | gi_big_move | gi_big_op)
    exact hK _ _ (rg9 l d Q v0 v1 v2 v4 v8 v9 v10 v11 v12 v13 v14 v15 v16 v17 v18 v19 v20 v21 v22 v23 v24 v25 v26 v27 v28 bC bt bl a k z C m W0 W1 W2 hw1 hw2 hw3 hmx a1 a2 a3 af e1 b1 b3 bf e2 hQ)
  · (first | gi_big_move | gi_big_op)
    exact hK _ _ (rg33 l d Q v0 v1 v2 v4 v8 v9 v10 v11 v12 v13 v14 v15 v16 v17 v18 v19 v20 v21 v22 v23 v24 v25 v26 v27 v28 bC bt bl a k z C m W0 W1 W2 hw1 hw2 hw3 hmx a1 a2 a3 af e1 b1 b3 bf e2 hQ)
theorem rg4 : wpAnyIn (Fence.wide.inRound l) d Try.prog .any rgOps Q 9 #[false, false, true, false, false, false, false, false, false, false] { tmps := #[v0, v1, v2, .pointer (some ⟨bC, 0, none⟩), v4, .pointer (some ⟨bt, 0, none⟩), .pointer (some ⟨bl, 0, none⟩), .int .i64 a, v8, v9, v10, v11, v12, v13, v14, v15, v16, v17, .int .i64 z, v19, v20, v21, v22, v23, v24, v25, v26, v27, v28], defers := [] } W0 := by
  have _h := [v18]
  refine wpAnyIn_ready (rs := [0, 3, 5]) (by kernel_rfl) (by simp) ?_
  refine (allReadyIn_want (o := { dst := some 16, op := Go.Op.load 3 (Go.Operand.tmp 5), type := 3, pos := "levels.go:52", after := #[], guard := none }) rfl rfl (fun K hK => ?_) (allReadyIn_want (o := { dst := some 19, op := Go.Op.move (Go.Operand.tmp 7), type := 3, pos := "levels.go:52", after := #[], guard := none }) rfl rfl (fun K hK => ?_) (allReadyIn_want (o := { dst := some 21, op := Go.Op.load 3 (Go.Operand.tmp 3), type := 3, pos := "levels.go:52", after := #[], guard := none }) rfl rfl (fun K hK => ?_) AllReadyIn.nil)))
  · (first | gi_big_move | gi_big_op)
    exact hK _ _ (rg5 l d Q v0 v1 v2 v4 v8 v9 v10 v11 v12 v13 v14 v15 v16 v17 v18 v19 v20 v21 v22 v23 v24 v25 v26 v27 v28 bC bt bl a k z C m W0 W1 W2 hw1 hw2 hw3 hmx a1 a2 a3 af e1 b1 b3 bf e2 hQ)
  · (first | gi_big_move | gi_big_op)
    exact hK _ _ (rg12 l d Q v0 v1 v2 v4 v8 v9 v10 v11 v12 v13 v14 v15 v16 v17 v18 v19 v20 v21 v22 v23 v24 v25 v26 v27 v28 bC bt bl a k z C m W0 W1 W2 hw1 hw2 hw3 hmx a1 a2 a3 af e1 b1 b3 bf e2 hQ)
  · (first | gi_big_move | gi_big_op)
    exact hK _ _ (rg36 l d Q v0 v1 v2 v4 v8 v9 v10 v11 v12 v13 v14 v15 v16 v17 v18 v19 v20 v21 v22 v23 v24 v25 v26 v27 v28 bC bt bl a k z C m W0 W1 W2 hw1 hw2 hw3 hmx a1 a2 a3 af e1 b1 b3 bf e2 hQ)
theorem rg8 : wpAnyIn (Fence.wide.inRound l) d Try.prog .any rgOps Q 9 #[false, false, false, true, false, false, false, false, false, false] { tmps := #[v0, v1, v2, .pointer (some ⟨bC, 0, none⟩), v4, .pointer (some ⟨bt, 0, none⟩), .pointer (some ⟨bl, 0, none⟩), .int .i64 a, v8, v9, v10, v11, v12, v13, v14, v15, v16, v17, v18, .int .i64 a, v20, v21, v22, v23, v24, v25, v26, v27, v28], defers := [] } W0 := by
  have _h := [v19]
  refine wpAnyIn_ready (rs := [0, 2, 5]) (by kernel_rfl) (by simp) ?_
  refine (allReadyIn_want (o := { dst := some 16, op := Go.Op.load 3 (Go.Operand.tmp 5), type := 3, pos := "levels.go:52", after := #[], guard := none }) rfl rfl (fun K hK => ?_) (allReadyIn_want (o := { dst := some 18, op := Go.Op.load 3 (Go.Operand.tmp 6), type := 3, pos := "levels.go:52", after := #[], guard := none }) rfl rfl (fun K hK => ?_) (allReadyIn_want (o := { dst := some 21, op := Go.Op.load 3 (Go.Operand.tmp 3), type := 3, pos := "levels.go:52", after := #[], guard := none }) rfl rfl (fun K hK => ?_) AllReadyIn.nil)))
  · (first | gi_big_move | gi_big_op)
    exact hK _ _ (rg9 l d Q v0 v1 v2 v4 v8 v9 v10 v11 v12 v13 v14 v15 v16 v17 v18 v19 v20 v21 v22 v23 v24 v25 v26 v27 v28 bC bt bl a k z C m W0 W1 W2 hw1 hw2 hw3 hmx a1 a2 a3 af e1 b1 b3 bf e2 hQ)
  · (first | gi_big_move | gi_big_op)
    exact hK _ _ (rg12 l d Q v0 v1 v2 v4 v8 v9 v10 v11 v12 v13 v14 v15 v16 v17 v18 v19 v20 v21 v22 v23 v24 v25 v26 v27 v28 bC bt bl a k z C m W0 W1 W2 hw1 hw2 hw3 hmx a1 a2 a3 af e1 b1 b3 bf e2 hQ)
  · (first | gi_big_move | gi_big_op)
    exact hK _ _ (rg40 l d Q v0 v1 v2 v4 v8 v9 v10 v11 v12 v13 v14 v15 v16 v17 v18 v19 v20 v21 v22 v23 v24 v25 v26 v27 v28 bC bt bl a k z C m W0 W1 W2 hw1 hw2 hw3 hmx a1 a2 a3 af e1 b1 b3 bf e2 hQ)
theorem rg32 : wpAnyIn (Fence.wide.inRound l) d Try.prog .any rgOps Q 9 #[false, false, false, false, false, true, false, false, false, false] { tmps := #[v0, v1, v2, .pointer (some ⟨bC, 0, none⟩), v4, .pointer (some ⟨bt, 0, none⟩), .pointer (some ⟨bl, 0, none⟩), .int .i64 a, v8, v9, v10, v11, v12, v13, v14, v15, v16, v17, v18, v19, v20, .int .i64 C, v22, v23, v24, v25, v26, v27, v28], defers := [] } W0 := by
  have _h := [v21]
  refine wpAnyIn_ready (rs := [0, 2, 3]) (by kernel_rfl) (by simp) ?_
  refine (allReadyIn_want (o := { dst := some 16, op := Go.Op.load 3 (Go.Operand.tmp 5), type := 3, pos := "levels.go:52", after := #[], guard := none }) rfl rfl (fun K hK => ?_) (allReadyIn_want (o := { dst := some 18, op := Go.Op.load 3 (Go.Operand.tmp 6), type := 3, pos := "levels.go:52", after := #[], guard := none }) rfl rfl (fun K hK => ?_) (allReadyIn_want (o := { dst := some 19, op := Go.Op.move (Go.Operand.tmp 7), type := 3, pos := "levels.go:52", after := #[], guard := none }) rfl rfl (fun K hK => ?_) AllReadyIn.nil)))
  · (first | gi_big_move | gi_big_op)
    exact hK _ _ (rg33 l d Q v0 v1 v2 v4 v8 v9 v10 v11 v12 v13 v14 v15 v16 v17 v18 v19 v20 v21 v22 v23 v24 v25 v26 v27 v28 bC bt bl a k z C m W0 W1 W2 hw1 hw2 hw3 hmx a1 a2 a3 af e1 b1 b3 bf e2 hQ)
  · (first | gi_big_move | gi_big_op)
    exact hK _ _ (rg36 l d Q v0 v1 v2 v4 v8 v9 v10 v11 v12 v13 v14 v15 v16 v17 v18 v19 v20 v21 v22 v23 v24 v25 v26 v27 v28 bC bt bl a k z C m W0 W1 W2 hw1 hw2 hw3 hmx a1 a2 a3 af e1 b1 b3 bf e2 hQ)
  · (first | gi_big_move | gi_big_op)
    exact hK _ _ (rg40 l d Q v0 v1 v2 v4 v8 v9 v10 v11 v12 v13 v14 v15 v16 v17 v18 v19 v20 v21 v22 v23 v24 v25 v26 v27 v28 bC bt bl a k z C m W0 W1 W2 hw1 hw2 hw3 hmx a1 a2 a3 af e1 b1 b3 bf e2 hQ)
theorem rg0 : wpAnyIn (Fence.wide.inRound l) d Try.prog .any rgOps Q 10 #[false, false, false, false, false, false, false, false, false, false] { tmps := #[v0, v1, v2, .pointer (some ⟨bC, 0, none⟩), v4, .pointer (some ⟨bt, 0, none⟩), .pointer (some ⟨bl, 0, none⟩), .int .i64 a, v8, v9, v10, v11, v12, v13, v14, v15, v16, v17, v18, v19, v20, v21, v22, v23, v24, v25, v26, v27, v28], defers := [] } W0 := by
  refine wpAnyIn_ready (rs := [0, 2, 3, 5]) (by kernel_rfl) (by simp) ?_
  refine (allReadyIn_want (o := { dst := some 16, op := Go.Op.load 3 (Go.Operand.tmp 5), type := 3, pos := "levels.go:52", after := #[], guard := none }) rfl rfl (fun K hK => ?_) (allReadyIn_want (o := { dst := some 18, op := Go.Op.load 3 (Go.Operand.tmp 6), type := 3, pos := "levels.go:52", after := #[], guard := none }) rfl rfl (fun K hK => ?_) (allReadyIn_want (o := { dst := some 19, op := Go.Op.move (Go.Operand.tmp 7), type := 3, pos := "levels.go:52", after := #[], guard := none }) rfl rfl (fun K hK => ?_) (allReadyIn_want (o := { dst := some 21, op := Go.Op.load 3 (Go.Operand.tmp 3), type := 3, pos := "levels.go:52", after := #[], guard := none }) rfl rfl (fun K hK => ?_) AllReadyIn.nil))))
  · (first | gi_big_move | gi_big_op)
    exact hK _ _ (rg1 l d Q v0 v1 v2 v4 v8 v9 v10 v11 v12 v13 v14 v15 v16 v17 v18 v19 v20 v21 v22 v23 v24 v25 v26 v27 v28 bC bt bl a k z C m W0 W1 W2 hw1 hw2 hw3 hmx a1 a2 a3 af e1 b1 b3 bf e2 hQ)
  · (first | gi_big_move | gi_big_op)
    exact hK _ _ (rg4 l d Q v0 v1 v2 v4 v8 v9 v10 v11 v12 v13 v14 v15 v16 v17 v18 v19 v20 v21 v22 v23 v24 v25 v26 v27 v28 bC bt bl a k z C m W0 W1 W2 hw1 hw2 hw3 hmx a1 a2 a3 af e1 b1 b3 bf e2 hQ)
  · (first | gi_big_move | gi_big_op)
    exact hK _ _ (rg8 l d Q v0 v1 v2 v4 v8 v9 v10 v11 v12 v13 v14 v15 v16 v17 v18 v19 v20 v21 v22 v23 v24 v25 v26 v27 v28 bC bt bl a k z C m W0 W1 W2 hw1 hw2 hw3 hmx a1 a2 a3 af e1 b1 b3 bf e2 hQ)
  · (first | gi_big_move | gi_big_op)
    exact hK _ _ (rg32 l d Q v0 v1 v2 v4 v8 v9 v10 v11 v12 v13 v14 v15 v16 v17 v18 v19 v20 v21 v22 v23 v24 v25 v26 v27 v28 bC bt bl a k z C m W0 W1 W2 hw1 hw2 hw3 hmx a1 a2 a3 af e1 b1 b3 bf e2 hQ)
end
theorem rg_levels (l d : Nat) (Q : Exit → Act → World → Prop) (v0 v1 v2 v4 v8 v9 v10 v11 v12 v13 v14 v15 v16 v17 v18 v19 v20 v21 v22 v23 v24 v25 v26 v27 v28 : Value) (bC bt bl : Nat) (a k z C m : Int) (hm : max 0 (z + a - C) = m) (hk : 0 ≤ k ∧ k ≤ 100000) (hz : 0 ≤ z ∧ z ≤ 1700000000000000) (ha : 0 ≤ a ∧ a ≤ 1600000000000) (hC : 0 ≤ C ∧ C ≤ 100000000) (n1 : bC ≠ bt) (n2 : bC ≠ bl) (n3 : bt ≠ bl) (n4 : bl ≠ bt)
    (Y : World) (c1 : Y.cell? ⟨bC, 0, none⟩ = some (.int .i64 C)) (c2 : Y.cell? ⟨bt, 0, none⟩ = some (.int .i64 k)) (c3 : Y.cell? ⟨bl, 0, none⟩ = some (.int .i64 z)) (f2 : Y.frozen? ⟨bt, 0, none⟩ = false) (f3 : Y.frozen? ⟨bl, 0, none⟩ = false)
    (hQ : Q .normal { tmps := #[v0, v1, v2, .pointer (some ⟨bC, 0, none⟩), v4, .pointer (some ⟨bt, 0, none⟩), .pointer (some ⟨bl, 0, none⟩), .int .i64 a, v8, v9, v10, v11, v12, v13, v14, v15, .int .i64 k, .int .i64 (k + 1), .int .i64 z, .int .i64 a, .int .i64 (z + a), .int .i64 C, .int .i64 (z + a - C), .int .i64 m, v24, v25, v26, v27, v28], defers := [] } ((Y.setCell ⟨bt, 0, none⟩ (.int .i64 (k + 1))).setCell ⟨bl, 0, none⟩ (.int .i64 m)).drew) :
    (Code.region 5 rgOps true).wpIn (Fence.wide.inRound l) d Try.prog Q { tmps := #[v0, v1, v2, .pointer (some ⟨bC, 0, none⟩), v4, .pointer (some ⟨bt, 0, none⟩), .pointer (some ⟨bl, 0, none⟩), .int .i64 a, v8, v9, v10, v11, v12, v13, v14, v15, v16, v17, v18, v19, v20, v21, v22, v23, v24, v25, v26, v27, v28], defers := [] } Y := by
  have h0 : ∀ (b : Nat) (x : Value), b ≠ bt → Y.cell? ⟨b, 0, none⟩ = some x → (Y.drew.setCell ⟨bt, 0, none⟩ (.int .i64 (k + 1))).cell? ⟨b, 0, none⟩ = some x := fun b x hb hx => by
    refine (World.cell?_of_block (w := Y) (a := ⟨b, 0, none⟩) ?_).trans hx
    exact Below.heap_setCell Y.drew ⟨bt, 0, none⟩ _ b hb
  have hf : (Y.drew.setCell ⟨bt, 0, none⟩ (.int .i64 (k + 1))).frozen? ⟨bl, 0, none⟩ = false := by
    have : (Y.drew.setCell ⟨bt, 0, none⟩ (.int .i64 (k + 1))).heap[bl]? = Y.heap[bl]? := Below.heap_setCell Y.drew ⟨bt, 0, none⟩ _ bl n4
    unfold World.frozen? at f3 ⊢
    rw [show (Y.drew.setCell ⟨bt, 0, none⟩ (.int .i64 (k + 1))).heap[(⟨bl, 0, none⟩ : Addr).block]? = Y.heap[bl]? from this]
    exact f3
  refine wpIn_region_any (by kernel_rfl) ?_
  exact rg0 l d Q v0 v1 v2 v4 v8 v9 v10 v11 v12 v13 v14 v15 v16 v17 v18 v19 v20 v21 v22 v23 v24 v25 v26 v27 v28 bC bt bl a k z C m Y.drew _ _ (by rw [IntKind.wrap_i64]; omega) (by rw [IntKind.wrap_i64]; omega) (by rw [IntKind.wrap_i64]; omega) (by rw [← hm]; split <;> omega) c1 c2 c3 f2 rfl (h0 _ _ n1 c1) (h0 _ _ n4 c3) hf rfl hQ
end Go.Proofs.Ytpokpgnclohiiaa.v6
