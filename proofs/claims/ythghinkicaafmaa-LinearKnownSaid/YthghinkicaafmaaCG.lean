/-
  DERIVED. The list of wrong arguments of LinearKnown: made in whatever order (stage 6). (Written by gen/genCG.py.)
-/
import Derived.Test.YthghinkicaafmaaCF
import Derived.BigRegion
namespace Go.Proofs.Ythghinkicaafmaa
open Go.RowKit
set_option maxRecDepth 100000

theorem ev_get {a : Act} {k : Nat} {v : Value} (h : a.eval (.tmp k) = v) : a.tmps[k]?.getD undef = v := by rw [← h]; simp [Act.eval]
/-- The operations. -/
def wrOps : Array Oper := #[{ dst := some 120, op := Go.Op.build 27 #[(1, Go.Operand.const (Go.Value.int Go.IntKind.i64 (-1)))], type := 27, pos := "outright.go:154", after := #[], guard := none }, { dst := some 121, op := Go.Op.build 27 #[(1, Go.Operand.const (Go.Value.int Go.IntKind.i64 100000001))], type := 27, pos := "outright.go:154", after := #[], guard := none }, { dst := some 122, op := Go.Op.build 27 #[(3, Go.Operand.const (Go.Value.int Go.IntKind.i64 (-1)))], type := 27, pos := "outright.go:154", after := #[], guard := none }, { dst := some 123, op := Go.Op.build 27 #[(3, Go.Operand.const (Go.Value.int Go.IntKind.i64 1001))], type := 27, pos := "outright.go:154", after := #[], guard := none }, { dst := some 124, op := Go.Op.makeSlice 25 (Go.Operand.const (Go.Value.int Go.IntKind.i64 17)) (Go.Operand.const (Go.Value.int Go.IntKind.i64 17)), type := 25, pos := "outright.go:154", after := #[], guard := none }, { dst := some 125, op := Go.Op.build 27 #[(2, Go.Operand.tmp 124)], type := 27, pos := "outright.go:154", after := #[{ on := 4, ground := Go.Ground.data }], guard := none }, { dst := some 126, op := Go.Op.makeSlice 32 (Go.Operand.const (Go.Value.int Go.IntKind.i64 1001)) (Go.Operand.const (Go.Value.int Go.IntKind.i64 1001)), type := 32, pos := "outright.go:154", after := #[], guard := none }, { dst := some 127, op := Go.Op.buildSlice 25 1 #[(0, Go.Operand.tmp 126)], type := 25, pos := "outright.go:154", after := #[{ on := 6, ground := Go.Ground.data }], guard := none }, { dst := some 128, op := Go.Op.build 27 #[(2, Go.Operand.tmp 127)], type := 27, pos := "outright.go:154", after := #[{ on := 7, ground := Go.Ground.data }], guard := none }, { dst := some 129, op := Go.Op.buildSlice 32 1 #[(0, Go.Operand.const (Go.Value.int Go.IntKind.i64 (-1)))], type := 32, pos := "outright.go:154", after := #[], guard := none }, { dst := some 130, op := Go.Op.buildSlice 25 2 #[(0, Go.Operand.const (Go.Value.slice none 0 0)), (1, Go.Operand.tmp 129)], type := 25, pos := "outright.go:154", after := #[{ on := 9, ground := Go.Ground.data }], guard := none }, { dst := some 131, op := Go.Op.build 27 #[(2, Go.Operand.tmp 130)], type := 27, pos := "outright.go:154", after := #[{ on := 10, ground := Go.Ground.data }], guard := none }, { dst := some 132, op := Go.Op.buildSlice 32 1 #[(0, Go.Operand.const (Go.Value.int Go.IntKind.i64 100000001))], type := 32, pos := "outright.go:154", after := #[], guard := none }, { dst := some 133, op := Go.Op.buildSlice 25 1 #[(0, Go.Operand.tmp 132)], type := 25, pos := "outright.go:154", after := #[{ on := 12, ground := Go.Ground.data }], guard := none }, { dst := some 134, op := Go.Op.build 27 #[(2, Go.Operand.tmp 133)], type := 27, pos := "outright.go:154", after := #[{ on := 13, ground := Go.Ground.data }], guard := none }, { dst := some 135, op := Go.Op.buildSlice 57 8 #[(0, Go.Operand.tmp 120), (1, Go.Operand.tmp 121), (2, Go.Operand.tmp 122), (3, Go.Operand.tmp 123), (4, Go.Operand.tmp 125), (5, Go.Operand.tmp 128), (6, Go.Operand.tmp 131), (7, Go.Operand.tmp 134)], type := 57, pos := "outright.go:154", after := #[{ on := 0, ground := Go.Ground.data }, { on := 1, ground := Go.Ground.data }, { on := 2, ground := Go.Ground.data }, { on := 3, ground := Go.Ground.data }, { on := 5, ground := Go.Ground.data }, { on := 8, ground := Go.Ground.data }, { on := 11, ground := Go.Ground.data }, { on := 14, ground := Go.Ground.data }], guard := none }, { dst := some 13, op := Go.Op.assign (Go.Operand.tmp 135), type := 57, pos := "outright.go:154", after := #[{ on := 15, ground := Go.Ground.data }, { on := 0, ground := Go.Ground.phase }, { on := 1, ground := Go.Ground.phase }, { on := 2, ground := Go.Ground.phase }, { on := 3, ground := Go.Ground.phase }, { on := 4, ground := Go.Ground.phase }, { on := 5, ground := Go.Ground.phase }, { on := 6, ground := Go.Ground.phase }, { on := 7, ground := Go.Ground.phase }, { on := 8, ground := Go.Ground.phase }, { on := 9, ground := Go.Ground.phase }, { on := 10, ground := Go.Ground.phase }, { on := 11, ground := Go.Ground.phase }, { on := 12, ground := Go.Ground.phase }, { on := 13, ground := Go.Ground.phase }, { on := 14, ground := Go.Ground.phase }, { on := 15, ground := Go.Ground.phase }], guard := none }]
theorem stp4 {Q : Exit → Act → World → Prop} {K : Act → World → Prop} {a : Act} {w : World} (hK : K (a.put (some 124) (.slice (some ⟨w.heap.size, 0, none⟩) 17 17)) (w.alloc (.cells zc17 32))) :
    if Region.wanted ({ dst := some 124, op := Go.Op.makeSlice 25 (Go.Operand.const (Go.Value.int Go.IntKind.i64 17)) (Go.Operand.const (Go.Value.int Go.IntKind.i64 17)), type := 25, pos := "outright.go:154", after := #[], guard := none } : Oper) (yielded wrOps a.tmps) = true then Oper.wp Try.prog ({ dst := some 124, op := Go.Op.makeSlice 25 (Go.Operand.const (Go.Value.int Go.IntKind.i64 17)) (Go.Operand.const (Go.Value.int Go.IntKind.i64 17)), type := 25, pos := "outright.go:154", after := #[], guard := none } : Oper) a w K Q else K (a.put (some 124) undef) w := by
  have hmk := mk17
  go_simp
  exact hK
theorem stp6 {Q : Exit → Act → World → Prop} {K : Act → World → Prop} {a : Act} {w : World} (hK : K (a.put (some 126) (.slice (some ⟨w.heap.size, 0, none⟩) 1001 1001)) (w.alloc (.cells zc1001 3))) :
    if Region.wanted ({ dst := some 126, op := Go.Op.makeSlice 32 (Go.Operand.const (Go.Value.int Go.IntKind.i64 1001)) (Go.Operand.const (Go.Value.int Go.IntKind.i64 1001)), type := 32, pos := "outright.go:154", after := #[], guard := none } : Oper) (yielded wrOps a.tmps) = true then Oper.wp Try.prog ({ dst := some 126, op := Go.Op.makeSlice 32 (Go.Operand.const (Go.Value.int Go.IntKind.i64 1001)) (Go.Operand.const (Go.Value.int Go.IntKind.i64 1001)), type := 32, pos := "outright.go:154", after := #[], guard := none } : Oper) a w K Q else K (a.put (some 126) undef) w := by
  have hmk := mk1001
  go_simp
  exact hK
theorem stp7 {Q : Exit → Act → World → Prop} {K : Act → World → Prop} {a : Act} {w : World} {x : Nat} (h : a.eval (.tmp 126) = .slice (some ⟨x, 0, none⟩) 1001 1001) (hK : K (a.put (some 127) (.slice (some ⟨w.heap.size, 0, none⟩) 1 1)) (w.alloc (.cells #[.slice (some ⟨x, 0, none⟩) 1001 1001] 32))) :
    if Region.wanted ({ dst := some 127, op := Go.Op.buildSlice 25 1 #[(0, Go.Operand.tmp 126)], type := 25, pos := "outright.go:154", after := #[{ on := 6, ground := Go.Ground.data }], guard := none } : Oper) (yielded wrOps a.tmps) = true then Oper.wp Try.prog ({ dst := some 127, op := Go.Op.buildSlice 25 1 #[(0, Go.Operand.tmp 126)], type := 25, pos := "outright.go:154", after := #[{ on := 6, ground := Go.Ground.data }], guard := none } : Oper) a w K Q else K (a.put (some 127) undef) w := by
  have h' := ev_get h
  go_simp
  exact hK
theorem stp9 {Q : Exit → Act → World → Prop} {K : Act → World → Prop} {a : Act} {w : World} (hK : K (a.put (some 129) (.slice (some ⟨w.heap.size, 0, none⟩) 1 1)) (w.alloc (.cells #[.int .i64 (-1)] 3))) :
    if Region.wanted ({ dst := some 129, op := Go.Op.buildSlice 32 1 #[(0, Go.Operand.const (Go.Value.int Go.IntKind.i64 (-1)))], type := 32, pos := "outright.go:154", after := #[], guard := none } : Oper) (yielded wrOps a.tmps) = true then Oper.wp Try.prog ({ dst := some 129, op := Go.Op.buildSlice 32 1 #[(0, Go.Operand.const (Go.Value.int Go.IntKind.i64 (-1)))], type := 32, pos := "outright.go:154", after := #[], guard := none } : Oper) a w K Q else K (a.put (some 129) undef) w := by
  go_simp
  exact hK
theorem stp10 {Q : Exit → Act → World → Prop} {K : Act → World → Prop} {a : Act} {w : World} {x : Nat} (h : a.eval (.tmp 129) = .slice (some ⟨x, 0, none⟩) 1 1) (hK : K (a.put (some 130) (.slice (some ⟨w.heap.size, 0, none⟩) 2 2)) (w.alloc (.cells #[.slice none 0 0, .slice (some ⟨x, 0, none⟩) 1 1] 32))) :
    if Region.wanted ({ dst := some 130, op := Go.Op.buildSlice 25 2 #[(0, Go.Operand.const (Go.Value.slice none 0 0)), (1, Go.Operand.tmp 129)], type := 25, pos := "outright.go:154", after := #[{ on := 9, ground := Go.Ground.data }], guard := none } : Oper) (yielded wrOps a.tmps) = true then Oper.wp Try.prog ({ dst := some 130, op := Go.Op.buildSlice 25 2 #[(0, Go.Operand.const (Go.Value.slice none 0 0)), (1, Go.Operand.tmp 129)], type := 25, pos := "outright.go:154", after := #[{ on := 9, ground := Go.Ground.data }], guard := none } : Oper) a w K Q else K (a.put (some 130) undef) w := by
  have h' := ev_get h
  go_simp
  exact hK
theorem stp12 {Q : Exit → Act → World → Prop} {K : Act → World → Prop} {a : Act} {w : World} (hK : K (a.put (some 132) (.slice (some ⟨w.heap.size, 0, none⟩) 1 1)) (w.alloc (.cells #[.int .i64 100000001] 3))) :
    if Region.wanted ({ dst := some 132, op := Go.Op.buildSlice 32 1 #[(0, Go.Operand.const (Go.Value.int Go.IntKind.i64 100000001))], type := 32, pos := "outright.go:154", after := #[], guard := none } : Oper) (yielded wrOps a.tmps) = true then Oper.wp Try.prog ({ dst := some 132, op := Go.Op.buildSlice 32 1 #[(0, Go.Operand.const (Go.Value.int Go.IntKind.i64 100000001))], type := 32, pos := "outright.go:154", after := #[], guard := none } : Oper) a w K Q else K (a.put (some 132) undef) w := by
  go_simp
  exact hK
theorem stp13 {Q : Exit → Act → World → Prop} {K : Act → World → Prop} {a : Act} {w : World} {x : Nat} (h : a.eval (.tmp 132) = .slice (some ⟨x, 0, none⟩) 1 1) (hK : K (a.put (some 133) (.slice (some ⟨w.heap.size, 0, none⟩) 1 1)) (w.alloc (.cells #[.slice (some ⟨x, 0, none⟩) 1 1] 32))) :
    if Region.wanted ({ dst := some 133, op := Go.Op.buildSlice 25 1 #[(0, Go.Operand.tmp 132)], type := 25, pos := "outright.go:154", after := #[{ on := 12, ground := Go.Ground.data }], guard := none } : Oper) (yielded wrOps a.tmps) = true then Oper.wp Try.prog ({ dst := some 133, op := Go.Op.buildSlice 25 1 #[(0, Go.Operand.tmp 132)], type := 25, pos := "outright.go:154", after := #[{ on := 12, ground := Go.Ground.data }], guard := none } : Oper) a w K Q else K (a.put (some 133) undef) w := by
  have h' := ev_get h
  go_simp
  exact hK
theorem stp15 {Q : Exit → Act → World → Prop} {K : Act → World → Prop} {a : Act} {w : World} {xa xb2 xc2 xd2 : Nat} (h0 : a.eval (.tmp 120) = .agg #[.int .i64 0, .slice none 0 0, .int .i64 (-1), .slice none 0 0, .int .i64 0, .int .i64 0, .int .i64 0]) (h1 : a.eval (.tmp 121) = .agg #[.int .i64 0, .slice none 0 0, .int .i64 100000001, .slice none 0 0, .int .i64 0, .int .i64 0, .int .i64 0]) (h2 : a.eval (.tmp 122) = .agg #[.int .i64 0, .slice none 0 0, .int .i64 0, .slice none 0 0, .int .i64 (-1), .int .i64 0, .int .i64 0]) (h3 : a.eval (.tmp 123) = .agg #[.int .i64 0, .slice none 0 0, .int .i64 0, .slice none 0 0, .int .i64 1001, .int .i64 0, .int .i64 0]) (h5 : a.eval (.tmp 125) = .agg #[.int .i64 0, .slice none 0 0, .int .i64 0, .slice (some ⟨xa, 0, none⟩) 17 17, .int .i64 0, .int .i64 0, .int .i64 0]) (h8 : a.eval (.tmp 128) = .agg #[.int .i64 0, .slice none 0 0, .int .i64 0, .slice (some ⟨xb2, 0, none⟩) 1 1, .int .i64 0, .int .i64 0, .int .i64 0]) (h11 : a.eval (.tmp 131) = .agg #[.int .i64 0, .slice none 0 0, .int .i64 0, .slice (some ⟨xc2, 0, none⟩) 2 2, .int .i64 0, .int .i64 0, .int .i64 0]) (h14 : a.eval (.tmp 134) = .agg #[.int .i64 0, .slice none 0 0, .int .i64 0, .slice (some ⟨xd2, 0, none⟩) 1 1, .int .i64 0, .int .i64 0, .int .i64 0]) (hK : K (a.put (some 135) (.slice (some ⟨w.heap.size, 0, none⟩) 8 8)) (w.alloc (.cells #[.int .i64 0, .slice none 0 0, .int .i64 (-1), .slice none 0 0, .int .i64 0, .int .i64 0, .int .i64 0, .int .i64 0, .slice none 0 0, .int .i64 100000001, .slice none 0 0, .int .i64 0, .int .i64 0, .int .i64 0, .int .i64 0, .slice none 0 0, .int .i64 0, .slice none 0 0, .int .i64 (-1), .int .i64 0, .int .i64 0, .int .i64 0, .slice none 0 0, .int .i64 0, .slice none 0 0, .int .i64 1001, .int .i64 0, .int .i64 0, .int .i64 0, .slice none 0 0, .int .i64 0, .slice (some ⟨xa, 0, none⟩) 17 17, .int .i64 0, .int .i64 0, .int .i64 0, .int .i64 0, .slice none 0 0, .int .i64 0, .slice (some ⟨xb2, 0, none⟩) 1 1, .int .i64 0, .int .i64 0, .int .i64 0, .int .i64 0, .slice none 0 0, .int .i64 0, .slice (some ⟨xc2, 0, none⟩) 2 2, .int .i64 0, .int .i64 0, .int .i64 0, .int .i64 0, .slice none 0 0, .int .i64 0, .slice (some ⟨xd2, 0, none⟩) 1 1, .int .i64 0, .int .i64 0, .int .i64 0] 27))) :
    if Region.wanted ({ dst := some 135, op := Go.Op.buildSlice 57 8 #[(0, Go.Operand.tmp 120), (1, Go.Operand.tmp 121), (2, Go.Operand.tmp 122), (3, Go.Operand.tmp 123), (4, Go.Operand.tmp 125), (5, Go.Operand.tmp 128), (6, Go.Operand.tmp 131), (7, Go.Operand.tmp 134)], type := 57, pos := "outright.go:154", after := #[{ on := 0, ground := Go.Ground.data }, { on := 1, ground := Go.Ground.data }, { on := 2, ground := Go.Ground.data }, { on := 3, ground := Go.Ground.data }, { on := 5, ground := Go.Ground.data }, { on := 8, ground := Go.Ground.data }, { on := 11, ground := Go.Ground.data }, { on := 14, ground := Go.Ground.data }], guard := none } : Oper) (yielded wrOps a.tmps) = true then Oper.wp Try.prog ({ dst := some 135, op := Go.Op.buildSlice 57 8 #[(0, Go.Operand.tmp 120), (1, Go.Operand.tmp 121), (2, Go.Operand.tmp 122), (3, Go.Operand.tmp 123), (4, Go.Operand.tmp 125), (5, Go.Operand.tmp 128), (6, Go.Operand.tmp 131), (7, Go.Operand.tmp 134)], type := 57, pos := "outright.go:154", after := #[{ on := 0, ground := Go.Ground.data }, { on := 1, ground := Go.Ground.data }, { on := 2, ground := Go.Ground.data }, { on := 3, ground := Go.Ground.data }, { on := 5, ground := Go.Ground.data }, { on := 8, ground := Go.Ground.data }, { on := 11, ground := Go.Ground.data }, { on := 14, ground := Go.Ground.data }], guard := none } : Oper) a w K Q else K (a.put (some 135) undef) w := by
  have g0 := ev_get h0
  have g1 := ev_get h1
  have g2 := ev_get h2
  have g3 := ev_get h3
  have g5 := ev_get h5
  have g8 := ev_get h8
  have g11 := ev_get h11
  have g14 := ev_get h14
  go_simp
  exact hK
theorem stp16 {Q : Exit → Act → World → Prop} {K : Act → World → Prop} {a : Act} {w : World} {v : Value} (h : a.eval (.tmp 135) = v) (hK : K (a.put (some 13) v) w) :
    if Region.wanted ({ dst := some 13, op := Go.Op.assign (Go.Operand.tmp 135), type := 57, pos := "outright.go:154", after := #[{ on := 15, ground := Go.Ground.data }, { on := 0, ground := Go.Ground.phase }, { on := 1, ground := Go.Ground.phase }, { on := 2, ground := Go.Ground.phase }, { on := 3, ground := Go.Ground.phase }, { on := 4, ground := Go.Ground.phase }, { on := 5, ground := Go.Ground.phase }, { on := 6, ground := Go.Ground.phase }, { on := 7, ground := Go.Ground.phase }, { on := 8, ground := Go.Ground.phase }, { on := 9, ground := Go.Ground.phase }, { on := 10, ground := Go.Ground.phase }, { on := 11, ground := Go.Ground.phase }, { on := 12, ground := Go.Ground.phase }, { on := 13, ground := Go.Ground.phase }, { on := 14, ground := Go.Ground.phase }, { on := 15, ground := Go.Ground.phase }], guard := none } : Oper) (yielded wrOps a.tmps) = true then Oper.wp Try.prog ({ dst := some 13, op := Go.Op.assign (Go.Operand.tmp 135), type := 57, pos := "outright.go:154", after := #[{ on := 15, ground := Go.Ground.data }, { on := 0, ground := Go.Ground.phase }, { on := 1, ground := Go.Ground.phase }, { on := 2, ground := Go.Ground.phase }, { on := 3, ground := Go.Ground.phase }, { on := 4, ground := Go.Ground.phase }, { on := 5, ground := Go.Ground.phase }, { on := 6, ground := Go.Ground.phase }, { on := 7, ground := Go.Ground.phase }, { on := 8, ground := Go.Ground.phase }, { on := 9, ground := Go.Ground.phase }, { on := 10, ground := Go.Ground.phase }, { on := 11, ground := Go.Ground.phase }, { on := 12, ground := Go.Ground.phase }, { on := 13, ground := Go.Ground.phase }, { on := 14, ground := Go.Ground.phase }, { on := 15, ground := Go.Ground.phase }], guard := none } : Oper) a w K Q else K (a.put (some 13) undef) w := by
  have h' := ev_get h
  go_simp
  exact hK
theorem yl0 {a : Act} : Yields Try.prog wrOps ({ dst := some 120, op := Go.Op.build 27 #[(1, Go.Operand.const (Go.Value.int Go.IntKind.i64 (-1)))], type := 27, pos := "outright.go:154", after := #[], guard := none } : Oper) (.agg #[.int .i64 0, .slice none 0 0, .int .i64 (-1), .slice none 0 0, .int .i64 0, .int .i64 0, .int .i64 0]) a := by
  refine Or.inl ⟨rfl, fun w => ?_⟩
  go_simp
theorem yl1 {a : Act} : Yields Try.prog wrOps ({ dst := some 121, op := Go.Op.build 27 #[(1, Go.Operand.const (Go.Value.int Go.IntKind.i64 100000001))], type := 27, pos := "outright.go:154", after := #[], guard := none } : Oper) (.agg #[.int .i64 0, .slice none 0 0, .int .i64 100000001, .slice none 0 0, .int .i64 0, .int .i64 0, .int .i64 0]) a := by
  refine Or.inl ⟨rfl, fun w => ?_⟩
  go_simp
theorem yl2 {a : Act} : Yields Try.prog wrOps ({ dst := some 122, op := Go.Op.build 27 #[(3, Go.Operand.const (Go.Value.int Go.IntKind.i64 (-1)))], type := 27, pos := "outright.go:154", after := #[], guard := none } : Oper) (.agg #[.int .i64 0, .slice none 0 0, .int .i64 0, .slice none 0 0, .int .i64 (-1), .int .i64 0, .int .i64 0]) a := by
  refine Or.inl ⟨rfl, fun w => ?_⟩
  go_simp
theorem yl3 {a : Act} : Yields Try.prog wrOps ({ dst := some 123, op := Go.Op.build 27 #[(3, Go.Operand.const (Go.Value.int Go.IntKind.i64 1001))], type := 27, pos := "outright.go:154", after := #[], guard := none } : Oper) (.agg #[.int .i64 0, .slice none 0 0, .int .i64 0, .slice none 0 0, .int .i64 1001, .int .i64 0, .int .i64 0]) a := by
  refine Or.inl ⟨rfl, fun w => ?_⟩
  go_simp
theorem yl5 {a : Act} {xa : Nat} (h : a.eval (.tmp 124) = .slice (some ⟨xa, 0, none⟩) 17 17) : Yields Try.prog wrOps ({ dst := some 125, op := Go.Op.build 27 #[(2, Go.Operand.tmp 124)], type := 27, pos := "outright.go:154", after := #[{ on := 4, ground := Go.Ground.data }], guard := none } : Oper) (.agg #[.int .i64 0, .slice none 0 0, .int .i64 0, .slice (some ⟨xa, 0, none⟩) 17 17, .int .i64 0, .int .i64 0, .int .i64 0]) a := by
  refine Or.inl ⟨rfl, fun w => ?_⟩
  have h' := ev_get h
  go_simp
theorem yl8 {a : Act} {xb2 : Nat} (h : a.eval (.tmp 127) = .slice (some ⟨xb2, 0, none⟩) 1 1) : Yields Try.prog wrOps ({ dst := some 128, op := Go.Op.build 27 #[(2, Go.Operand.tmp 127)], type := 27, pos := "outright.go:154", after := #[{ on := 7, ground := Go.Ground.data }], guard := none } : Oper) (.agg #[.int .i64 0, .slice none 0 0, .int .i64 0, .slice (some ⟨xb2, 0, none⟩) 1 1, .int .i64 0, .int .i64 0, .int .i64 0]) a := by
  refine Or.inl ⟨rfl, fun w => ?_⟩
  have h' := ev_get h
  go_simp
theorem yl11 {a : Act} {xc2 : Nat} (h : a.eval (.tmp 130) = .slice (some ⟨xc2, 0, none⟩) 2 2) : Yields Try.prog wrOps ({ dst := some 131, op := Go.Op.build 27 #[(2, Go.Operand.tmp 130)], type := 27, pos := "outright.go:154", after := #[{ on := 10, ground := Go.Ground.data }], guard := none } : Oper) (.agg #[.int .i64 0, .slice none 0 0, .int .i64 0, .slice (some ⟨xc2, 0, none⟩) 2 2, .int .i64 0, .int .i64 0, .int .i64 0]) a := by
  refine Or.inl ⟨rfl, fun w => ?_⟩
  have h' := ev_get h
  go_simp
theorem yl14 {a : Act} {xd2 : Nat} (h : a.eval (.tmp 133) = .slice (some ⟨xd2, 0, none⟩) 1 1) : Yields Try.prog wrOps ({ dst := some 134, op := Go.Op.build 27 #[(2, Go.Operand.tmp 133)], type := 27, pos := "outright.go:154", after := #[{ on := 13, ground := Go.Ground.data }], guard := none } : Oper) (.agg #[.int .i64 0, .slice none 0 0, .int .i64 0, .slice (some ⟨xd2, 0, none⟩) 1 1, .int .i64 0, .int .i64 0, .int .i64 0]) a := by
  refine Or.inl ⟨rfl, fun w => ?_⟩
  have h' := ev_get h
  go_simp
def wp0 (a : Act) : Act := a.put (some 120) (.agg #[.int .i64 0, .slice none 0 0, .int .i64 (-1), .slice none 0 0, .int .i64 0, .int .i64 0, .int .i64 0])
def wp1 (a : Act) : Act := a.put (some 121) (.agg #[.int .i64 0, .slice none 0 0, .int .i64 100000001, .slice none 0 0, .int .i64 0, .int .i64 0, .int .i64 0])
def wp2 (a : Act) : Act := a.put (some 122) (.agg #[.int .i64 0, .slice none 0 0, .int .i64 0, .slice none 0 0, .int .i64 (-1), .int .i64 0, .int .i64 0])
def wp3 (a : Act) : Act := a.put (some 123) (.agg #[.int .i64 0, .slice none 0 0, .int .i64 0, .slice none 0 0, .int .i64 1001, .int .i64 0, .int .i64 0])
def wp4 (xa : Nat) (a : Act) : Act := a.put (some 124) (.slice (some ⟨xa, 0, none⟩) 17 17)
def wp5 (xa : Nat) (a : Act) : Act := a.put (some 125) (.agg #[.int .i64 0, .slice none 0 0, .int .i64 0, .slice (some ⟨xa, 0, none⟩) 17 17, .int .i64 0, .int .i64 0, .int .i64 0])
def wp6 (xb : Nat) (a : Act) : Act := a.put (some 126) (.slice (some ⟨xb, 0, none⟩) 1001 1001)
def wp7 (xb2 : Nat) (a : Act) : Act := a.put (some 127) (.slice (some ⟨xb2, 0, none⟩) 1 1)
def wp8 (xb2 : Nat) (a : Act) : Act := a.put (some 128) (.agg #[.int .i64 0, .slice none 0 0, .int .i64 0, .slice (some ⟨xb2, 0, none⟩) 1 1, .int .i64 0, .int .i64 0, .int .i64 0])
def wp9 (xc : Nat) (a : Act) : Act := a.put (some 129) (.slice (some ⟨xc, 0, none⟩) 1 1)
def wp10 (xc2 : Nat) (a : Act) : Act := a.put (some 130) (.slice (some ⟨xc2, 0, none⟩) 2 2)
def wp11 (xc2 : Nat) (a : Act) : Act := a.put (some 131) (.agg #[.int .i64 0, .slice none 0 0, .int .i64 0, .slice (some ⟨xc2, 0, none⟩) 2 2, .int .i64 0, .int .i64 0, .int .i64 0])
def wp12 (xd : Nat) (a : Act) : Act := a.put (some 132) (.slice (some ⟨xd, 0, none⟩) 1 1)
def wp13 (xd2 : Nat) (a : Act) : Act := a.put (some 133) (.slice (some ⟨xd2, 0, none⟩) 1 1)
def wp14 (xd2 : Nat) (a : Act) : Act := a.put (some 134) (.agg #[.int .i64 0, .slice none 0 0, .int .i64 0, .slice (some ⟨xd2, 0, none⟩) 1 1, .int .i64 0, .int .i64 0, .int .i64 0])
theorem ws4_6 (x : Nat) (y : Nat) (a : Act) : wp4 x (wp6 y a) = wp6 y (wp4 x a) := put_lt (by decide) _ _ _
theorem ws4_7 (x : Nat) (y : Nat) (a : Act) : wp4 x (wp7 y a) = wp7 y (wp4 x a) := put_lt (by decide) _ _ _
theorem ws4_8 (x : Nat) (y : Nat) (a : Act) : wp4 x (wp8 y a) = wp8 y (wp4 x a) := put_lt (by decide) _ _ _
theorem ws4_9 (x : Nat) (y : Nat) (a : Act) : wp4 x (wp9 y a) = wp9 y (wp4 x a) := put_lt (by decide) _ _ _
theorem ws4_10 (x : Nat) (y : Nat) (a : Act) : wp4 x (wp10 y a) = wp10 y (wp4 x a) := put_lt (by decide) _ _ _
theorem ws4_11 (x : Nat) (y : Nat) (a : Act) : wp4 x (wp11 y a) = wp11 y (wp4 x a) := put_lt (by decide) _ _ _
theorem ws4_12 (x : Nat) (y : Nat) (a : Act) : wp4 x (wp12 y a) = wp12 y (wp4 x a) := put_lt (by decide) _ _ _
theorem ws4_13 (x : Nat) (y : Nat) (a : Act) : wp4 x (wp13 y a) = wp13 y (wp4 x a) := put_lt (by decide) _ _ _
theorem ws4_14 (x : Nat) (y : Nat) (a : Act) : wp4 x (wp14 y a) = wp14 y (wp4 x a) := put_lt (by decide) _ _ _
theorem ws5_6 (x : Nat) (y : Nat) (a : Act) : wp5 x (wp6 y a) = wp6 y (wp5 x a) := put_lt (by decide) _ _ _
theorem ws5_7 (x : Nat) (y : Nat) (a : Act) : wp5 x (wp7 y a) = wp7 y (wp5 x a) := put_lt (by decide) _ _ _
theorem ws5_8 (x : Nat) (y : Nat) (a : Act) : wp5 x (wp8 y a) = wp8 y (wp5 x a) := put_lt (by decide) _ _ _
theorem ws5_9 (x : Nat) (y : Nat) (a : Act) : wp5 x (wp9 y a) = wp9 y (wp5 x a) := put_lt (by decide) _ _ _
theorem ws5_10 (x : Nat) (y : Nat) (a : Act) : wp5 x (wp10 y a) = wp10 y (wp5 x a) := put_lt (by decide) _ _ _
theorem ws5_11 (x : Nat) (y : Nat) (a : Act) : wp5 x (wp11 y a) = wp11 y (wp5 x a) := put_lt (by decide) _ _ _
theorem ws5_12 (x : Nat) (y : Nat) (a : Act) : wp5 x (wp12 y a) = wp12 y (wp5 x a) := put_lt (by decide) _ _ _
theorem ws5_13 (x : Nat) (y : Nat) (a : Act) : wp5 x (wp13 y a) = wp13 y (wp5 x a) := put_lt (by decide) _ _ _
theorem ws5_14 (x : Nat) (y : Nat) (a : Act) : wp5 x (wp14 y a) = wp14 y (wp5 x a) := put_lt (by decide) _ _ _
theorem ws6_9 (x : Nat) (y : Nat) (a : Act) : wp6 x (wp9 y a) = wp9 y (wp6 x a) := put_lt (by decide) _ _ _
theorem ws6_10 (x : Nat) (y : Nat) (a : Act) : wp6 x (wp10 y a) = wp10 y (wp6 x a) := put_lt (by decide) _ _ _
theorem ws6_11 (x : Nat) (y : Nat) (a : Act) : wp6 x (wp11 y a) = wp11 y (wp6 x a) := put_lt (by decide) _ _ _
theorem ws6_12 (x : Nat) (y : Nat) (a : Act) : wp6 x (wp12 y a) = wp12 y (wp6 x a) := put_lt (by decide) _ _ _
theorem ws6_13 (x : Nat) (y : Nat) (a : Act) : wp6 x (wp13 y a) = wp13 y (wp6 x a) := put_lt (by decide) _ _ _
theorem ws6_14 (x : Nat) (y : Nat) (a : Act) : wp6 x (wp14 y a) = wp14 y (wp6 x a) := put_lt (by decide) _ _ _
theorem ws7_9 (x : Nat) (y : Nat) (a : Act) : wp7 x (wp9 y a) = wp9 y (wp7 x a) := put_lt (by decide) _ _ _
theorem ws7_10 (x : Nat) (y : Nat) (a : Act) : wp7 x (wp10 y a) = wp10 y (wp7 x a) := put_lt (by decide) _ _ _
theorem ws7_11 (x : Nat) (y : Nat) (a : Act) : wp7 x (wp11 y a) = wp11 y (wp7 x a) := put_lt (by decide) _ _ _
theorem ws7_12 (x : Nat) (y : Nat) (a : Act) : wp7 x (wp12 y a) = wp12 y (wp7 x a) := put_lt (by decide) _ _ _
theorem ws7_13 (x : Nat) (y : Nat) (a : Act) : wp7 x (wp13 y a) = wp13 y (wp7 x a) := put_lt (by decide) _ _ _
theorem ws7_14 (x : Nat) (y : Nat) (a : Act) : wp7 x (wp14 y a) = wp14 y (wp7 x a) := put_lt (by decide) _ _ _
theorem ws8_9 (x : Nat) (y : Nat) (a : Act) : wp8 x (wp9 y a) = wp9 y (wp8 x a) := put_lt (by decide) _ _ _
theorem ws8_10 (x : Nat) (y : Nat) (a : Act) : wp8 x (wp10 y a) = wp10 y (wp8 x a) := put_lt (by decide) _ _ _
theorem ws8_11 (x : Nat) (y : Nat) (a : Act) : wp8 x (wp11 y a) = wp11 y (wp8 x a) := put_lt (by decide) _ _ _
theorem ws8_12 (x : Nat) (y : Nat) (a : Act) : wp8 x (wp12 y a) = wp12 y (wp8 x a) := put_lt (by decide) _ _ _
theorem ws8_13 (x : Nat) (y : Nat) (a : Act) : wp8 x (wp13 y a) = wp13 y (wp8 x a) := put_lt (by decide) _ _ _
theorem ws8_14 (x : Nat) (y : Nat) (a : Act) : wp8 x (wp14 y a) = wp14 y (wp8 x a) := put_lt (by decide) _ _ _
theorem ws9_12 (x : Nat) (y : Nat) (a : Act) : wp9 x (wp12 y a) = wp12 y (wp9 x a) := put_lt (by decide) _ _ _
theorem ws9_13 (x : Nat) (y : Nat) (a : Act) : wp9 x (wp13 y a) = wp13 y (wp9 x a) := put_lt (by decide) _ _ _
theorem ws9_14 (x : Nat) (y : Nat) (a : Act) : wp9 x (wp14 y a) = wp14 y (wp9 x a) := put_lt (by decide) _ _ _
theorem ws10_12 (x : Nat) (y : Nat) (a : Act) : wp10 x (wp12 y a) = wp12 y (wp10 x a) := put_lt (by decide) _ _ _
theorem ws10_13 (x : Nat) (y : Nat) (a : Act) : wp10 x (wp13 y a) = wp13 y (wp10 x a) := put_lt (by decide) _ _ _
theorem ws10_14 (x : Nat) (y : Nat) (a : Act) : wp10 x (wp14 y a) = wp14 y (wp10 x a) := put_lt (by decide) _ _ _
theorem ws11_12 (x : Nat) (y : Nat) (a : Act) : wp11 x (wp12 y a) = wp12 y (wp11 x a) := put_lt (by decide) _ _ _
theorem ws11_13 (x : Nat) (y : Nat) (a : Act) : wp11 x (wp13 y a) = wp13 y (wp11 x a) := put_lt (by decide) _ _ _
theorem ws11_14 (x : Nat) (y : Nat) (a : Act) : wp11 x (wp14 y a) = wp14 y (wp11 x a) := put_lt (by decide) _ _ _
end Go.Proofs.Ythghinkicaafmaa
