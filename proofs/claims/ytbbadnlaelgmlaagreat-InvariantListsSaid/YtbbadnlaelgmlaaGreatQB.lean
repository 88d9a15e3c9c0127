/-
  The laws InvariantChains and InvariantLists (written by gen/inv_QB.py; stage 17).
-/
import Derived.Test.YtbbadnlaelgmlaaGreatPZO4
set_option linter.unusedVariables false
set_option linter.unusedSimpArgs false
namespace Go.Proofs.YtbbadnlaelgmlaaGreat
open Go.RowKit
set_option maxRecDepth 100000
set_option linter.unusedVariables false
set_option linter.unusedSimpArgs false

theorem c_kT (A : Option Addr) (c : Nat) (l : List Bn) (A2 : Option Addr) (c2 : Nat) (m : List Bn) (x : Bn) (b : Bool) (hx : keptX l m = x) (hb : keptB l m = b) (w : World) (h1 : Rv 3 bnF w A c l) (h2 : Rv 3 bnF w A2 c2 m) :
    Calls Tryz.prog 17 #[.slice A l.length c, .slice A2 m.length c2] w fun e w' => e = .returned (.tuple #[.agg #[.int .u8 (x.kind : Int), .int .i64 x.a, .int .i64 x.b], .bool b]) ∧ Below w.heap.size w w' := by subst hx hb; exact c_ivKept A c l A2 c2 m w h1 h2
theorem c_rkT (A : Option Addr) (c : Nat) (l : List Bn) (A2 : Option Addr) (c2 : Nat) (m : List Bn) (x : Bn) (b : Bool) (hx : keptX l m = x) (hb : keptB l m = b) (w : World) (h1 : Rv 3 bnF w A c l) (h2 : Rv 3 bnF w A2 c2 m) :
    Calls Tryz.prog 18 #[.slice A l.length c, .slice A2 m.length c2] w fun e w' => e = .returned (.tuple #[.agg #[.int .u8 (x.kind : Int), .int .i64 x.a, .int .i64 x.b], .bool b]) ∧ Below w.heap.size w w' := by subst hx hb; exact c_irKept A c l A2 c2 m w h1 h2
set_option maxHeartbeats 32000000 in
theorem row_InvariantChains (w : World) (A1 : Option Addr) (c1 : Nat) (l : List Bn) (h1 : Rv 3 bnF w A1 c1 l) (A2 : Option Addr) (c2 : Nat) (m : List Bn) (h2 : Rv 3 bnF w A2 c2 m) (A3 : Option Addr) (c3 : Nat) (n : List Bn) (h3 : Rv 3 bnF w A3 c3 n) :
    Calls Tryz.prog 8 #[.slice A1 l.length c1, .slice A2 m.length c2, .slice A3 n.length c3] w fun e w' => e = .returned (.bool true) ∧ Below w.heap.size w w' := by
  have HKw := Lib.hid (Below.refl w.heap.size w)
  have hc1 := h1.1; have hd1 := h1.2.1
  have hc2 := h2.1; have hd2 := h2.2.1
  have hc3 := h3.1; have hd3 := h3.2.1
  unfold maxLen at hd1 hd2 hd3
  have R1w := Lib.hid h1
  have R2w := Lib.hid h2
  have R3w := Lib.hid h3
  clear h1 h2 h3
  go_enter Tryz.func8, Tryz.ntmps8
  rcases g0 : decide (100 < (l.length : Int)) with _ | _
  rotate_left
  · go_wp2_with (fail)
    go_at_call 11
    refine (c_live w).mono ?_
    rintro e v1 ⟨rfl, bb⟩
    have HKv1 := Lib.hid (below_join HKw.out bb HKw.out.size)
    have R1v1 := Lib.hid (R1w.out.on bb (Nat.le_refl _))
    have R2v1 := Lib.hid (R2w.out.on bb (Nat.le_refl _))
    have R3v1 := Lib.hid (R3w.out.on bb (Nat.le_refl _))
    clear bb
    go_wp2_with (fail)
    go_ret
    exact ⟨rfl, HKv1.out⟩
  rcases g1 : decide (100 < (m.length : Int)) with _ | _
  rotate_left
  · go_wp2_with (fail)
    go_at_call 11
    refine (c_live w).mono ?_
    rintro e v2 ⟨rfl, bb⟩
    have HKv2 := Lib.hid (below_join HKw.out bb HKw.out.size)
    have R1v2 := Lib.hid (R1w.out.on bb (Nat.le_refl _))
    have R2v2 := Lib.hid (R2w.out.on bb (Nat.le_refl _))
    have R3v2 := Lib.hid (R3w.out.on bb (Nat.le_refl _))
    clear bb
    go_wp2_with (fail)
    go_ret
    exact ⟨rfl, HKv2.out⟩
  rcases g2 : decide (100 < (n.length : Int)) with _ | _
  rotate_left
  · go_wp2_with (fail)
    go_at_call 11
    refine (c_live w).mono ?_
    rintro e v3 ⟨rfl, bb⟩
    have HKv3 := Lib.hid (below_join HKw.out bb HKw.out.size)
    have R1v3 := Lib.hid (R1w.out.on bb (Nat.le_refl _))
    have R2v3 := Lib.hid (R2w.out.on bb (Nat.le_refl _))
    have R3v3 := Lib.hid (R3w.out.on bb (Nat.le_refl _))
    clear bb
    go_wp2_with (fail)
    go_ret
    exact ⟨rfl, HKv3.out⟩
  obtain ⟨x1, hx1⟩ : ∃ x, keptX l m = x := ⟨_, rfl⟩
  obtain ⟨b1, hb1⟩ : ∃ x, keptB l m = x := ⟨_, rfl⟩
  have Hx1 := Lib.hid hx1
  have Hb1 := Lib.hid hb1
  clear hx1 hb1
  obtain ⟨x2, hx2⟩ : ∃ x, keptX m n = x := ⟨_, rfl⟩
  obtain ⟨b2, hb2⟩ : ∃ x, keptB m n = x := ⟨_, rfl⟩
  have Hx2 := Lib.hid hx2
  have Hb2 := Lib.hid hb2
  clear hx2 hb2
  obtain ⟨x3, hx3⟩ : ∃ x, keptX l n = x := ⟨_, rfl⟩
  obtain ⟨b3, hb3⟩ : ∃ x, keptB l n = x := ⟨_, rfl⟩
  have Hx3 := Lib.hid hx3
  have Hb3 := Lib.hid hb3
  clear hx3 hb3
  go_wp2_with (fail)
  go_at_call 17
  refine (c_kT A1 c1 l A2 c2 m x1 b1 Hx1.out Hb1.out w R1w.out R2w.out).mono ?_
  rintro e v4 ⟨rfl, bb⟩
  have HKv4 := Lib.hid (below_join HKw.out bb HKw.out.size)
  have R1v4 := Lib.hid (R1w.out.on bb (Nat.le_refl _))
  have R2v4 := Lib.hid (R2w.out.on bb (Nat.le_refl _))
  have R3v4 := Lib.hid (R3w.out.on bb (Nat.le_refl _))
  clear bb
  obtain ⟨X5, hX5⟩ : ∃ X, X = v4.alloc (.cells #[.int .u8 (x1.kind : Int), .int .i64 x1.a, .int .i64 x1.b] 44) := ⟨_, rfl⟩
  have b5 : Below v4.heap.size v4 X5 := by subst hX5; exact (Below.refl _ _).alloc (Nat.le_refl _) _
  have HKX5 := Lib.hid (below_join HKv4.out b5 HKv4.out.size)
  have R1X5 := Lib.hid (R1v4.out.on b5 (Nat.le_refl _))
  have R2X5 := Lib.hid (R2v4.out.on b5 (Nat.le_refl _))
  have R3X5 := Lib.hid (R3v4.out.on b5 (Nat.le_refl _))
  clear b5
  go_wp2_with (fail)
  rw [← hX5]
  clear hX5
  go_at_call 17
  refine (c_kT A2 c2 m A3 c3 n x2 b2 Hx2.out Hb2.out X5 R2X5.out R3X5.out).mono ?_
  rintro e v6 ⟨rfl, bb⟩
  have HKv6 := Lib.hid (below_join HKX5.out bb HKX5.out.size)
  have R1v6 := Lib.hid (R1X5.out.on bb (Nat.le_refl _))
  have R2v6 := Lib.hid (R2X5.out.on bb (Nat.le_refl _))
  have R3v6 := Lib.hid (R3X5.out.on bb (Nat.le_refl _))
  clear bb
  obtain ⟨X7, hX7⟩ : ∃ X, X = v6.alloc (.cells #[.int .u8 (x2.kind : Int), .int .i64 x2.a, .int .i64 x2.b] 44) := ⟨_, rfl⟩
  have b7 : Below v6.heap.size v6 X7 := by subst hX7; exact (Below.refl _ _).alloc (Nat.le_refl _) _
  have HKX7 := Lib.hid (below_join HKv6.out b7 HKv6.out.size)
  have R1X7 := Lib.hid (R1v6.out.on b7 (Nat.le_refl _))
  have R2X7 := Lib.hid (R2v6.out.on b7 (Nat.le_refl _))
  have R3X7 := Lib.hid (R3v6.out.on b7 (Nat.le_refl _))
  clear b7
  go_wp2_with (fail)
  rw [← hX7]
  clear hX7
  go_at_call 17
  refine (c_kT A1 c1 l A3 c3 n x3 b3 Hx3.out Hb3.out X7 R1X7.out R3X7.out).mono ?_
  rintro e v8 ⟨rfl, bb⟩
  have HKv8 := Lib.hid (below_join HKX7.out bb HKX7.out.size)
  have R1v8 := Lib.hid (R1X7.out.on bb (Nat.le_refl _))
  have R2v8 := Lib.hid (R2X7.out.on bb (Nat.le_refl _))
  have R3v8 := Lib.hid (R3X7.out.on bb (Nat.le_refl _))
  clear bb
  obtain ⟨X9, hX9⟩ : ∃ X, X = v8.alloc (.cells #[.int .u8 (x3.kind : Int), .int .i64 x3.a, .int .i64 x3.b] 44) := ⟨_, rfl⟩
  have b9 : Below v8.heap.size v8 X9 := by subst hX9; exact (Below.refl _ _).alloc (Nat.le_refl _) _
  have HKX9 := Lib.hid (below_join HKv8.out b9 HKv8.out.size)
  have R1X9 := Lib.hid (R1v8.out.on b9 (Nat.le_refl _))
  have R2X9 := Lib.hid (R2v8.out.on b9 (Nat.le_refl _))
  have R3X9 := Lib.hid (R3v8.out.on b9 (Nat.le_refl _))
  clear b9
  rcases b1 with _ | _
  · go_wp2_with (fail)
    rw [← hX9]
    clear hX9
    go_at_call 11
    refine (c_live X9).mono ?_
    rintro e v10 ⟨rfl, bb⟩
    have HKv10 := Lib.hid (below_join HKX9.out bb HKX9.out.size)
    have R1v10 := Lib.hid (R1X9.out.on bb (Nat.le_refl _))
    have R2v10 := Lib.hid (R2X9.out.on bb (Nat.le_refl _))
    have R3v10 := Lib.hid (R3X9.out.on bb (Nat.le_refl _))
    clear bb
    go_wp2_with (fail)
    go_ret
    exact ⟨rfl, HKv10.out⟩
  rcases b2 with _ | _
  · go_wp2_with (fail)
    rw [← hX9]
    clear hX9
    go_at_call 11
    refine (c_live X9).mono ?_
    rintro e v11 ⟨rfl, bb⟩
    have HKv11 := Lib.hid (below_join HKX9.out bb HKX9.out.size)
    have R1v11 := Lib.hid (R1X9.out.on bb (Nat.le_refl _))
    have R2v11 := Lib.hid (R2X9.out.on bb (Nat.le_refl _))
    have R3v11 := Lib.hid (R3X9.out.on bb (Nat.le_refl _))
    clear bb
    go_wp2_with (fail)
    go_ret
    exact ⟨rfl, HKv11.out⟩
  obtain rfl : true = b3 := by rw [← Hb3.out]; exact (keptB_trans Hb1.out Hb2.out).symm
  go_wp2_with (fail)
  rw [← hX9]
  clear hX9
  go_at_call 11
  refine (c_live X9).mono ?_
  rintro e v12 ⟨rfl, bb⟩
  have HKv12 := Lib.hid (below_join HKX9.out bb HKX9.out.size)
  have R1v12 := Lib.hid (R1X9.out.on bb (Nat.le_refl _))
  have R2v12 := Lib.hid (R2X9.out.on bb (Nat.le_refl _))
  have R3v12 := Lib.hid (R3X9.out.on bb (Nat.le_refl _))
  clear bb
  go_wp2_with (fail)
  go_ret
  exact ⟨rfl, HKv12.out⟩
set_option maxHeartbeats 32000000 in
theorem row_InvariantLists (w : World) (A1 : Option Addr) (c1 : Nat) (l : List Bn) (h1 : Rv 3 bnF w A1 c1 l) (A2 : Option Addr) (c2 : Nat) (m : List Bn) (h2 : Rv 3 bnF w A2 c2 m) (kd : Nat) (hkd : kd < 256) :
    Calls Tryz.prog 4 #[.slice A1 l.length c1, .slice A2 m.length c2, .int .u8 (kd : Int)] w fun e w' => e = .returned (.bool true) ∧ Below w.heap.size w w' := by
  have HKw := Lib.hid (Below.refl w.heap.size w)
  have hc1 := h1.1; have hd1 := h1.2.1
  have hc2 := h2.1; have hd2 := h2.2.1
  unfold maxLen at hd1 hd2
  have R1w := Lib.hid h1
  have R2w := Lib.hid h2
  have heq := fun (x : Bn) (W2 : World) => (by rw [eqlBn, bn_beq]; simp : (binOp .eql 44 (.agg #[.int .u8 (x.kind : Int), .int .i64 x.a, .int .i64 x.b]) (.agg #[.int .u8 (x.kind : Int), .int .i64 x.a, .int .i64 x.b])).run Tryz.prog W2 = .ok (.bool true) W2)
  have hgd := guardBn
  clear h1 h2
  go_enter Tryz.func4, Tryz.ntmps4
  rcases g0 : decide (100 < (l.length : Int)) with _ | _
  rotate_left
  · go_wp2_with (fail)
    go_at_call 11
    refine (c_live w).mono ?_
    rintro e v13 ⟨rfl, bb⟩
    have HKv13 := Lib.hid (below_join HKw.out bb HKw.out.size)
    have R1v13 := Lib.hid (R1w.out.on bb (Nat.le_refl _))
    have R2v13 := Lib.hid (R2w.out.on bb (Nat.le_refl _))
    clear bb
    go_wp2_with (fail)
    go_ret
    exact ⟨rfl, HKv13.out⟩
  rcases g1 : decide (100 < (m.length : Int)) with _ | _
  rotate_left
  · go_wp2_with (fail)
    go_at_call 11
    refine (c_live w).mono ?_
    rintro e v14 ⟨rfl, bb⟩
    have HKv14 := Lib.hid (below_join HKw.out bb HKw.out.size)
    have R1v14 := Lib.hid (R1w.out.on bb (Nat.le_refl _))
    have R2v14 := Lib.hid (R2w.out.on bb (Nat.le_refl _))
    clear bb
    go_wp2_with (fail)
    go_ret
    exact ⟨rfl, HKv14.out⟩
  have hl100 : l.length ≤ 100 := by have := of_decide_eq_false g0; omega
  obtain ⟨x1, hx1⟩ : ∃ x, keptX l m = x := ⟨_, rfl⟩
  obtain ⟨b1, hb1⟩ : ∃ x, keptB l m = x := ⟨_, rfl⟩
  obtain ⟨x2, hx2⟩ : ∃ x, keptX l l = x := ⟨_, rfl⟩
  have Hx1 := Lib.hid hx1
  have Hb1 := Lib.hid hb1
  have Hx2 := Lib.hid hx2
  have HOL := Lib.hid (ofL_len l kd)
  clear hx1 hb1 hx2
  go_wp2_with (fail)
  go_at_call 17
  refine (c_kT A1 c1 l A2 c2 m x1 b1 Hx1.out Hb1.out w R1w.out R2w.out).mono ?_
  rintro e v15 ⟨rfl, bb⟩
  have HKv15 := Lib.hid (below_join HKw.out bb HKw.out.size)
  have R1v15 := Lib.hid (R1w.out.on bb (Nat.le_refl _))
  have R2v15 := Lib.hid (R2w.out.on bb (Nat.le_refl _))
  clear bb
  obtain ⟨X16, hX16⟩ : ∃ X, X = v15.alloc (.cells #[.int .u8 (x1.kind : Int), .int .i64 x1.a, .int .i64 x1.b] 44) := ⟨_, rfl⟩
  have b16 : Below v15.heap.size v15 X16 := by subst hX16; exact (Below.refl _ _).alloc (Nat.le_refl _) _
  have HKX16 := Lib.hid (below_join HKv15.out b16 HKv15.out.size)
  have R1X16 := Lib.hid (R1v15.out.on b16 (Nat.le_refl _))
  have R2X16 := Lib.hid (R2v15.out.on b16 (Nat.le_refl _))
  clear b16
  have hbA : X16.heap[v15.heap.size]? = some (.cells #[.int .u8 (x1.kind : Int), .int .i64 x1.a, .int .i64 x1.b] 44 (0, 0)) := by rw [hX16]; exact box_new _ _ _
  have CAX16 := Lib.hid (show Bx X16 v15.heap.size #[.int .u8 (x1.kind : Int), .int .i64 x1.a, .int .i64 x1.b] 44 from hbA)
  clear hbA
  go_wp2_with (fail)
  rw [← hX16]
  clear hX16
  go_at_call 18
  refine (c_rkT A1 c1 l A2 c2 m x1 b1 Hx1.out Hb1.out X16 R1X16.out R2X16.out).mono ?_
  rintro e v17 ⟨rfl, bb⟩
  have HKv17 := Lib.hid (below_join HKX16.out bb HKX16.out.size)
  have R1v17 := Lib.hid (R1X16.out.on bb (Nat.le_refl _))
  have R2v17 := Lib.hid (R2X16.out.on bb (Nat.le_refl _))
  have CAv17 := Lib.hid (CAX16.out.on bb (Nat.le_refl _))
  clear bb
  obtain ⟨X18, hX18⟩ : ∃ X, X = v17.alloc (.cells #[.int .u8 (x1.kind : Int), .int .i64 x1.a, .int .i64 x1.b] 44) := ⟨_, rfl⟩
  have b18 : Below v17.heap.size v17 X18 := by subst hX18; exact (Below.refl _ _).alloc (Nat.le_refl _) _
  have HKX18 := Lib.hid (below_join HKv17.out b18 HKv17.out.size)
  have R1X18 := Lib.hid (R1v17.out.on b18 (Nat.le_refl _))
  have R2X18 := Lib.hid (R2v17.out.on b18 (Nat.le_refl _))
  have CAX18 := Lib.hid (CAv17.out.on b18 (Nat.le_refl _))
  clear b18
  have hbB : X18.heap[v17.heap.size]? = some (.cells #[.int .u8 (x1.kind : Int), .int .i64 x1.a, .int .i64 x1.b] 44 (0, 0)) := by rw [hX18]; exact box_new _ _ _
  have CBX18 := Lib.hid (show Bx X18 v17.heap.size #[.int .u8 (x1.kind : Int), .int .i64 x1.a, .int .i64 x1.b] 44 from hbB)
  clear hbB
  go_wp2_with (fail)
  rw [← hX18]
  clear hX18
  go_at_call 17
  refine (c_kT A1 c1 l A1 c1 l x2 true Hx2.out (keptB_refl l) X18 R1X18.out R1X18.out).mono ?_
  rintro e v19 ⟨rfl, bb⟩
  have HKv19 := Lib.hid (below_join HKX18.out bb HKX18.out.size)
  have R1v19 := Lib.hid (R1X18.out.on bb (Nat.le_refl _))
  have R2v19 := Lib.hid (R2X18.out.on bb (Nat.le_refl _))
  have CAv19 := Lib.hid (CAX18.out.on bb (Nat.le_refl _))
  have CBv19 := Lib.hid (CBX18.out.on bb (Nat.le_refl _))
  clear bb
  obtain ⟨X20, hX20⟩ : ∃ X, X = v19.alloc (.cells #[.int .u8 (x2.kind : Int), .int .i64 x2.a, .int .i64 x2.b] 44) := ⟨_, rfl⟩
  have b20 : Below v19.heap.size v19 X20 := by subst hX20; exact (Below.refl _ _).alloc (Nat.le_refl _) _
  have HKX20 := Lib.hid (below_join HKv19.out b20 HKv19.out.size)
  have R1X20 := Lib.hid (R1v19.out.on b20 (Nat.le_refl _))
  have R2X20 := Lib.hid (R2v19.out.on b20 (Nat.le_refl _))
  have CAX20 := Lib.hid (CAv19.out.on b20 (Nat.le_refl _))
  have CBX20 := Lib.hid (CBv19.out.on b20 (Nat.le_refl _))
  clear b20
  have ca0 := cell_of (show X20.heap[v15.heap.size]? = _ from CAX20.out) (o := 0) rfl
  have ca1 := cell_of (show X20.heap[v15.heap.size]? = _ from CAX20.out) (o := 1) rfl
  have ca2 := cell_of (show X20.heap[v15.heap.size]? = _ from CAX20.out) (o := 2) rfl
  have cb0 := cell_of (show X20.heap[v17.heap.size]? = _ from CBX20.out) (o := 0) rfl
  have cb1 := cell_of (show X20.heap[v17.heap.size]? = _ from CBX20.out) (o := 1) rfl
  have cb2 := cell_of (show X20.heap[v17.heap.size]? = _ from CBX20.out) (o := 2) rfl
  rw [hX20] at ca0 ca1 ca2 cb0 cb1 cb2
  have hbb : (b1 == b1) = true := by simp
  go_wp2_with (fail)
  rw [← hX20]
  clear hX20
  clear ca0 ca1 ca2 cb0 cb1 cb2
  go_at_call 19
  refine (c_ivOf A1 c1 l kd hkd (by omega) X20 R1X20.out).mono ?_
  rintro e v21 ⟨A8, c8, rfl, r8, bb⟩
  have HKv21 := Lib.hid (below_join HKX20.out bb HKX20.out.size)
  have R1v21 := Lib.hid (R1X20.out.on bb (Nat.le_refl _))
  have R2v21 := Lib.hid (R2X20.out.on bb (Nat.le_refl _))
  have CAv21 := Lib.hid (CAX20.out.on bb (Nat.le_refl _))
  have CBv21 := Lib.hid (CBX20.out.on bb (Nat.le_refl _))
  have R8v21 := Lib.hid r8
  clear r8
  clear bb
  go_wp2_with (fail)
  go_at_call 20
  refine (c_irOf A1 c1 l kd hkd (by omega) v21 R1v21.out).mono ?_
  rintro e v22 ⟨A9, c9, rfl, r9, bb⟩
  have HKv22 := Lib.hid (below_join HKv21.out bb HKv21.out.size)
  have R1v22 := Lib.hid (R1v21.out.on bb (Nat.le_refl _))
  have R2v22 := Lib.hid (R2v21.out.on bb (Nat.le_refl _))
  have CAv22 := Lib.hid (CAv21.out.on bb (Nat.le_refl _))
  have CBv22 := Lib.hid (CBv21.out.on bb (Nat.le_refl _))
  have R8v22 := Lib.hid (R8v21.out.on bb (Nat.le_refl _))
  have R9v22 := Lib.hid r9
  clear r9
  clear bb
  go_wp2_with (fail)
  go_at_call 12
  refine (c_irSame A8 c8 (ofL l kd) A9 c9 (ofL l kd) true (decide_eq_true rfl) v22 R8v22.out R9v22.out).mono ?_
  rintro e v23 ⟨rfl, bb⟩
  have HKv23 := Lib.hid (below_join HKv22.out bb HKv22.out.size)
  have R1v23 := Lib.hid (R1v22.out.on bb (Nat.le_refl _))
  have R2v23 := Lib.hid (R2v22.out.on bb (Nat.le_refl _))
  have CAv23 := Lib.hid (CAv22.out.on bb (Nat.le_refl _))
  have CBv23 := Lib.hid (CBv22.out.on bb (Nat.le_refl _))
  have R8v23 := Lib.hid (R8v22.out.on bb (Nat.le_refl _))
  have R9v23 := Lib.hid (R9v22.out.on bb (Nat.le_refl _))
  clear bb
  go_wp2_with (fail)
  go_at_call 11
  refine (c_live v23).mono ?_
  rintro e v24 ⟨rfl, bb⟩
  have HKv24 := Lib.hid (below_join HKv23.out bb HKv23.out.size)
  have R1v24 := Lib.hid (R1v23.out.on bb (Nat.le_refl _))
  have R2v24 := Lib.hid (R2v23.out.on bb (Nat.le_refl _))
  have CAv24 := Lib.hid (CAv23.out.on bb (Nat.le_refl _))
  have CBv24 := Lib.hid (CBv23.out.on bb (Nat.le_refl _))
  have R8v24 := Lib.hid (R8v23.out.on bb (Nat.le_refl _))
  have R9v24 := Lib.hid (R9v23.out.on bb (Nat.le_refl _))
  clear bb
  go_wp2_with (fail)
  go_ret
  exact ⟨rfl, HKv24.out⟩
end Go.Proofs.YtbbadnlaelgmlaaGreat
