/-
  The law CoolingHeats (written by gen/cool_L.py).
-/
import Derived.Test.YtpokpgnclohiiaaGreatPO2
import Derived.Test.YtpokpgnclohiiaaGreatPB3
import Derived.Laws.StructEq
set_option linter.unusedVariables false
set_option linter.unusedSimpArgs false
namespace Go.Proofs.YtpokpgnclohiiaaGreat
open Go.RowKit
set_option maxRecDepth 100000
set_option linter.unusedVariables false
set_option linter.unusedSimpArgs false

theorem pt_fields : Tryz.prog.underlying 46 = some (.struct (Tryz.prog.fieldsOf 46)) := by kernel_rfl
theorem pt_list : (Tryz.prog.fieldsOf 46).toList.map (fun f => (f.name, f.type, f.offset)) = [("Source", 3, 0), ("Times", 3, 1), ("Delay", 3, 2)] := by kernel_rfl
theorem pt_stood : Tryz.prog.stoodInHeld 46 = false := by kernel_rfl
theorem pt_guard : Tryz.prog.eqGuardType Tryz.prog.depth 46 = false := by kernel_rfl
theorem guardPt (op : BinOp) (x y : Operand) (xs ys : Array Value) (w : World) : (eqGuard op 46 x y (.agg xs) (.agg ys)).run Tryz.prog w = .ok () w := run_eqGuard_agg w op _ x y xs ys pt_guard
theorem eqFieldsPt (a b c d e f : Int) (w : World) : (Op.eqFields 9999 #[.int .i64 a, .int .i64 c, .int .i64 e] #[.int .i64 b, .int .i64 d, .int .i64 f] (Tryz.prog.fieldsOf 46).toList).run Tryz.prog w = .ok ((a == b) && ((c == d) && (e == f))) w := by
  obtain ⟨f1, f2, f3, he, h1, h2, h3⟩ : ∃ f1 f2 f3 : Field, (Tryz.prog.fieldsOf 46).toList = [f1, f2, f3] ∧ (f1.name, f1.type, f1.offset) = ("Source", 3, 0) ∧ (f2.name, f2.type, f2.offset) = ("Times", 3, 1) ∧ (f3.name, f3.type, f3.offset) = ("Delay", 3, 2) := by
    have := pt_list
    match h : (Tryz.prog.fieldsOf 46).toList with
    | [f1, f2, f3] => rw [h] at this; simp only [List.map_cons, List.map_nil, List.cons.injEq] at this; exact ⟨f1, f2, f3, rfl, this.1, this.2.1, this.2.2.1⟩
    | [] => rw [h] at this; cases this
    | [f] => rw [h] at this; simp at this
    | [f, g] => rw [h] at this; simp at this
    | f :: g :: i :: j :: r => rw [h] at this; simp at this
  rw [he]
  obtain ⟨fn, ft, fo⟩ : f1.name = "Source" ∧ f1.type = 3 ∧ f1.offset = 0 := by simpa using h1
  obtain ⟨gn, gt, go⟩ : f2.name = "Times" ∧ f2.type = 3 ∧ f2.offset = 1 := by simpa using h2
  obtain ⟨kn, kt, ko⟩ : f3.name = "Delay" ∧ f3.type = 3 ∧ f3.offset = 2 := by simpa using h3
  simp only [Op.eqFields, fn, ft, fo, gn, gt, go, kn, kt, ko]
  cases hab : (a == b) <;> cases hcd : (c == d) <;> cases hef : (e == f) <;> simp [go_sem, hab, hcd, hef]
theorem neqPt (a b c d e f : Int) (w : World) : (binOp .neq 46 (.agg #[.int .i64 a, .int .i64 c, .int .i64 e]) (.agg #[.int .i64 b, .int .i64 d, .int .i64 f])).run Tryz.prog w = .ok (.bool (!((a == b) && ((c == d) && (e == f))))) w := by
  rw [run_neq_struct, run_equalIn_agg w 9999 _ _ _ pt_fields pt_stood, eqFieldsPt]
  rfl
theorem eqlPt (a b c d e f : Int) (w : World) : (binOp .eql 46 (.agg #[.int .i64 a, .int .i64 c, .int .i64 e]) (.agg #[.int .i64 b, .int .i64 d, .int .i64 f])).run Tryz.prog w = .ok (.bool ((a == b) && ((c == d) && (e == f)))) w := by
  rw [run_eql_struct, run_equalIn_agg w 9999 _ _ _ pt_fields pt_stood, eqFieldsPt]
  rfl
set_option maxHeartbeats 32000000 in
theorem w_CoolingHeats (z : Sn) (w : World) (hz : SnAt w z) (k : Int) :
    Calls Tryz.prog 3 #[.agg #[.slice z.p.a1 z.s.feeds.length z.p.c1, .slice z.p.a2 z.s.brks.length z.p.c2, .slice z.p.a3 z.s.loops.length z.p.c3, .slice z.p.a4 z.s.racks.length z.p.c4, .int .i64 z.s.sw, .slice z.p.a5 z.s.links.length z.p.c5, .slice z.p.a6 z.s.hosts.length z.p.c6], .agg #[.slice z.A z.xs.length z.c], .agg #[.slice z.q.a1 z.d.hosts.length z.q.c1, .slice z.q.a2 z.d.reps.length z.q.c2], .int .i64 k] w fun e w' => e = .returned (.bool true) ∧ Below w.heap.size w w' := by
  have HLV := Lib.hid (fun (X : World) => c_live X)
  obtain ⟨W1, h1⟩ : ∃ W, W = w.alloc (.cells #[.slice z.p.a1 z.s.feeds.length z.p.c1, .slice z.p.a2 z.s.brks.length z.p.c2, .slice z.p.a3 z.s.loops.length z.p.c3, .slice z.p.a4 z.s.racks.length z.p.c4, .int .i64 z.s.sw, .slice z.p.a5 z.s.links.length z.p.c5, .slice z.p.a6 z.s.hosts.length z.p.c6] 29) := ⟨_, rfl⟩
  obtain ⟨W2, h2⟩ : ∃ W, W = W1.alloc (.cells #[.slice z.A z.xs.length z.c] 32) := ⟨_, rfl⟩
  obtain ⟨W, h3⟩ : ∃ W, W = W2.alloc (.cells #[.slice z.q.a1 z.d.hosts.length z.q.c1, .slice z.q.a2 z.d.reps.length z.q.c2] 36) := ⟨_, rfl⟩
  obtain ⟨B0, X1⟩ := sn_boxes h1 h2 h3
  have z3 : W.heap.size = w.heap.size + 1 + 1 + 1 := sn_size h1 h2 h3
  have HB := Lib.hid B0
  have Z0 := hz.on B0 (Nat.le_refl _)
  have HZ := Lib.hid (fun (X : World) (hX : Below W.heap.size W X) => Z0.on hX (Nat.le_refl _))
  have HF := Lib.hid (fun (X : World) (hX : Below W.heap.size W X) => ((X1.on hX (Nat.le_refl _)).cells : X.cell? ⟨w.heap.size, 0, none⟩ = some (.slice z.p.a1 z.s.feeds.length z.p.c1) ∧ X.cell? ⟨w.heap.size, 1, none⟩ = some (.slice z.p.a2 z.s.brks.length z.p.c2) ∧ X.cell? ⟨w.heap.size, 2, none⟩ = some (.slice z.p.a3 z.s.loops.length z.p.c3) ∧ X.cell? ⟨w.heap.size, 3, none⟩ = some (.slice z.p.a4 z.s.racks.length z.p.c4) ∧ X.cell? ⟨w.heap.size, 4, none⟩ = some (.int .i64 z.s.sw) ∧ X.cell? ⟨w.heap.size, 5, none⟩ = some (.slice z.p.a5 z.s.links.length z.p.c5) ∧ X.cell? ⟨w.heap.size, 6, none⟩ = some (.slice z.p.a6 z.s.hosts.length z.p.c6) ∧ X.cell? ⟨w.heap.size + 1, 0, none⟩ = some (.slice z.A z.xs.length z.c) ∧ X.cell? ⟨w.heap.size + 1 + 1, 0, none⟩ = some (.slice z.q.a1 z.d.hosts.length z.q.c1) ∧ X.cell? ⟨w.heap.size + 1 + 1, 1, none⟩ = some (.slice z.q.a2 z.d.reps.length z.q.c2)))
  have HX := Lib.hid (fun (X : World) (hX : Below W.heap.size W X) => X1.on hX (Nat.le_refl _))
  have HKW := Lib.hid (Below.refl W.heap.size W)
  have hle := HB.out.size
  obtain ⟨n1, n2, n3, n4, n5, n6, n7, n8⟩ := hz.bounds
  obtain ⟨r0, hr0⟩ := bool_of z.Ok
  have HR0 := Lib.hid hr0
  clear hr0
  clear hz B0 X1 z3 Z0
  obtain ⟨f0, f1, f2, f3, f4, f5, f6, g0, g1, g2⟩ := HF.out W HKW.out
  rw [h3, h2, h1] at f0 f1 f2 f3 f4 f5 f6 g0 g1 g2
  generalize hBB : w.heap.size = B at *
  go_enter Tryz.func3, Tryz.ntmps3
  go_wp2_with (fail)
  rw [← h1, ← h2, ← h3]
  clear h1 h2 h3 f0 f1 f2 f3 f4 f5 f6 g0 g1 g2
  obtain ⟨r, hr⟩ := bool_of (FewZ z)
  have HR := Lib.hid hr
  clear hr
  go_at_call 7
  refine (c_fewZ z r HR.out W (HZ.out W HKW.out)).mono ?_
  rintro e v1 ⟨rfl, bb⟩
  have HKv1 := Lib.hid (below_join HKW.out bb HKW.out.size)
  clear bb
  cases r
  · skip
    go_wp2_with (fail)
    go_at_call 8
    refine (HLV.out v1).mono ?_
    rintro e v102 ⟨rfl, bb⟩
    have HKv102 := Lib.hid (below_join HKv1.out bb HKv1.out.size)
    clear bb
    go_wp2_with (fail)
    go_ret
    exact ⟨rfl, below_join HB.out HKv102.out hle⟩
  obtain ⟨ht, hht⟩ : ∃ t, heatV z r0 k = t := ⟨_, rfl⟩
  have HHT := Lib.hid hht
  clear hht
  obtain ⟨C, hC⟩ : ∃ t, lpC z.s k = t := ⟨_, rfl⟩
  obtain ⟨er, her⟩ : ∃ t, lpE z.s k = t := ⟨_, rfl⟩
  obtain ⟨l, hl⟩ : ∃ t, lpPs z.s k = t := ⟨_, rfl⟩
  have hll : l.length ≤ 1 := by rw [← hl]; unfold lpPs; split <;> simp
  have HL1 := Lib.hid (fun (X : World) (hX : SnAt X z) => c_coLinear z.p z.s k X hX.si)
  have HL2 := Lib.hid (fun (X : World) (hX : SnAt X z) => d_crLinear z.p z.s k X hX.si)
  rw [hC, her, hl] at HL1 HL2
  clear hC her hl
  obtain ⟨f0, f1, f2, f3, f4, f5, f6, g0, g1, g2⟩ := HF.out v1 HKv1.out
  go_wp2_with (fail)
  clear f0 f1 f2 f3 f4 f5 f6 g0 g1 g2
  go_at_call 9
  refine (HL1.out v1 (HZ.out v1 HKv1.out)).mono ?_
  rintro e v153 ⟨u0, rfl, hy, bb⟩
  have HKv153 := Lib.hid (below_join HKv1.out bb HKv1.out.size)
  have P0v153 := Lib.hid hy
  obtain ⟨A0, c0, rfl, ha0, hb0⟩ := hy.shape
  unfold maxLen at hb0
  clear bb hy
  obtain ⟨X154, hX154⟩ : ∃ X, X = v153.alloc (.cells #[.int .i64 C, .slice A0 l.length c0] 41) := ⟨_, rfl⟩
  have b154 : Below v153.heap.size v153 X154 := by subst hX154; exact (Below.refl _ _).alloc (Nat.le_refl _) _
  have HKX154 := Lib.hid (below_join HKv153.out b154 HKv153.out.size)
  have P0X154 := Lib.hid (P0v153.out.on b154 (Nat.le_refl _))
  have Q0X154 := Lib.hid (show Bx X154 v153.heap.size #[.int .i64 C, .slice A0 l.length c0] 41 by subst hX154; exact bx_new _ _ _)
  clear b154
  obtain ⟨f0, f1, f2, f3, f4, f5, f6, g0, g1, g2⟩ := HF.out X154 HKX154.out
  rw [hX154] at f0 f1 f2 f3 f4 f5 f6 g0 g1 g2
  go_wp2_with (fail)
  rw [← hX154]
  clear hX154 f0 f1 f2 f3 f4 f5 f6 g0 g1 g2
  go_at_call 10
  refine (HL2.out X154 (HZ.out X154 HKX154.out)).mono ?_
  rintro e v155 ⟨u1, rfl, hy, bb⟩
  have HKv155 := Lib.hid (below_join HKX154.out bb HKX154.out.size)
  have P0v155 := Lib.hid (P0X154.out.on bb (Nat.le_refl _))
  have Q0v155 := Lib.hid (Q0X154.out.on bb (Nat.le_refl _))
  have P1v155 := Lib.hid hy
  obtain ⟨A1, c1, rfl, ha1, hb1⟩ := hy.shape
  unfold maxLen at hb1
  clear bb hy
  obtain ⟨X156, hX156⟩ : ∃ X, X = v155.alloc (.cells #[.int .i64 C, .slice A1 l.length c1] 41) := ⟨_, rfl⟩
  have b156 : Below v155.heap.size v155 X156 := by subst hX156; exact (Below.refl _ _).alloc (Nat.le_refl _) _
  have HKX156 := Lib.hid (below_join HKv155.out b156 HKv155.out.size)
  have P0X156 := Lib.hid (P0v155.out.on b156 (Nat.le_refl _))
  have Q0X156 := Lib.hid (Q0v155.out.on b156 (Nat.le_refl _))
  have P1X156 := Lib.hid (P1v155.out.on b156 (Nat.le_refl _))
  have Q1X156 := Lib.hid (show Bx X156 v155.heap.size #[.int .i64 C, .slice A1 l.length c1] 41 by subst hX156; exact bx_new _ _ _)
  clear b156
  obtain ⟨f0, f1, f2, f3, f4, f5, f6, g0, g1, g2⟩ := HF.out X156 HKX156.out
  have q00 := cell_of (show Bx X156 v153.heap.size _ _ from Q0X156.out) (o := 0) rfl
  have q01 := cell_of (show Bx X156 v153.heap.size _ _ from Q0X156.out) (o := 1) rfl
  have q10 := cell_of (show Bx X156 v155.heap.size _ _ from Q1X156.out) (o := 0) rfl
  have q11 := cell_of (show Bx X156 v155.heap.size _ _ from Q1X156.out) (o := 1) rfl
  rw [hX156] at f0 f1 f2 f3 f4 f5 f6 g0 g1 g2 q00 q01 q10 q11
  go_wp2_with (fail)
  rw [← hX156]
  clear hX156 f0 f1 f2 f3 f4 f5 f6 g0 g1 g2 q00 q01 q10 q11
  generalize hg0 : v153.heap.size = G0 at *
  generalize hg1 : v155.heap.size = G1 at *
  have hfm : Tryz.prog.follows Departure.mixedOrders = true := by kernel_rfl
  clear hg0 hg1
  go_loopw [13, 14] (fun sm i wr => ∃ j : Nat, j ≤ l.length ∧ sm = .bool true ∧ i = .int .i64 (j : Int) ∧ Hid (Below X156.heap.size X156 wr)) (fun _ i _ => l.length - (intOf i).toNat)
  case atStart => exact ⟨0, Nat.zero_le _, rfl, rfl, Lib.hid (Below.refl _ _)⟩
  case round =>
    obtain ⟨j, hj, rfl, rfl, hK⟩ := hrel
    have hji : ((j : Nat) : Int).toNat = j := by omega
    have HKwr := Lib.hid (below_join HKX156.out hK.out HKX156.out.size)
    have Q0 := Q0X156.out.on hK.out (Nat.le_refl _)
    have Q1 := Q1X156.out.on hK.out (Nat.le_refl _)
    have q00 := cell_of Q0 (o := 0) rfl
    have q01 := cell_of Q0 (o := 1) rfl
    have q10 := cell_of Q1 (o := 0) rfl
    have q11 := cell_of Q1 (o := 1) rfl
    clear Q0 Q1
    by_cases hlt : j < l.length
    · obtain ⟨x, hx⟩ : ∃ x, l[j]? = some x := ⟨_, List.getElem?_eq_getElem hlt⟩
      have hlt2 : (j : Int) < (l.length : Int) := by omega
      obtain ⟨pb, po, pc, e1, hpb, -, -, x0, x1, x2⟩ := (P0X156.out.on hK.out (Nat.le_refl _)).at_ hx
      injection e1 with e1 _ e2
      subst e1 e2
      obtain ⟨kb, ko, kc, e1, hkb, -, -, y0, y1, y2⟩ := (P1X156.out.on hK.out (Nat.le_refl _)).at_ hx
      injection e1 with e1 _ e2
      subst e1 e2
      have gg1 := guardPt
      have gg2 := eqlPt x.1 x.1 x.2.1 x.2.1 x.2.2 x.2.2
      simp only [beq_self_eq_true, Bool.and_self] at gg2
      clear hx
      go_wp2_with (fail)
      go_region
      go_wp2_with (fail)
      go_roundw
      case rel => exact ⟨j + 1, by omega, rfl, by go_num, Lib.hid hK.out.drew⟩
      case measure => simp only [intOf]; omega
    · obtain rfl : j = l.length := by omega
      clear q00 q10 q11
      obtain ⟨f0, f1, f2, f3, f4, f5, f6, g0, g1, g2⟩ := HF.out wr HKwr.out
      go_wp2_with (fail)
      go_region_held3 (fun X => X.cell? ⟨B, 0, none⟩ = some (.slice z.p.a1 z.s.feeds.length z.p.c1) ∧ X.cell? ⟨B, 1, none⟩ = some (.slice z.p.a2 z.s.brks.length z.p.c2) ∧ X.cell? ⟨B, 2, none⟩ = some (.slice z.p.a3 z.s.loops.length z.p.c3) ∧ X.cell? ⟨B, 3, none⟩ = some (.slice z.p.a4 z.s.racks.length z.p.c4) ∧ X.cell? ⟨B, 4, none⟩ = some (.int .i64 z.s.sw) ∧ X.cell? ⟨B, 5, none⟩ = some (.slice z.p.a5 z.s.links.length z.p.c5) ∧ X.cell? ⟨B, 6, none⟩ = some (.slice z.p.a6 z.s.hosts.length z.p.c6) ∧ X.cell? ⟨B + 1, 0, none⟩ = some (.slice z.A z.xs.length z.c) ∧ X.cell? ⟨B + 1 + 1, 0, none⟩ = some (.slice z.q.a1 z.d.hosts.length z.q.c1) ∧ X.cell? ⟨B + 1 + 1, 1, none⟩ = some (.slice z.q.a2 z.d.reps.length z.q.c2))
        (first | exact HF.out v159 HKv159.out | exact HF.out v158 HKv158.out | exact HF.out v157 HKv157.out | exact HF.out wr HKwr.out | fail)
        (first
          | (go_at_call 11; (with_reducible refine (c_coHeat z r0 HR0.out k wr.drew (HZ.out _ HKwr.out.drew) ht HHT.out).mono ?_); rintro e v157 ⟨rfl, bb0⟩; have bb := below_join (Below.refl wr.heap.size wr).drew bb0 (Nat.le_refl _); have HKv157 := Lib.hid (below_join HKwr.out bb HKwr.out.size); clear bb bb0)
          | (go_at_call 12; (with_reducible refine (d_crHeat z r0 HR0.out k v157 (HZ.out _ HKv157.out) ht HHT.out).mono ?_); rintro e v158 ⟨rfl, bb0⟩; have bb := below_join (Below.refl v157.heap.size v157) bb0 (Nat.le_refl _); have HKv158 := Lib.hid (below_join HKv157.out bb HKv157.out.size); clear bb bb0)
          | (go_at_call 8; (with_reducible refine (HLV.out v158).mono ?_); rintro e v159 ⟨rfl, bb0⟩; have bb := below_join (Below.refl v158.heap.size v158) bb0 (Nat.le_refl _); have HKv159 := Lib.hid (below_join HKv158.out bb HKv158.out.size); clear bb bb0)
          | fail)
      go_wp2_with (fail)
      go_ret
      exact ⟨rfl, below_join HB.out HKv159.out hle⟩
theorem row_CoolingHeats (w : World) (p : SP) (s : SiteD) (hs : SiAt w p s) (A : Option Addr) (c : Nat) (xs : List (Svc × SvA)) (hx : WiAt w A c xs) (q : WP) (d : WorldD) (hd : WoAt w q d) (k : Int) :
    Calls Tryz.prog 3 #[siV p s, .agg #[.slice A xs.length c], .agg #[.slice q.a1 d.hosts.length q.c1, .slice q.a2 d.reps.length q.c2], .int .i64 k] w fun e w' => e = .returned (.bool true) ∧ Below w.heap.size w w' := w_CoolingHeats ⟨p, s, A, c, xs, q, d⟩ w ⟨hs, hx, hd⟩ k
end Go.Proofs.YtpokpgnclohiiaaGreat
