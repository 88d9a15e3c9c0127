/-
  DERIVED. Several texts in one.
-/
import Derived.Test.YtglpaihadongkaaEE
import Derived.Test.YtglpaihadongkaaDC
import Derived.Laws.StructEq
set_option linter.unusedVariables false
set_option linter.unusedSimpArgs false

/- DERIVED. The reference's Max (stage 5). -/
namespace Go.Proofs.Ytglpaihadongkaa
open Go.RowKit Go.Shelf
set_option maxRecDepth 100000
set_option linter.unusedSimpArgs false
set_option linter.unusedVariables false

theorem nfault_ok {N s t : Nat} {L : List (Int × Int × Int)} (hok : ntOk (N : Int) L = true) (hs : s < N) (ht : t < N) (hst : s ≠ t) : nfault (N : Int) L (s : Int) (t : Int) = 0 := by
  unfold nfault
  rw [if_pos hok, show ndOk (N : Int) (s : Int) = true from ndOk_iff.2 (by omega), show ndOk (N : Int) (t : Int) = true from ndOk_iff.2 (by omega)]
  have : ((s : Int) == (t : Int)) = false := by rw [beq_eq_false_iff_ne]; omega
  rw [this]; rfl
/-- A greatest flow passes the check, with its value. -/
theorem chk_best {N s t : Nat} {L : List (Int × Int × Int)} {lf : List Ar} {v : Int} (h : Best N s t L lf v) (hok : ntOk (N : Int) L = true) (hs : s < N) (ht : t < N) (hst : s ≠ t) : chkV (N : Int) L (s : Int) (t : Int) (xsOf lf) = (v, 0) := by
  obtain ⟨b1, b2⟩ := best_fit h hok
  have hf : fitB L (xsOf lf) = true := fitB_iff.2 ⟨b1, fun i hi => ⟨(b2 i hi).1, (b2 i hi).2.1⟩⟩
  have hz : zipX L (xsOf lf) = lf := zip_self h.ends_
  have he : (List.range (N : Int).toNat).all (evenAt lf (s : Int) (t : Int)) = true := by
    rw [List.all_eq_true]
    intro n hn
    have hn := List.mem_range.1 hn
    unfold evenAt
    by_cases e1 : n = s
    · subst e1; simp
    · by_cases e2 : n = t
      · subst e2; simp
      · rw [h.flow.even n (by omega) e1 e2]; rfl
  unfold chkV
  rw [if_pos (nfault_ok hok hs ht hst), if_pos hf, hz, if_pos he, Int.toNat_natCast, h.value]
theorem d_MaxE (N : Int) (L : Value) (l : List (Int × Int × Int)) (s t : Int) (w : World) (hL : PtSl w L l) (r : Int) (hr : nfault N l s t = r) (h0 : r ≠ 0) :
    Calls Try.prog 20 #[ntV N L, .int .i64 s, .int .i64 t] w fun e w' => e = .returned (.tuple #[.int .i64 0, .slice none 0 0, .int .i64 r]) ∧ Below w.heap.size w w' := by
  obtain ⟨A, c, rfl, hc1, hc2⟩ := hL.shape
  obtain ⟨W, hW⟩ : ∃ W, W = w.alloc (.cells #[.int .i64 N, .slice A l.length c] 24) := ⟨_, rfl⟩
  have B0 : Below w.heap.size w W := by subst hW; exact (Below.refl _ _).alloc (Nat.le_refl _) _
  have HB0 := Lib.hid B0
  have HX := Lib.hid (show W.heap[w.heap.size]? = some (.cells #[.int .i64 N, .slice A l.length c] 24 (0, 0)) by subst hW; exact heap_alloc_new _ _)
  have x0 : W.cell? ⟨w.heap.size, 0, none⟩ = some (.int .i64 N) := cell_of HX.out rfl
  have x1 : W.cell? ⟨w.heap.size, 1, none⟩ = some (.slice A l.length c) := cell_of HX.out rfl
  have HF := Lib.hid (d_asked N (.slice A l.length c) l s t W (hL.on B0 (Nat.le_refl _)) r hr)
  have hrz : (r != 0) = true := by rw [bne_iff_ne]; exact h0
  unfold ntV at HF ⊢
  clear B0 hL hr h0
  rw [hW] at x0 x1
  go_enter Try.func20, Try.ntmps20
  go_wp2_with (fail)
  rw [← hW]
  clear hW x0 x1
  go_at_call 33
  refine HF.out.mono ?_
  rintro e w1 ⟨rfl, hb⟩
  have HB := Lib.hid (below_join HB0.out hb HB0.out.size)
  clear hb
  go_wp2_with (fail)
  exact retTTT rfl rfl rfl rfl rfl ⟨rfl, HB.out⟩
/-- What the reference's Max returns for a net and two nodes. -/
def RmPost (N s t : Nat) (l : List (Int × Int × Int)) (w : World) (e : Ending) (w' : World) : Prop :=
  ∃ (lf : List Ar) (val : Int) (v : Value), e = .returned (.tuple #[.int .i64 val, v, .int .i64 0]) ∧ Best N s t l lf val ∧ IntSl w' v (xsOf lf) ∧ Below w.heap.size w w'
set_option maxHeartbeats 8000000 in
theorem d_Max0 (N s t : Nat) (L : Value) (l : List (Int × Int × Int)) (hs : s < N) (ht : t < N) (hst : s ≠ t) (w : World) (hL : PtSl w L l) (hok : ntOk (N : Int) l = true) :
    Calls Try.prog 20 #[ntV (N : Int) L, .int .i64 (s : Int), .int .i64 (t : Int)] w (RmPost N s t l w) := by
  obtain ⟨A, c, rfl, hc1, hc2⟩ := hL.shape
  obtain ⟨W, hW⟩ : ∃ W, W = w.alloc (.cells #[.int .i64 (N : Int), .slice A l.length c] 24) := ⟨_, rfl⟩
  have B0 : Below w.heap.size w W := by subst hW; exact (Below.refl _ _).alloc (Nat.le_refl _) _
  have HB0 := Lib.hid B0
  have HX := Lib.hid (show W.heap[w.heap.size]? = some (.cells #[.int .i64 (N : Int), .slice A l.length c] 24 (0, 0)) by subst hW; exact heap_alloc_new _ _)
  have HP := Lib.hid (fun (X : World) (hX : Below W.heap.size W X) => (⟨⟨cell_of ((hX.block _ (at_lt HX.out)).trans HX.out) rfl, cell_of ((hX.block _ (at_lt HX.out)).trans HX.out) rfl⟩, (hL.on B0 (Nat.le_refl _)).on hX (Nat.le_refl _)⟩ : (X.cell? ⟨w.heap.size, 0, none⟩ = some (.int .i64 (N : Int)) ∧ X.cell? ⟨w.heap.size, 1, none⟩ = some (.slice A l.length c)) ∧ PtSl X (.slice A l.length c) l))
  have HF := Lib.hid (fun (X : World) (hX : PtSl X (.slice A l.length c) l) => d_asked (N : Int) (.slice A l.length c) l (s : Int) (t : Int) X hX 0 (nfault_ok hok hs ht hst))
  have HG := Lib.hid (fun (X : World) (hX : PtSl X (.slice A l.length c) l) => d_greatest N s t (.slice A l.length c) l hs ht hst X hX hok)
  have HC := Lib.hid (fun (lf : List Ar) (v : Int) (h : Best N s t l lf v) (F : Value) (X : World) (hX : PtSl X (.slice A l.length c) l) (hF : IntSl X F (xsOf lf)) => d_Check (N : Int) (.slice A l.length c) F l (s : Int) (t : Int) (xsOf lf) X hX hF v 0 (chk_best h hok hs ht hst))
  obtain ⟨⟨x0, x1⟩, pt⟩ := HP.out W (Below.refl _ _)
  have HF1 := Lib.hid (HF.out W pt)
  unfold ntV at HF1 HG HC ⊢
  clear B0 hL hok hst pt HF
  rw [hW] at x0 x1
  go_enter Try.func20, Try.ntmps20
  go_wp2_with (fail)
  rw [← hW]
  clear hW x0 x1
  go_at_call 33
  refine HF1.out.mono ?_
  rintro e w1 ⟨rfl, hb⟩
  obtain ⟨⟨x0, x1⟩, pt⟩ := HP.out w1 hb
  have HB1 := Lib.hid hb
  have HG1 := Lib.hid (HG.out w1 pt)
  clear hb pt
  go_wp2_with (fail)
  clear x0 x1
  go_at_call 37
  refine HG1.out.mono ?_
  rintro e w2 ⟨lf, F, rfl, hbest, hF, hb⟩
  have HB2 := Lib.hid (below_join HB1.out hb HB1.out.size)
  obtain ⟨⟨x0, x1⟩, pt⟩ := HP.out w2 HB2.out
  have HBE := Lib.hid hbest
  have HI := Lib.hid hF
  have HC1 := Lib.hid (HC.out lf _ hbest F w2 pt hF)
  obtain ⟨val, hval⟩ : ∃ v, v = gain lf s := ⟨_, rfl⟩
  rw [← hval] at HC1 HBE
  clear hb pt hbest hF hval
  go_wp2_with (fail)
  clear x0 x1
  go_at_call 13
  refine HC1.out.mono ?_
  rintro e w3 ⟨rfl, hb⟩
  have HB3 := Lib.hid (below_join HB2.out hb HB2.out.size)
  have HI3 := Lib.hid (HI.out.on hb (Nat.le_refl _))
  clear hb
  go_wp2_with (fail)
  exact retTTT rfl rfl rfl rfl rfl ⟨lf, val, F, rfl, HBE.out, HI3.out, below_join HB0.out HB3.out HB0.out.size⟩
end Go.Proofs.Ytglpaihadongkaa

/- DERIVED. slices.Equal of arcs (stage 5). -/
namespace Go.Proofs.Ytglpaihadongkaa
open Go.RowKit Go.Shelf
set_option maxRecDepth 100000

theorem pt_fields : Try.prog.underlying 39 = some (.struct (Try.prog.fieldsOf 39)) := by kernel_rfl
theorem pt_list : (Try.prog.fieldsOf 39).toList.map (fun f => (f.name, f.type, f.offset)) = [("From", 3, 0), ("To", 3, 1), ("Cap", 3, 2)] := by kernel_rfl
theorem pt_stood : Try.prog.stoodInHeld 39 = false := by kernel_rfl
theorem pt_guard : Try.prog.eqGuardType Try.prog.depth 39 = false := by kernel_rfl
theorem guardPt (op : BinOp) (x y : Operand) (xs ys : Array Value) (w : World) : (eqGuard op 39 x y (.agg xs) (.agg ys)).run Try.prog w = .ok () w := run_eqGuard_agg w op _ x y xs ys pt_guard
theorem eqFieldsPt (a b c d e f : Int) (w : World) : (Op.eqFields 9999 #[.int .i64 a, .int .i64 c, .int .i64 e] #[.int .i64 b, .int .i64 d, .int .i64 f] (Try.prog.fieldsOf 39).toList).run Try.prog w = .ok ((a == b) && ((c == d) && (e == f))) w := by
  obtain ⟨f1, f2, f3, he, h1, h2, h3⟩ : ∃ f1 f2 f3 : Field, (Try.prog.fieldsOf 39).toList = [f1, f2, f3] ∧ (f1.name, f1.type, f1.offset) = ("From", 3, 0) ∧ (f2.name, f2.type, f2.offset) = ("To", 3, 1) ∧ (f3.name, f3.type, f3.offset) = ("Cap", 3, 2) := by
    have := pt_list
    match h : (Try.prog.fieldsOf 39).toList with
    | [f1, f2, f3] => rw [h] at this; simp only [List.map_cons, List.map_nil, List.cons.injEq] at this; exact ⟨f1, f2, f3, rfl, this.1, this.2.1, this.2.2.1⟩
    | [] => rw [h] at this; cases this
    | [f] => rw [h] at this; simp at this
    | [f, g] => rw [h] at this; simp at this
    | f :: g :: i :: j :: r => rw [h] at this; simp at this
  rw [he]
  obtain ⟨fn, ft, fo⟩ : f1.name = "From" ∧ f1.type = 3 ∧ f1.offset = 0 := by simpa using h1
  obtain ⟨gn, gt, go⟩ : f2.name = "To" ∧ f2.type = 3 ∧ f2.offset = 1 := by simpa using h2
  obtain ⟨kn, kt, ko⟩ : f3.name = "Cap" ∧ f3.type = 3 ∧ f3.offset = 2 := by simpa using h3
  simp only [Op.eqFields, fn, ft, fo, gn, gt, go, kn, kt, ko]
  cases hab : (a == b) <;> cases hcd : (c == d) <;> cases hef : (e == f) <;> simp [go_sem, hab, hcd, hef]
theorem neqPt (a b c d e f : Int) (w : World) : (binOp .neq 39 (.agg #[.int .i64 a, .int .i64 c, .int .i64 e]) (.agg #[.int .i64 b, .int .i64 d, .int .i64 f])).run Try.prog w = .ok (.bool (!((a == b) && ((c == d) && (e == f))))) w := by
  rw [run_neq_struct, run_equalIn_agg w 9999 _ _ _ pt_fields pt_stood, eqFieldsPt]
  rfl
set_option maxHeartbeats 4000000 in
theorem c_eqArcs (l m : List (Int × Int × Int)) (r : Bool) (hr : decide (l = m) = r) (v u : Value) (w : World) (hv : PtSl w v l) (hu : PtSl w u m) :
    Calls Try.prog 21 #[v, u] w fun e w' => e = .returned (.bool r) ∧ ∃ n, w' = w.drewN n := by
  have HV := Lib.hid hv
  have HU := Lib.hid hu
  have HR := Lib.hid hr
  obtain ⟨A, c, rfl, hc1, hc2⟩ := hv.shape
  obtain ⟨B, d, rfl, hd1, hd2⟩ := hu.shape
  unfold maxLen at hc2 hd2
  clear hv hu hr
  by_cases hl : l.length = m.length
  · have hne : (((l.length : Nat) : Int) != ((m.length : Nat) : Int)) = false := by rw [bne_eq_false_iff_eq]; omega
    have HL := Lib.hid hl
    clear hl
    go_enter Try.func21, Try.ntmps21
    go_wp2_with (fail)
    go_loopw [13] (fun i wr => ∃ (k n : Nat), k ≤ l.length ∧ i = .int .i64 (k : Int) ∧ Hid (l.take k = m.take k) ∧ wr = w.drewN n) (fun i wr => l.length - (intOf i).toNat)
    case atStart => exact ⟨0, 0, Nat.zero_le _, rfl, Lib.hid rfl, rfl⟩
    case round =>
      obtain ⟨k, n, hk, rfl, htk, rfl⟩ := hrel
      by_cases hlt : k < l.length
      · obtain ⟨x, hx⟩ : ∃ x, l[k]? = some x := ⟨_, List.getElem?_eq_getElem hlt⟩
        obtain ⟨y, hy⟩ : ∃ y, m[k]? = some y := ⟨_, List.getElem?_eq_getElem (by have := HL.out; omega)⟩
        obtain ⟨b1, o1, c1, e1, -, -, -, p1, p2, p3⟩ := HV.out.at_ hx
        obtain ⟨b2, o2, c2, e2, -, -, -, q1, q2, q3⟩ := HU.out.at_ hy
        injection e1 with e1 _ e1'
        injection e2 with e2 _ e2'
        subst e1 e1' e2 e2'
        obtain ⟨x1, x2, x3⟩ := x
        obtain ⟨y1, y2, y3⟩ := y
        have HX := Lib.hid hx
        have HY := Lib.hid hy
        have hk2 : (k : Int) < ((m.length : Nat) : Int) := by have := HL.out; omega
        have hki : ((k : Nat) : Int).toNat = k := by omega
        clear hx hy
        have g1 := guardPt
        have g2 := neqPt
        rcases hxy : ((x1 == y1) && ((x2 == y2) && (x3 == y3))) with _ | _
        · have hrr : r = false := by
            rw [← HR.out]
            refine decide_eq_false fun h => ?_
            have h1 := HX.out
            have h2 := HY.out
            rw [h, h2] at h1
            injection h1 with h1
            injection h1 with h3 h4
            injection h4 with h4 h5
            subst h3 h4 h5
            simp at hxy
          subst hrr
          go_wp2_with (fail)
          go_quiet (fail)
          go_wp2_with (fail)
          go_ret
          exact ⟨rfl, _, World.drewN_drewN _ _ _⟩
        · have HXY := Lib.hid (show x1 = y1 ∧ x2 = y2 ∧ x3 = y3 by simpa using hxy)
          go_wp2_with (fail)
          go_quiet (fail)
          go_wp2_with (fail)
          go_roundw
          case rel => exact ⟨k + 1, _, by omega, by go_num, Lib.hid (take_same htk.out HX.out (by rw [HY.out, HXY.out.1, HXY.out.2.1, HXY.out.2.2])), rfl⟩
          case measure => simp only [intOf]; omega
      · obtain rfl : k = l.length := by omega
        have hrr : r = true := by
          rw [← HR.out, decide_eq_true]
          have := htk.out
          rw [List.take_of_length_le (Nat.le_refl _), HL.out, List.take_of_length_le (Nat.le_refl _)] at this
          exact this
        subst hrr
        go_wp2_with (fail)
        go_ret
        exact ⟨rfl, n, rfl⟩
  · have hne : (((l.length : Nat) : Int) != ((m.length : Nat) : Int)) = true := by rw [bne_iff_ne]; omega
    have hrr : r = false := by rw [← HR.out]; exact decide_eq_false (fun h => hl (by rw [h]))
    subst hrr
    clear hl
    go_enter Try.func21, Try.ntmps21
    go_wp2_with (fail)
    go_ret
    exact ⟨rfl, 0, rfl⟩
end Go.Proofs.Ytglpaihadongkaa
