/-
  DERIVED. A copy of whole rows of two cells; slices.Clone of replicas; copied (stage 13).
-/
import Derived.Test.YtplncglgolhfaaaEM
import Derived.OwnWalk
import Derived.Laws.IdiomCopy
namespace Go.Proofs.Ytplncglgolhfaaa
open Go.RowKit
set_option maxRecDepth 100000
set_option linter.unusedVariables false
set_option linter.unusedSimpArgs false

def setAll (cur : Array Value) : Nat → List Value → Array Value
  | _, [] => cur
  | o, v :: r => setAll (cur.setIfInBounds o v) (o + 1) r
theorem setAll_list : ∀ (vs : List Value) (o : Nat) (cur : Array Value), o + vs.length ≤ cur.size → (setAll cur o vs).toList = cur.toList.take o ++ vs ++ cur.toList.drop (o + vs.length) := by
  intro vs
  induction vs with
  | nil => intro o cur _; simp [setAll]
  | cons v r ih =>
    intro o cur h
    simp only [List.length_cons] at h
    rw [setAll, ih (o + 1) _ (by simp; omega)]
    have hlt : o < cur.toList.length := by simp; omega
    rw [Array.toList_setIfInBounds]
    have e1 : (cur.toList.set o v).take (o + 1) = cur.toList.take o ++ [v] := by
      rw [List.take_add_one, List.take_set, List.getElem?_set_self hlt, List.set_eq_of_length_le (by rw [List.length_take]; omega)]
      rfl
    have e2 : (cur.toList.set o v).drop (o + 1 + r.length) = cur.toList.drop (o + (r.length + 1)) := by
      rw [List.drop_set_of_lt (by omega), show o + 1 + r.length = o + (r.length + 1) by omega]
    rw [e1, e2]
    simp
theorem setCells_row (g : Nat) (T : TypeId) : ∀ (vs : List Value) (o : Nat) (w : World) (cur : Array Value), w.heap[g]? = some (.cells cur T (0, 0)) → (w.setCells g o vs).heap[g]? = some (.cells (setAll cur o vs) T (0, 0)) := by
  intro vs
  induction vs with
  | nil => intro o w cur h; exact h
  | cons v r ih =>
    intro o w cur h
    rw [World.setCells, setAll]
    exact ih (o + 1) _ _ (set_field h v)
theorem setCells_below {B g : Nat} {a : World} (hg : B ≤ g) : ∀ (vs : List Value) (o : Nat) (w : World), Below B a w → Below B a (w.setCells g o vs) := by
  intro vs
  induction vs with
  | nil => intro o w h; exact h
  | cons v r ih => intro o w h; rw [World.setCells]; exact ih (o + 1) _ (h.setCell hg v)
theorem wpList_copy2 {P : Program} {w : World} {ops : Array Oper} {rest : List Oper} {o : Oper} {a : Act} {Q : Exit → Act → World → Prop} (hgd : o.guard = none) (d s : Operand) (dT sT : TypeId)
    (ho : o.op = .call { callee := .builtin .copy, args := #[d, s], argTypes := #[dT, sT] }) (elem : TypeId) (hu : P.underlying dT = some (.slice elem)) (hsz : (P.info? elem).map (·.size) = some 2)
    (g n dCap sCap : Nat) (ad : Option Addr) (hd : a.eval d = .slice (some ⟨g, 0, none⟩) n dCap) (hs : a.eval s = .slice ad n sCap)
    (cur : Array Value) (t : TypeId) (hg : w.heap[g]? = some (.cells cur t (0, 0))) (cs : List Value) (hcs : cs.length = n * 2) (hcur : cur.size = n * 2) (hnil : ad = none → n = 0)
    (hsrc : ∀ x, ad = some x → ∀ j v, cs[j]? = some v → w.cell? (x.add j) = some v) (h1 : ∀ v ∈ cs, v.oneCell' = true)
    (B : Nat) (w0 : World) (hb : Below B w0 w) (hBg : B ≤ g)
    (h : ∀ w', Hid (w'.heap[g]? = some (.cells cs.toArray t (0, 0))) → Hid (Below B w0 w') → wpList P ops Q rest (a.put o.dst (goInt n)) w') : wpList P ops Q (o :: rest) a w := by
  have hend : (w.setCells g 0 cs).heap[g]? = some (.cells cs.toArray t (0, 0)) := by
    rw [setCells_row g t cs 0 w cur hg]
    congr 1
    congr 1
    apply Array.ext'
    rw [setAll_list cs 0 cur (by omega), List.drop_eq_nil_of_le (by simp; omega)]
    simp
  have hst : (storeCells ⟨g, 0, none⟩ cs 0).run P w = .ok () (w.setCells g 0 cs) := run_storeCells_cells (P := P) g 0 cs 0 w (fun j hj => by
      rw [cell_of hg (Array.getElem?_eq_getElem (show 0 + 0 + j < cur.size by omega))]; rfl) (fun j hj => by simp [World.frozen?, hg]) h1
  refine wpList_plain hgd fun K hK => ?_
  cases hq : P.info? elem with
  | none => simp [hq] at hsz
  | some i =>
    have hi : i.size = 2 := by simpa [hq] using hsz
    have hrun : (Builtin.copy_ #[dT, sT] o.type #[.slice (some ⟨g, 0, none⟩) n dCap, .slice ad n sCap]).run P w = .ok (goInt n) (w.setCells g 0 cs) := by
      cases ad with
      | none =>
        obtain rfl := hnil rfl
        obtain rfl : cs = [] := List.eq_nil_of_length_eq_zero (by simpa using hcs)
        simp [Builtin.copy_, run_underlying hu, Builtin.lenOf, Builtin.firstCells, sizeOf, typeInfo, hq, storeCells, World.setCells]
      | some x =>
        have hl := run_loadCells_list (P := P) w x cs (hsrc x rfl)
        rw [hcs] at hl
        simp [Builtin.copy_, run_underlying hu, Builtin.lenOf, Builtin.firstCells, sizeOf, typeInfo, hq, hi, hl, hst]
    unfold Oper.wp
    simp [execOp, ho, resolve, invoke, builtin, hd, hs, hrun, Result.andThen]
    exact hK _ _ (h _ (Lib.hid hend) (Lib.hid (setCells_below hBg cs 0 w hb)))
theorem row_whole2 {w : World} {base n g : Nat} {T : TypeId} {xs : List Value} (h : w.ownsRow base T 2 (.slice (some ⟨g, 0, none⟩) n n) n xs) : ∃ cur : Array Value, w.heap[g]? = some (.cells cur T (0, 0)) ∧ cur.size = n * 2 := by
  obtain ⟨k1, ⟨e, -⟩ | ⟨g', cap', cur, e, k3, k4, k5, k6, k7, k8⟩⟩ := h
  · cases e
  · injection e with e1 _ e2
    injection e1 with e1
    injection e1 with e1
    subst e1 e2
    exact ⟨cur, k4, k7⟩
theorem hst_size : (Try.prog.info? 51).map (·.size) = some 2 := by kernel_rfl
set_option maxHeartbeats 4000000 in
theorem c_copied (A : Option Addr) (c : Nat) (l : List Hst) (hm : l.length ≤ 1000) (w : World) (h : Rv 2 hstV w A c l) :
    Calls Try.prog 54 #[.slice A l.length c] w fun e w' => e = .returned (.slice (some ⟨w.heap.size, 0, none⟩) l.length l.length) ∧ w'.heap[w.heap.size]? = some (.cells (cellsV 2 hstV l).toArray 51 (0, 0)) ∧ Below w.heap.size w w' := by
  have H := Lib.hid h
  have HN := Lib.hid (fun (e : A = none) => (by subst e; have := h.none_nil; rw [this.1]; rfl : l.length = 0))
  obtain ⟨i0, hi0, hz0, hz1, hz2⟩ := info_parts hst_info
  clear h
  go_enter Try.func54, Try.ntmps54
  go_wp2_with first
    | (at_make; refine wpList_make_full (P := Try.prog) _ rfl _ _ 33 rfl w.heap.size 51 i0 (.agg #[.int .u8 0, .int .i64 0]) 2 Try.underlying33 hi0 hz0 hz1 .i64 .i64 _ _ l.length rfl rfl rfl rfl (by rw [hz2]; omega) (by unfold maxLen; omega) (Nat.le_refl _) ?_; intro w1 ho1 hg1; obtain ⟨cur, hcur, hsz⟩ := row_whole2 ho1; have HB1 := Lib.hid ((Below.refl w.heap.size w).grown hg1 (Nat.le_refl _) (fun k hk => by cases hk)); clear ho1 hg1)
    | (refine wpList_copy2 rfl (.tmp 7) (.tmp 8) _ _ rfl 51 Try.underlying33 hst_size w.heap.size l.length l.length c A rfl rfl cur 51 hcur (cellsV 2 hstV l) (cellsV_len _) hsz HN.out ((H.out.on HB1.out (Nat.le_refl _)).cells (by omega)) (cellsV_one hst_one _) w.heap.size w HB1.out (Nat.le_refl _) ?_; intro w2 hrow hb2)
  go_wp2_with (fail)
  go_ret
  exact ⟨rfl, hrow.out, hb2.out⟩
set_option maxHeartbeats 2000000 in
theorem c_cloneReps (A : Option Addr) (c : Nat) (l : List Rep) (hm : l.length ≤ 1000) (w : World) (h : Rv 2 repV w A c l) : Calls Try.prog 58 #[.slice A l.length c] w fun e w' => ∃ v', e = .returned v' ∧ w'.ownsRow w.heap.size 41 2 v' l.length (cellsV 2 repV l) ∧ Below w.heap.size w w' := by
  obtain ⟨i0, hi0, hz0, hz1, hz2⟩ := info_parts rep_info
  have q22 : ∀ (w : World) (a : Option Addr) (n c n' c' : Nat), (binOp .eql 34 (.slice a n c) (.slice none n' c')).run Try.prog w = .ok (.bool a.isNone) w := fun w a n c n' c' => Lib.run_eql_slice_nil w _ _ a n c n' c' Try.underlying34
  cases A with
  | none =>
    obtain ⟨rfl, rfl⟩ := h.none_nil
    clear h
    go_enter Try.func58, Try.ntmps58
    go_wp2
    go_ret
    exact ⟨_, rfl, World.ownsRow_nil _ _ _ _, Below.refl _ _⟩
  | some ad =>
    have H := Lib.hid h
    clear h
    go_enter Try.func58, Try.ntmps58
    go_wp2_with (at_builtin; refine wpList_append_own _ rfl _ _ 34 rfl w.heap.size 41 i0 (.agg #[.int .i64 0, .int .i64 0]) 2 16 Try.underlying34 hi0 hz0 hz1 hz2 rfl (by omega) _ _ _ rfl (World.ownsRow_made w #[] 0 (Nat.le_refl _) (Nat.zero_le _) (by simp)) ad l.length c (cellsV 2 repV l) rfl ?qc1 ?qc2 ?qc3 ?qc4 ?qc5 ?qc6 ?_)
    case qc1 => exact cellsV_len _
    case qc2 => exact (H.out.on ((Below.refl w.heap.size w).alloc (Nat.le_refl _) _) (Nat.le_refl _)).cells (by omega) ad rfl
    case qc3 => exact cellsV_one rep_one _
    case qc4 => unfold maxLen; omega
    case qc5 => omega
    case qc6 => simp
    intro v' w1 hown hgrow hnil
    have HO := Lib.hid (show w1.ownsRow w.heap.size 41 2 v' l.length (cellsV 2 repV l) by simpa using hown)
    have HB := Lib.hid (((Below.refl w.heap.size w).alloc (Nat.le_refl _) _).grown hgrow (by simp) (by intro k hk; simp [Value.ownBlock] at hk; omega))
    clear hown hgrow hnil
    go_wp2
    go_ret
    exact ⟨_, rfl, HO.out, HB.out⟩
end Go.Proofs.Ytplncglgolhfaaa
