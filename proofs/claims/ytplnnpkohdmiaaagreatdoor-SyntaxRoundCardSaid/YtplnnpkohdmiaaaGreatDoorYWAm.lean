/-
  DERIVED. Several texts in one.
-/
import Derived.Test.YtplnnpkohdmiaaaGreatDoorYFAm
import Derived.Test.YtplnnpkohdmiaaaGreatDoorYSAm
import Derived.Test.YtplnnpkohdmiaaaGreatDoorYPDm
set_option linter.unusedVariables false
set_option linter.unusedSimpArgs false

/- DERIVED. The landed printer's leaves: names, number, sign. -/
namespace Go.Proofs.YtplnnpkohdmiaaaGreatDoor
open Go.RowKit
set_option maxRecDepth 100000

/-- The printer in block wb holds the slice v, its own, which reads as the tokens. -/
def WSt (w : World) (wb : Nat) (v : Value) (l : List Tok) : Prop := w.heap[wb]? = some (.cells #[v] 40 (0, 0)) ∧ w.ownsRow (wb + 1) 62 4 v l.length (tokCells l)
/-- All blocks but the printer's and rows of tokens stand; those below the printer's all stand. -/
structure PK (wb : Nat) (w w' : World) : Prop where
  os : w'.os = w.os
  tape : w'.tape = w.tape
  output : w'.output = w.output
  size : w.heap.size ≤ w'.heap.size
  low : ∀ k, k < wb → k < w.heap.size → w'.heap[k]? = w.heap[k]?
  block : ∀ k, k < w.heap.size → k ≠ wb → (∀ cs fr, w.heap[k]? ≠ some (.cells cs 62 fr)) → w'.heap[k]? = w.heap[k]?
theorem PK.refl (wb : Nat) (w : World) : PK wb w w := ⟨rfl, rfl, rfl, Nat.le_refl _, fun _ _ _ => rfl, fun _ _ _ _ => rfl⟩
theorem PK.trans {wb : Nat} {a b c : World} (h : PK wb a b) (k : PK wb b c) : PK wb a c :=
  ⟨k.os.trans h.os, k.tape.trans h.tape, k.output.trans h.output, Nat.le_trans h.size k.size, fun i hi hs => (k.low i hi (by have := h.size; omega)).trans (h.low i hi hs),
    fun i hi hn ht => (k.block i (by have := h.size; omega) hn (fun cs fr e => ht cs fr ((h.block i hi hn ht).symm.trans e))).trans (h.block i hi hn ht)⟩
theorem PK.of_below {wb n : Nat} {a b : World} (h : Below n a b) (hn : a.heap.size ≤ n) : PK wb a b := ⟨h.os, h.tape, h.output, h.size, fun i _ hs => h.block i (by omega), fun i hi _ _ => h.block i (by omega)⟩
theorem PK.of_grown {wb : Nat} {a b : World} {v : Value} {n : Nat} {xs : List Value} (hg : a.grownBy b v.ownBlock) (ho : a.ownsRow (wb + 1) 62 4 v n xs) : PK wb a b :=
  ⟨hg.os, hg.tape, hg.output, hg.size, fun i hi hs => hg.block i hs (fun e => by have := (ho.lt i e.symm).1; omega), fun i hi _ ht => hg.block i hi (fun e => by
    obtain ⟨_, ⟨rfl, _⟩ | ⟨g, cap, cur, rfl, _, hg', _⟩⟩ := ho
    · simp [Value.ownBlock] at e
    · simp [Value.ownBlock] at e
      subst e
      exact ht _ _ hg')⟩
theorem PK.set {wb : Nat} {a : World} (v : Value) : PK wb a (a.setCell ⟨wb, 0, none⟩ v) :=
  ⟨rfl, rfl, rfl, by simp, fun i hi _ => heap_setCell_ne _ _ (by omega), fun i _ hn _ => heap_setCell_ne _ _ hn⟩
theorem WSt.below {w w' : World} {wb : Nat} {v : Value} {l : List Tok} (h : WSt w wb v l) (hb : Below w.heap.size w w') : WSt w' wb v l :=
  ⟨(hb.block wb (Array.getElem?_eq_some_iff.1 h.1).1).trans h.1, ownsRow_move h.2 fun g hg => hb.block g (h.2.lt g hg).2⟩
theorem tokCells_app : ∀ (l m : List Tok), tokCells (l ++ m) = tokCells l ++ tokCells m
  | [], m => rfl
  | a :: l, m => by
    show a.cells ++ tokCells (l ++ m) = (a.cells ++ tokCells l) ++ tokCells m
    rw [tokCells_app l m, List.append_assoc]
theorem infoTok : (Tryz.prog.info? 62).map (fun i => (i.zero, i.size, i.bytes)) = some (some (.agg #[.int .u8 0, .string ⟨#[]⟩, .int .i64 0, .int .i64 0]), 4, 40) := by kernel_rfl

set_option maxHeartbeats 4000000 in
theorem c_sign (s : ByteArray) (wb : Nat) (v : Value) (l : List Tok) (hl : l.length ≤ 50000) (w : World) (h : WSt w wb v l) :
    Calls Tryz.prog 33 #[.pointer (some ⟨wb, 0, none⟩), .string s] w fun e w' => e = .returned (.pointer (some ⟨wb, 0, none⟩)) ∧ (∃ v', WSt w' wb v' (l ++ [signT s])) ∧ PK wb w w' := by
  obtain ⟨i0, hi, hz0, hz1, hz2⟩ := info_parts infoTok
  obtain ⟨hb, ho⟩ := id h
  obtain ⟨vA, vn, vc, rfl⟩ := ownsRow_slice ho
  have c0 := one_cell hb
  have f0 := one_frozen hb
  have hlt := cell_lt' c0
  have Hb := Lib.hid hb
  have Ho := Lib.hid ho
  clear h hb ho
  go_enter Tryz.func33, Tryz.ntmps33
  go_wp2_with (at_builtin; go_must (refine wpList_append_lies _ rfl (.tmp 9) (.tmp 12) 38 rfl (wb + 1) 62 i0 (.agg #[.int .u8 0, .string ⟨#[]⟩, .int .i64 0, .int .i64 0]) 4 40 Tryz.underlying38 hi hz0 hz1 hz2 rfl (by decide) (.slice vA vn vc) l.length (tokCells l) rfl (Ho.out.alloc _) ⟨w.heap.size, 0, none⟩ 1 1 (tokCells [signT s]) rfl rfl (World.news_of_block (row_new _ _ _ rfl)) (by intro u hu; simp [tokCells, Tok.cells] at hu; rcases hu with rfl | rfl | rfl | rfl <;> rfl) (by omega) (by simp only [maxLen]; omega) (by omega) (by (try simp) <;> omega) _ rfl ?_; intro g cap w6 hown6 hgrow hat hlt6; have hv : (Value.slice vA vn vc).ownBlock ≠ some wb := ownsRow_nd Ho.out wb (by omega); have k6 := (hgrow.block wb (by (try simp) <;> omega) (fun e => hv e.symm)).trans (row_alloc Hb.out _); have d0 := one_cell k6; have e0 := one_frozen k6; have K6 := Lib.hid k6; have Hown6 := Lib.hid hown6; have Hgrow := Lib.hid hgrow; clear hown6 hgrow hat k6))
  go_ret
  refine ⟨rfl, ⟨_, one_set K6.out _, ?_⟩, ((PK.of_below ((Below.refl w.heap.size w).alloc (Nat.le_refl _) _) (Nat.le_refl _)).trans (PK.of_grown Hgrow.out (Ho.out.alloc _))).trans (PK.set _)⟩
  have ho6 := Hown6.out
  rw [← tokCells_app] at ho6
  rw [List.length_append]
  exact ownsRow_move ho6 fun g' hg' => heap_setCell_ne _ _ (by have := (ho6.lt g' hg').1; omega)

set_option maxHeartbeats 8000000 in
theorem c_wnumber (n : Int) (n0 : -9223372036854775808 ≤ n) (n1 : n ≤ 9223372036854775807) (wb : Nat) (v : Value) (l : List Tok) (hl : l.length ≤ 50000) (w : World) (ht : Tab w) (h : WSt w wb v l) :
    Calls Tryz.prog 36 #[.pointer (some ⟨wb, 0, none⟩), .int .i64 n] w fun e w' => e = .returned (.pointer (some ⟨wb, 0, none⟩)) ∧ (∃ v', WSt w' wb v' (l ++ [numT n])) ∧ PK wb w w' := by
  obtain ⟨i0, hi, hz0, hz1, hz2⟩ := info_parts infoTok
  obtain ⟨hb, ho⟩ := id h
  obtain ⟨vA, vn, vc, rfl⟩ := ownsRow_slice ho
  have c0 := one_cell hb
  have f0 := one_frozen hb
  have hlt := cell_lt' c0
  have H := Lib.hid h
  have HT := Lib.hid (show Tab w.drew from ht.on (Below.refl _ _).drew)
  have hfm : Tryz.prog.follows Departure.mixedOrders = true := by kernel_rfl
  clear h hb ho ht
  go_enter Tryz.func36, Tryz.ntmps36
  go_wp2_with (fail)
  go_region_law (first
    | (go_simp; go_at_call 52; refine (c_numberToken n n0 n1 _ HT.out).mono ?_; rintro e w4 ⟨rfl, b4'⟩; have b4 : Below w.heap.size w w4 := (Below.refl _ _).drew.trans b4'; have z4 := b4.size; have H4 := Lib.hid (H.out.below b4); have c4 := one_cell (H.out.below b4).1; have f4 := one_frozen (H.out.below b4).1; have lt4 : wb < w4.heap.size := (by omega); have B4 := Lib.hid b4; clear b4 b4'; unfold numT Tok.val)
    | (refine step_append_lies _ rfl (.tmp 9) (.tmp 12) 38 rfl (wb + 1) 62 i0 (.agg #[.int .u8 0, .string ⟨#[]⟩, .int .i64 0, .int .i64 0]) 4 40 Tryz.underlying38 hi hz0 hz1 hz2 rfl (by decide) (.slice vA vn vc) l.length (tokCells l) (by simp [Act.eval, Act.put]) (H4.out.2.alloc _) ⟨w4.heap.size, 0, none⟩ 1 1 (tokCells [numT n]) (by simp [Act.eval, Act.put]) rfl (World.news_of_block (row_new _ _ _ rfl)) (by intro u hu; simp [tokCells, Tok.cells] at hu; rcases hu with rfl | rfl | rfl | rfl <;> rfl) (by omega) (by simp only [maxLen]; omega) (by omega) (by (try simp) <;> omega) _ rfl ?_; intro g cap w6 hown6 hgrow hat hlt6; have hv : (Value.slice vA vn vc).ownBlock ≠ some wb := ownsRow_nd H4.out.2 wb (by omega); have k6 := (hgrow.block wb (by (try simp) <;> omega) (fun e => hv e.symm)).trans (row_alloc H4.out.1 _); have d0 := one_cell k6; have e0 := one_frozen k6; have K6 := Lib.hid k6; have Hown6 := Lib.hid hown6; have Hgrow := Lib.hid hgrow; clear hown6 hgrow hat k6))
  all_goals go_wp2_with (fail)
  all_goals go_ret
  all_goals (
    refine ⟨rfl, ⟨_, one_set K6.out _, ?_⟩, (((PK.of_below B4.out (Nat.le_refl _)).trans (PK.of_below ((Below.refl w4.heap.size w4).alloc (Nat.le_refl _) _) (Nat.le_refl _))).trans (PK.of_grown Hgrow.out (H4.out.2.alloc _))).trans (PK.set _)⟩
    have ho6 := Hown6.out
    rw [← tokCells_app] at ho6
    rw [List.length_append]
    exact ownsRow_move ho6 fun g' hg' => heap_setCell_ne _ _ (by have := (ho6.lt g' hg').1; omega))
end Go.Proofs.YtplnnpkohdmiaaaGreatDoor

/- DERIVED. The landed printer's names. -/
namespace Go.Proofs.YtplnnpkohdmiaaaGreatDoor
open Go.RowKit
set_option maxRecDepth 100000

/-- Between two rounds of names. -/
def NmRel (ss : List ByteArray) (l : List Tok) (wb : Nat) (w : World) (i : Value) (wr : World) : Prop :=
  ∃ (k : Nat) (v : Value), k ≤ ss.length ∧ i = .int .i64 k ∧ WSt wr wb v (l ++ (ss.take k).map nameT) ∧ PK wb w wr

set_option maxHeartbeats 8000000 in
theorem c_names (ss : List ByteArray) (u : Value) (ok : Nat → Prop) (wb : Nat) (v : Value) (l : List Tok) (hl : l.length + ss.length ≤ 50000) (w : World) (h : WSt w wb v l) (hk : ∀ W, PK wb w W → StrSl W ok u ss) :
    Calls Tryz.prog 32 #[.pointer (some ⟨wb, 0, none⟩), u] w fun e w' => e = .returned (.pointer (some ⟨wb, 0, none⟩)) ∧ (∃ v', WSt w' wb v' (l ++ ss.map nameT)) ∧ PK wb w w' := by
  obtain ⟨i0, hi, hz0, hz1, hz2⟩ := info_parts infoTok
  obtain ⟨A, c, rfl, h2, h3, -⟩ := hk w (PK.refl _ _)
  unfold maxLen at h3
  have H := Lib.hid h
  have HK := Lib.hid hk
  have hfm : Tryz.prog.follows Departure.mixedOrders = true := by kernel_rfl
  clear h hk
  go_enter Tryz.func32, Tryz.ntmps32
  go_wp2_with (fail)
  go_loopw [9] (fun i wr => NmRel ss l wb w i wr) (fun i wr => ss.length - (intOf i).toNat)
  case atStart => exact ⟨0, v, Nat.zero_le _, rfl, by simpa using H.out, PK.refl _ _⟩
  case round =>
    obtain ⟨k, v, hk, rfl, hW, hP⟩ := hrel
    by_cases hlt : k < ss.length
    · obtain ⟨b1, o1, c1, e1, -, -, q0⟩ := (HK.out _ hP).at_ hlt
      injection e1 with e1 _ e1'
      subst e1 e1'
      have htk : (ss.take (k + 1)).map nameT = (ss.take k).map nameT ++ [nameT ss[k]] := by rw [List.take_add_one, List.getElem?_eq_getElem hlt, List.map_append]; rfl
      have hlk : (l ++ (ss.take k).map nameT).length ≤ 50000 := by simp; omega
      obtain ⟨m, hm⟩ : ∃ m, m = l ++ (ss.take k).map nameT := ⟨_, rfl⟩
      rw [← hm] at hW hlk
      have Htk := Lib.hid (show l ++ (ss.take (k + 1)).map nameT = m ++ [nameT ss[k]] from by rw [htk, hm, List.append_assoc])
      clear hm htk
      obtain ⟨hb, ho⟩ := id hW
      obtain ⟨vA, vn, vc, rfl⟩ := ownsRow_slice ho
      have c0 := one_cell hb
      have f0 := one_frozen hb
      have hltb := cell_lt' c0
      have lt1 := cell_lt' q0
      have HW := Lib.hid hW
      have HP := Lib.hid hP
      clear hW hb ho hP
      generalize ss[k] = s at q0 Htk
      go_wp2_with (fail)
      go_region_law (first
        | (go_simp; go_at_call 51; refine (c_nameToken s _).mono ?_; rintro e w4 ⟨rfl, b4'⟩; have b4 : Below wr.heap.size wr w4 := (Below.refl _ _).drew.trans b4'; have z4 := b4.size; have H4 := Lib.hid (HW.out.below b4); have c4 := one_cell (HW.out.below b4).1; have f4 := one_frozen (HW.out.below b4).1; have lt4 : wb < w4.heap.size := (by omega); have B4 := Lib.hid b4; clear b4 b4'; unfold nameT Tok.val)
        | (refine step_append_lies _ rfl (.tmp 17) (.tmp 20) 38 rfl (wb + 1) 62 i0 (.agg #[.int .u8 0, .string ⟨#[]⟩, .int .i64 0, .int .i64 0]) 4 40 Tryz.underlying38 hi hz0 hz1 hz2 rfl (by decide) (.slice vA vn vc) m.length (tokCells m) (by simp [Act.eval, Act.put]) (H4.out.2.alloc _) ⟨w4.heap.size, 0, none⟩ 1 1 (tokCells [nameT s]) (by simp [Act.eval, Act.put]) rfl (World.news_of_block (row_new _ _ _ rfl)) (by intro u hu; simp [tokCells, Tok.cells] at hu; rcases hu with rfl | rfl | rfl | rfl <;> rfl) (by omega) (by simp only [maxLen]; omega) (by omega) (by (try simp) <;> omega) _ rfl ?_; intro g cap w6 hown6 hgrow hat hlt6; have hv : (Value.slice vA vn vc).ownBlock ≠ some wb := ownsRow_nd H4.out.2 wb (by omega); have k6 := (hgrow.block wb (by (try simp) <;> omega) (fun e => hv e.symm)).trans (row_alloc H4.out.1 _); have d0 := one_cell k6; have e0 := one_frozen k6; have K6 := Lib.hid k6; have Hown6 := Lib.hid hown6; have Hgrow := Lib.hid hgrow; clear hown6 hgrow hat k6))
      all_goals go_wp2_with (fail)
      all_goals (
        refine ⟨⟨k + 1, _, by omega, by go_num, ⟨one_set K6.out _, ?_⟩, HP.out.trans ((((PK.of_below B4.out (Nat.le_refl _)).trans (PK.of_below ((Below.refl w4.heap.size w4).alloc (Nat.le_refl _) _) (Nat.le_refl _))).trans (PK.of_grown Hgrow.out (H4.out.2.alloc _))).trans (PK.set _))⟩, by simp [intOf]; omega⟩
        have ho6 := Hown6.out
        rw [← tokCells_app] at ho6
        rw [Htk.out, List.length_append]
        exact ownsRow_move ho6 fun g' hg' => heap_setCell_ne _ _ (by have := (ho6.lt g' hg').1; omega))
    · have hkl : ss.take k = ss := List.take_of_length_le (by omega)
      rw [hkl] at hW
      have HW := Lib.hid hW
      have HP := Lib.hid hP
      clear hW hP hkl
      go_wp2_with (fail)
      go_ret
      exact ⟨rfl, ⟨_, HW.out⟩, HP.out⟩
end Go.Proofs.YtplnnpkohdmiaaaGreatDoor

/- DERIVED. The landed printer's item: cores (a trial of the method). -/
namespace Go.Proofs.YtplnnpkohdmiaaaGreatDoor
open Go.RowKit
set_option maxRecDepth 100000

theorem PK.low_ {wb : Nat} {w w' : World} (h : PK wb w w') (hw : wb ≤ w.heap.size) : Below wb w w' := ⟨h.os, h.tape, h.output, h.size, fun k hk => h.low k hk (by omega)⟩
theorem PK.row {wb b : Nat} {w w' : World} {cs : Array Value} {T : TypeId} {fr : Nat × Nat} (h : PK wb w w') (hb : w.heap[b]? = some (.cells cs T fr)) (hT : T ≠ 62) (hn : b ≠ wb) : w'.heap[b]? = some (.cells cs T fr) :=
  (h.block b (Array.getElem?_eq_some_iff.1 hb).1 hn (fun cs' fr' e => by rw [hb] at e; injection e with e; injection e with _ e _; exact hT e)).trans hb
theorem strs_one {wb b : Nat} {w : World} {s : ByteArray} (hb : w.heap[b]? = some (.cells #[.string s] 9 (0, 0))) (hn : b ≠ wb) : ∀ W, PK wb w W → StrSl W (fun _ => True) (.slice (some ⟨b, 0, none⟩) 1 1) [s] := fun W h => by
  have hr := h.row hb (by decide) hn
  exact ⟨_, 1, rfl, Nat.le_refl _, by decide, fun _ => ⟨b, 0, rfl, trivial, fun j u hj => by
    cases j with
    | zero => simp at hj; subst hj; simp [World.cell?, hr]
    | succ j => simp at hj⟩⟩
def TabW (wb : Nat) (w : World) : Prop := Lib.TabBelow Tryz.prog wb w "internal/strconv.uint64pow10" .u64 Lib.pow10Tab
theorem TabW.tab {wb : Nat} {w : World} (h : TabW wb w) (hw : wb ≤ w.heap.size) : Tab w := ⟨wb, hw, h⟩
theorem TabW.pk {wb : Nat} {w w' : World} (h : TabW wb w) (hp : PK wb w w') (hw : wb ≤ w.heap.size) : TabW wb w' := h.on (hp.low_ hw)

set_option maxHeartbeats 8000000 in
theorem c_item6 (c : Cl) (hk : c.kind = 6) (ha : I64 c.a) (vn vi : Value) (wb : Nat) (v : Value) (l : List Tok) (hl : l.length ≤ 49000) (w : World) (ht : TabW wb w) (h : WSt w wb v l) (hvn : ∃ A m p, vn = .slice A m p) (hvi : ∃ A m p, vi = .slice A m p) :
    Calls Tryz.prog 34 #[.pointer (some ⟨wb, 0, none⟩), .agg #[.int .u8 c.kind, vn, .int .u8 c.dom, .int .i64 c.idx, .int .i64 c.a, .int .i64 c.b, vi, .int .i64 c.off]] w fun e w' => e = .returned (.tuple #[]) ∧ (∃ v', WSt w' wb v' (l ++ [nameT ⟨#[99, 111, 114, 101, 115]⟩, numT c.a, signT ⟨#[59]⟩])) ∧ PK wb w w' := by
  obtain ⟨A1, m1, p1, rfl⟩ := hvn
  obtain ⟨A2, m2, p2, rfl⟩ := hvi
  rw [hk]
  have hwb : wb < w.heap.size := (Array.getElem?_eq_some_iff.1 h.1).1
  obtain ⟨w1, hw1⟩ : ∃ w1, w1 = w.alloc (.cells #[.int .u8 6, .slice A1 m1 p1, .int .u8 c.dom, .int .i64 c.idx, .int .i64 c.a, .int .i64 c.b, .slice A2 m2 p2, .int .i64 c.off] 36) := ⟨_, rfl⟩
  have b1 : Below w.heap.size w w1 := by rw [hw1]; exact (Below.refl _ _).alloc (Nat.le_refl _) _
  have hr : w1.heap[w.heap.size]? = some (.cells #[.int .u8 6, .slice A1 m1 p1, .int .u8 c.dom, .int .i64 c.idx, .int .i64 c.a, .int .i64 c.b, .slice A2 m2 p2, .int .i64 c.off] 36 (0, 0)) := by rw [hw1]; exact row_new _ _ _ rfl
  have hsz : w1.heap.size = w.heap.size + 1 := by rw [hw1]; simp
  have hT1 : TabW wb w1 := ht.on (b1.mono (by omega))
  have hA1 : ∀ X B, Below w1.heap.size w1 X → B ≠ wb → X.heap[B]? = some (.cells #[.string ⟨#[99, 111, 114, 101, 115]⟩] 9 (0, 0)) → Calls Tryz.prog 32 #[.pointer (some ⟨wb, 0, none⟩), .slice (some ⟨B, 0, none⟩) 1 1] X fun e w' => e = .returned (.pointer (some ⟨wb, 0, none⟩)) ∧ (∃ v', WSt w' wb v' (l ++ [nameT ⟨#[99, 111, 114, 101, 115]⟩])) ∧ PK wb w1 w' :=
    fun X B hb hB hrow => (c_names [⟨#[99, 111, 114, 101, 115]⟩] _ (fun _ => True) wb v l (by simp; omega) X ((h.below b1).below hb) (strs_one hrow hB)).mono fun e w' ⟨h1, h2, h3⟩ => ⟨h1, h2, (PK.of_below hb (Nat.le_refl _)).trans h3⟩
  have hA2 : ∀ X v', WSt X wb v' (l ++ [nameT ⟨#[99, 111, 114, 101, 115]⟩]) → PK wb w1 X → Calls Tryz.prog 36 #[.pointer (some ⟨wb, 0, none⟩), .int .i64 c.a] X fun e w' => e = .returned (.pointer (some ⟨wb, 0, none⟩)) ∧ (∃ v', WSt w' wb v' ((l ++ [nameT ⟨#[99, 111, 114, 101, 115]⟩]) ++ [numT c.a])) ∧ PK wb w1 w' :=
    fun X v' hX hP => (c_wnumber c.a ha.1 ha.2 wb v' _ (by simp; omega) X ((hT1.pk hP (by omega)).tab (by have := hP.size; omega)) hX).mono fun e w' ⟨h1, h2, h3⟩ => ⟨h1, h2, hP.trans h3⟩
  have HA2 := Lib.hid hA2
  have HA1 := Lib.hid hA1
  have Hr := Lib.hid hr
  have HB1 := Lib.hid b1
  obtain ⟨x0, x1, x2, x3, x4, x5, x6, x7⟩ := eight_cells hr
  have hfm : Tryz.prog.follows Departure.mixedOrders = true := by kernel_rfl
  clear hA1 hA2 hr ht h hT1
  go_enter Tryz.func34, Tryz.ntmps34
  go_wp2_with (fail)
  rw [← hw1]
  clear hw1
  go_region_law (first
    | (go_simp; go_at_call 32; refine (HA1.out _ _ (by repeat (first | with_reducible exact Below.refl _ _ | with_reducible refine Below.alloc ?_ (by (try simp) <;> omega) _ | with_reducible refine Below.drew ?_)) (by omega) (by first | exact row_new _ _ _ (by first | (simp; done) | omega) | exact row_drew (row_new _ _ _ (by first | (simp; done) | omega)))).mono ?_; rintro e w2 ⟨rfl, ⟨v2, hW2⟩, hP2⟩; have hr2 := hP2.row Hr.out (by decide) (by omega); obtain ⟨y0, y1, y2, y3, y4, y5, y6, y7⟩ := eight_cells hr2; have HW2 := Lib.hid hW2; have HP2 := Lib.hid hP2; clear hW2 hP2 hr2)
    | (go_simp; go_at_call 36; refine (HA2.out _ _ HW2.out HP2.out).mono ?_; rintro e w3 ⟨rfl, ⟨v3, hW3⟩, hP3⟩; have HW3 := Lib.hid hW3; have HP3 := Lib.hid hP3; clear hW3 hP3))
  all_goals go_wp2_with (go_at_call 33; refine (c_sign ⟨#[59]⟩ wb _ _ (by simp; omega) _ HW3.out).mono ?_; rintro e w4 ⟨rfl, ⟨v4, hW4⟩, hP4⟩; have HW4 := Lib.hid hW4; have HP4 := Lib.hid hP4; clear hW4 hP4)
  all_goals go_end0
  all_goals exact ⟨rfl, ⟨v4, by simpa [List.append_assoc] using HW4.out⟩, (PK.of_below HB1.out (Nat.le_refl _)).trans (HP3.out.trans HP4.out)⟩
end Go.Proofs.YtplnnpkohdmiaaaGreatDoor
