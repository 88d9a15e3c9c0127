/-
  DERIVED. Several texts in one.
-/
import Derived.Test.YtplnnpkohdmiaaaGreatDoorYPFm
import Derived.Test.YtplnnpkohdmiaaaGreatDoorYKm
import Derived.Lib.AppendIntMem
import Derived.Lib.ItoaLen
import Derived.BigQuiet
set_option linter.unusedVariables false
set_option linter.unusedSimpArgs false

/- DERIVED. The landed leaves of Formed and Print: nameToken, numberToken, isToken, isName, fitsNumber, all over strings. -/
namespace Go.Proofs.YtplnnpkohdmiaaaGreatDoor
open Go.RowKit
set_option maxRecDepth 100000

/-- The table that strconv.Itoa reads is as it was laid, whatever is done behind. -/
def Tab (w : World) : Prop := ∃ B, B ≤ w.heap.size ∧ Lib.TabBelow Tryz.prog B w "internal/strconv.uint64pow10" .u64 Lib.pow10Tab
theorem Tab.on {w w' : World} (h : Tab w) (hb : Below w.heap.size w w') : Tab w' := by
  obtain ⟨B, h1, h2⟩ := h
  exact ⟨B, Nat.le_trans h1 hb.size, h2.on (hb.mono h1)⟩
theorem Tab.alloc {w : World} (h : Tab w) (o : Obj) : Tab (w.alloc o) := h.on ((Below.refl _ _).alloc (Nat.le_refl _) _)
theorem Tab.of {w : World} (h : Lib.TabIs Tryz.prog w "internal/strconv.uint64pow10" .u64 Lib.pow10Tab) : Tab w := ⟨_, Nat.le_refl _, Lib.tabBelow_of_tabIs h⟩
theorem below_grow (w : World) (k : Nat) (os : Array Obj) : Below w.heap.size w (Sort.grow (w.drewN k) os) := by
  refine ⟨rfl, rfl, rfl, ?_, fun i hi => ?_⟩
  · show w.heap.size ≤ (w.heap ++ os).size
    simp
  · show (w.heap ++ os)[i]? = w.heap[i]?
    rw [Array.getElem?_append_left hi]

def itoaB (n : Int) : ByteArray := ⟨(Lib.itoa n).toArray⟩
theorem c_Itoa (n : Int) (h0 : -9223372036854775808 ≤ n) (h1 : n ≤ 9223372036854775807) (w : World) (ht : Tab w) :
    Calls Tryz.prog 71 #[.int .i64 n] w fun e w' => e = .returned (.string (itoaB n)) ∧ Below w.heap.size w w' := by
  obtain ⟨B, h2, h3⟩ := ht
  refine (Tryz.strconv_Itoa n h0 h1 w h3.here).mono ?_
  rintro e w' ⟨rfl, k, os, rfl⟩
  exact ⟨rfl, below_grow _ _ _⟩

def nameT (s : ByteArray) : Tok := ⟨1, s, 0, 0⟩
def numT (n : Int) : Tok := ⟨2, itoaB n, n, 0⟩
def signT (s : ByteArray) : Tok := ⟨3, s, 0, 0⟩

theorem c_nameToken (s : ByteArray) (w : World) : Calls Tryz.prog 51 #[.string s] w fun e w' => e = .returned (nameT s).val ∧ Below w.heap.size w w' := by
  go_enter Tryz.func51, Tryz.ntmps51
  go_wp2
  exact bodyPost_ret (v := .agg #[.int .u8 1, .string s, .int .i64 0, .int .i64 0]) (by simp [results, Tryz.results51, go_sem]) rfl ⟨rfl, (Below.refl _ _).alloc (Nat.le_refl _) _⟩

theorem c_numberToken (n : Int) (h0 : -9223372036854775808 ≤ n) (h1 : n ≤ 9223372036854775807) (w : World) (ht : Tab w) : Calls Tryz.prog 52 #[.int .i64 n] w fun e w' => e = .returned (numT n).val ∧ Below w.heap.size w w' := by
  have HT := Lib.hid ht
  clear ht
  go_enter Tryz.func52, Tryz.ntmps52
  go_wp2_with (go_at_call 71; refine (c_Itoa n h0 h1 _ (HT.out.alloc _)).mono ?_; rintro e w1 ⟨rfl, b1⟩; have k0 := four_new b1; obtain ⟨c0, c1, c2, c3⟩ := four_cells k0; obtain ⟨f0, f1, f2, f3⟩ := four_frozen k0; have B1 := Lib.hid b1; clear b1 k0)
  refine bodyPost_ret (v := .agg #[.int .u8 2, .string (itoaB n), .int .i64 n, .int .i64 0]) (by simp [results, Tryz.results52, go_sem, c0, c1, c2, c3]) rfl ⟨rfl, ?_⟩
  have hB : Below w.heap.size w w1 := ((Below.refl _ _).alloc (Nat.le_refl _) _).trans (B1.out.mono (by simp))
  repeat (first | with_reducible exact hB | with_reducible refine Below.setCell ?_ (by (try simp) <;> omega) _)

theorem printOf_one (t : Tok) : ((printOf [t]).2 == 0) = validT t := by
  unfold printOf
  by_cases hv : validT t = true
  · have hall : [t].all validT = true := by simp [hv]
    have hj : (joinB [t]).size ≤ 4096 := by
      have h1 := valid_len t hv
      have h2 : (joinB [t]).size = t.text.size := by
        show (Lib.join (([t].map (·.text)).map (·.data.toList)) [32]).toArray.size = _
        rw [List.map_cons, List.map_cons, Lib.join_cons, List.map_nil, List.map_nil]
        rw [show Lib.joinTail [32] [] = [] from rfl, List.append_nil, List.size_toArray, Array.length_toList]
        rfl
      omega
    rw [if_pos hall, if_neg (by omega), hv]
    rfl
  · have hall : ¬ [t].all validT = true := by simp [hv]
    rw [if_neg hall]
    simp only [Bool.not_eq_true] at hv
    rw [hv]
    rfl

theorem c_isToken (t : Tok) (hz : t.text.size ≤ maxLen) (w : World) : Calls Tryz.prog 59 #[t.val] w fun e w' => e = .returned (.bool (validT t)) ∧ Below w.heap.size w w' := by
  rw [← printOf_one]
  have hP := fun v W (hv : TokSl W W.heap.size v [t]) => c_Print v [t] (by simp) (by simpa using hz) W hv
  generalize printOf [t] = p at hP
  obtain ⟨ps, pe⟩ := p
  obtain ⟨kd, tx, nm, off⟩ := t
  dsimp only [Tok.val]
  have HP := Lib.hid hP
  clear hP
  go_enter Tryz.func59, Tryz.ntmps59
  have htk : ∀ (W : World) (b : Nat), b = W.heap.size → TokSl (W.alloc (.cells #[.int .u8 kd, .string tx, .int .i64 nm, .int .i64 off] 62)) (W.alloc (.cells #[.int .u8 kd, .string tx, .int .i64 nm, .int .i64 off] 62)).heap.size (.slice (some ⟨b, 0, none⟩) 1 1) [⟨kd, tx, nm, off⟩] := fun W b hb => by
    subst hb
    refine ⟨_, 1, rfl, Nat.le_refl _, by decide, fun _ => ⟨W.heap.size, 0, rfl, by simp, fun j u hj => ?_⟩⟩
    have hb := row_new W (.cells #[.int .u8 kd, .string tx, .int .i64 nm, .int .i64 off] 62) W.heap.size rfl
    have := World.news_of_block hb j u (by simpa [tokCells, Tok.cells] using hj)
    rw [add0] at this
    rwa [Nat.zero_add]
  have hpe : (pe == 0) = (pe == 0) := rfl
  go_wp2_with (go_at_call 16; refine (HP.out _ _ (htk _ _ (by simp))).mono ?_; rintro e w1 ⟨rfl, b1⟩; have B1 := Lib.hid b1; clear b1)
  go_ret
  refine ⟨rfl, Below.trans ?_ (B1.out.mono (B' := w.heap.size) (by (try simp) <;> omega))⟩
  repeat (first | with_reducible exact Below.refl _ _ | with_reducible refine Below.alloc ?_ (by (try simp) <;> omega) _)

def isNameB (s : ByteArray) : Bool := !isWordB s && validT (nameT s)
theorem c_isName (s : ByteArray) (hz : s.size ≤ maxLen) (w : World) : Calls Tryz.prog 43 #[.string s] w fun e w' => e = .returned (.bool (isNameB s)) ∧ Below w.heap.size w w' := by
  unfold isNameB
  cases hw : isWordB s
  · have Hw := Lib.hid hw
    clear hw
    simp only [Bool.not_false, Bool.true_and]
    go_enter Tryz.func43, Tryz.ntmps43
    go_wp2_with (first | (go_at_call 58; refine (c_isWord s _).mono ?_; rintro e w1 ⟨rfl, rfl⟩; rw [Hw.out]) | (go_at_call 51; refine (c_nameToken s _).mono ?_; rintro e w1 ⟨rfl, b1⟩; have B1 := Lib.hid b1; clear b1) | (go_at_call 59; go_must (refine (c_isToken (nameT s) hz _).mono ?_; rintro e w2 ⟨rfl, b2⟩; have B2 := Lib.hid b2; clear b2)))
    go_ret
    exact ⟨rfl, B1.out.trans (B2.out.mono B1.out.size)⟩
  · have Hw := Lib.hid hw
    clear hw
    go_enter Tryz.func43, Tryz.ntmps43
    go_wp2_with (go_at_call 58; refine (c_isWord s _).mono ?_; rintro e w1 ⟨rfl, rfl⟩; rw [Hw.out])
    go_ret
    exact ⟨rfl, Below.refl _ _⟩

theorem itoaB_size (n : Int) (h0 : -9223372036854775808 ≤ n) (h1 : n ≤ 9223372036854775807) : (itoaB n).size ≤ maxLen := by
  have := Lib.itoa_length_le n h0 h1
  simp only [itoaB, ByteArray.size, maxLen]
  simp
  omega
def fitNumB (n : Int) (there : Bool) : Bool := n == 0 || (there && validT (numT n))
theorem c_fitsNumber (n : Int) (b : Bool) (h0 : -9223372036854775808 ≤ n) (h1 : n ≤ 9223372036854775807) (w : World) (ht : Tab w) : Calls Tryz.prog 44 #[.int .i64 n, .bool b] w fun e w' => e = .returned (.bool (fitNumB n b)) ∧ Below w.heap.size w w' := by
  unfold fitNumB
  cases hn : (n == 0)
  · cases b
    · go_enter Tryz.func44, Tryz.ntmps44
      go_wp2_with (fail)
      go_ret
      exact ⟨rfl, Below.refl _ _⟩
    · have HT := Lib.hid ht
      clear ht
      simp only [Bool.true_and, Bool.false_or]
      go_enter Tryz.func44, Tryz.ntmps44
      go_wp2_with (first | (go_at_call 52; refine (c_numberToken n h0 h1 _ HT.out).mono ?_; rintro e w1 ⟨rfl, b1⟩; have B1 := Lib.hid b1; clear b1) | (go_at_call 59; go_must (refine (c_isToken (numT n) (itoaB_size n h0 h1) _).mono ?_; rintro e w2 ⟨rfl, b2⟩; have B2 := Lib.hid b2; clear b2)))
      go_ret
      exact ⟨rfl, B1.out.trans (B2.out.mono B1.out.size)⟩
  · go_enter Tryz.func44, Tryz.ntmps44
    go_wp2_with (fail)
    go_ret
    exact ⟨rfl, Below.refl _ _⟩

theorem StrSl.below {w w' : World} {ok : Nat → Prop} {v : Value} {l : List ByteArray} (h : StrSl w ok v l) (hb : Below w.heap.size w w') : StrSl w' ok v l := by
  obtain ⟨A, c, h1, h2, h3, h4⟩ := h
  refine ⟨A, c, h1, h2, h3, fun hl => ?_⟩
  obtain ⟨b, o, e, hok, hc⟩ := h4 hl
  exact ⟨b, o, e, hok, fun j s hj => (hb.cell (p := ⟨b, o + j, none⟩) (cell_lt' (hc j s hj))).trans (hc j s hj)⟩
theorem StrSl.at_ {w : World} {ok : Nat → Prop} {v : Value} {l : List ByteArray} (h : StrSl w ok v l) {i : Nat} (hi : i < l.length) : ∃ b o c, v = .slice (some ⟨b, o, none⟩) l.length c ∧ l.length ≤ c ∧ c ≤ maxLen ∧ w.cell? ⟨b, o + i, none⟩ = some (.string l[i]) := by
  obtain ⟨A, c, h1, h2, h3, h4⟩ := h
  obtain ⟨b, o, rfl, hok, hc⟩ := h4 (by omega)
  exact ⟨b, o, c, h1, h2, h3, hc i _ (List.getElem?_eq_getElem hi)⟩

def AllRel (l : List ByteArray) (bv : Bool) (w : World) (i : Value) (wr : World) : Prop :=
  ∃ k : Nat, k ≤ l.length ∧ i = .int .i64 k ∧ bv = (l.drop k).all isNameB ∧ Below w.heap.size w wr

set_option maxHeartbeats 2000000 in
theorem c_allS (v : Value) (l : List ByteArray) (ok : Nat → Prop) (hz : ∀ s ∈ l, s.size ≤ maxLen) (w : World) (h : StrSl w ok v l) :
    Calls Tryz.prog 42 #[v, .func (.func 43) #[] #[]] w fun e w' => e = .returned (.bool (l.all isNameB)) ∧ Below w.heap.size w w' := by
  obtain ⟨A, c, rfl, h2, h3, -⟩ := id h
  have H := Lib.hid h
  have Hz := Lib.hid hz
  unfold maxLen at h3
  clear h hz
  obtain ⟨bv, hbv⟩ : ∃ b, b = l.all isNameB := ⟨_, rfl⟩
  rw [← hbv]
  have Hbv := Lib.hid hbv
  clear hbv
  go_enter Tryz.func42, Tryz.ntmps42
  go_wp2_with (fail)
  go_loopw [9] (fun i wr => AllRel l bv w i wr) (fun i wr => l.length - (intOf i).toNat)
  case atStart => exact ⟨0, Nat.zero_le _, rfl, by rw [Hbv.out]; rfl, Below.refl _ _⟩
  case round =>
    obtain ⟨k, hk, rfl, hbk, hbl⟩ := hrel
    have HB := Lib.hid hbl
    clear hbl
    by_cases hlt : k < l.length
    · obtain ⟨b1, o1, c1, e1, -, -, g0⟩ := (H.out.below HB.out).at_ hlt
      injection e1 with e1 _ e1'
      subst e1 e1'
      have hd : (l.drop k).all isNameB = (isNameB l[k] && (l.drop (k + 1)).all isNameB) := by rw [List.drop_eq_getElem_cons hlt]; rfl
      rw [hd] at hbk
      have hzk := Hz.out l[k] (List.getElem_mem hlt)
      have Hbk := Lib.hid hbk
      have Hzk := Lib.hid hzk
      clear hbk hd hzk
      generalize l[k] = s at g0 Hbk Hzk
      cases hn : isNameB s
      · have Hn := Lib.hid hn
        clear hn
        go_wp2_with (go_at_call 43; refine (c_isName s Hzk.out _).mono ?_; rintro e w1 ⟨rfl, b1⟩; rw [Hn.out]; have B1 := Lib.hid b1; clear b1)
        go_ret
        exact ⟨ret_bool (by rw [Hbk.out, Hn.out]; rfl), HB.out.trans (B1.out.mono HB.out.size)⟩
      · have Hn := Lib.hid hn
        clear hn
        go_wp2_with (go_at_call 43; refine (c_isName s Hzk.out _).mono ?_; rintro e w1 ⟨rfl, b1⟩; rw [Hn.out]; have B1 := Lib.hid b1; clear b1)
        exact ⟨⟨k + 1, by omega, by go_num, by rw [Hbk.out, Hn.out]; rfl, HB.out.trans (B1.out.mono HB.out.size)⟩, by simp [intOf]; omega⟩
    · have hb2 : bv = true := by
        rw [hbk, List.drop_of_length_le (by omega)]; rfl
      have Hb2 := Lib.hid hb2
      clear hb2 hbk
      go_wp2_with (fail)
      go_ret
      exact ⟨ret_bool Hb2.out.symm, HB.out⟩
end Go.Proofs.YtplnnpkohdmiaaaGreatDoor

/- DERIVED. Shapes: the landed maps from kinds to shapes, and what fits them. -/
namespace Go.Proofs.YtplnnpkohdmiaaaGreatDoor
open Go.RowKit
set_option maxRecDepth 100000

structure Shp where
  names : Int
  dom : Bool
  idx : Bool
  a : Bool
  b : Bool
  items : Bool
def Shp.val (s : Shp) : Value := .agg #[.int .i64 s.names, .bool s.dom, .bool s.idx, .bool s.a, .bool s.b, .bool s.items]
def mkEi : List (Int × Shp) → Nat → List MapEntry
  | [], _ => []
  | (k, v) :: l, n => { key := .int .u8 k, val := v.val, born := n } :: mkEi l (n + 1)
def assocI {α : Type} (s : Int) : List (Int × α) → Option α
  | [] => none
  | (k, x) :: l => if k = s then some x else assocI s l
/-- Block b is a map from these numbers to these shapes. -/
def MapSh (w : World) (b : Nat) (tab : List (Int × Shp)) : Prop := ∃ es, w.heap[b]? = some (.map es tab.length) ∧ es.toList = mkEi tab 0
theorem findNow_mi (s : Int) : ∀ (tab : List (Int × Shp)) (n i : Nat),
    (∃ j v, Instr.findNow (.int .u8) (.int .u8 s) (mkEi tab n) i = some (some (j, v.val)) ∧ assocI s tab = some v) ∨ (Instr.findNow (.int .u8) (.int .u8 s) (mkEi tab n) i = some none ∧ assocI s tab = none)
  | [], n, i => .inr ⟨rfl, rfl⟩
  | (k, v) :: l, n, i => by
    by_cases hk : k = s
    · subst hk
      exact .inl ⟨i, v, by simp [mkEi, Instr.findNow, Instr.sameNow], by simp [assocI]⟩
    · have hne : (s == k) = false := by rw [beq_eq_false_iff_ne]; exact fun e => hk e.symm
      rcases findNow_mi s l (n + 1) (i + 1) with ⟨j, v', h1, h2⟩ | ⟨h1, h2⟩
      · exact .inl ⟨j, v', by simp [mkEi, Instr.findNow, Instr.sameNow, hne, h1], by simp [assocI, hk, h2]⟩
      · exact .inr ⟨by simp [mkEi, Instr.findNow, Instr.sameNow, hne, h1], by simp [assocI, hk, h2]⟩
def shp0 : Shp := ⟨0, false, false, false, false, false⟩
theorem run_lookI {P : Program} {t k e : TypeId} (ht : P.underlying t = some (.map k e)) (hk : P.underlying k = some (.int .u8)) {w : World} (hz : (zeroValue e).run P w = .ok shp0.val w) {b : Nat} {tab : List (Int × Shp)} (hm : MapSh w b tab) (s : Int) :
    (Instr.lookup t (.map (some b)) (.int .u8 s) true).run P w = .ok (.tuple #[((assocI s tab).getD shp0).val, .bool (assocI s tab).isSome]) w := by
  obtain ⟨es, hb, he⟩ := hm
  have hc : (Instr.checkKey es.isEmpty 10000 k (.int .u8 s)).run P w = .ok () w := MapKept.run_checkKey (k := .int .u8 s) hk (by simp [MapKept.IsKey]) _ 9999
  rcases findNow_mi s tab 0 0 with ⟨j, v, h1, h2⟩ | ⟨h1, h2⟩
  · rw [← he] at h1
    simp [Instr.lookup, run_underlying ht, MapKept.run_getObj_map hb, hc, MapKept.run_findKey hk h1, h2, Result.andThen]
  · rw [← he] at h1
    simp [Instr.lookup, run_underlying ht, MapKept.run_getObj_map hb, hc, MapKept.run_findKey hk h1, h2, Result.andThen, hz]
theorem mkEi_snoc (k : Int) (v : Shp) : ∀ (tab : List (Int × Shp)) (n : Nat), mkEi (tab ++ [(k, v)]) n = mkEi tab n ++ [{ key := .int .u8 k, val := v.val, born := n + tab.length }]
  | [], n => by simp [mkEi]
  | (k', v') :: l, n => by simp [mkEi, mkEi_snoc k v l (n + 1)]; omega
theorem run_putI {P : Program} {t k e : TypeId} (ht : P.underlying t = some (.map k e)) (hk : P.underlying k = some (.int .u8)) {w : World} {b : Nat} {tab : List (Int × Shp)} (hm : MapSh w b tab) (s : Int) (v : Shp) (hs : assocI s tab = none) :
    ∃ w', (Instr.mapUpdate t (.map (some b)) (.int .u8 s) v.val).run P w = .ok () w' ∧ MapSh w' b (tab ++ [(s, v)]) ∧ w.grownBy w' (some b) := by
  obtain ⟨es, hb, he⟩ := hm
  have hc : (Instr.checkKey false 10000 k (.int .u8 s)).run P w = .ok () w := MapKept.run_checkKey (k := .int .u8 s) hk (by simp [MapKept.IsKey]) false 9999
  have hf : Instr.findNow (.int .u8) (.int .u8 s) es.toList 0 = some none := by
    rw [he]
    rcases findNow_mi s tab 0 0 with ⟨j, v, h1, h2⟩ | ⟨h1, h2⟩
    · rw [hs] at h2; cases h2
    · exact h1
  refine ⟨_, by simp [Instr.mapUpdate, run_underlying ht, MapKept.run_getObj_map hb, hc, MapKept.run_findKey hk hf, MapKept.run_setObj_map _ hb, Result.andThen]; rfl, ⟨es.push { key := .int .u8 s, val := v.val, born := tab.length }, ?_, ?_⟩, ?_⟩
  · have hlt := (Array.getElem?_eq_some_iff.1 hb).1
    simp [hlt]
  · rw [mkEi_snoc, Array.toList_push, he, Nat.zero_add]
  · exact ⟨rfl, rfl, rfl, by simp, fun i hi hne => by
      simp only [Array.getElem?_setIfInBounds]
      rw [if_neg (fun e => hne (by rw [e]))]⟩
theorem MapSh.keep {w w' : World} {b : Nat} {tab : List (Int × Shp)} (h : MapSh w b tab) (H : w'.heap[b]? = w.heap[b]?) : MapSh w' b tab := by
  obtain ⟨es, h1, h2⟩ := h; exact ⟨es, H.trans h1, h2⟩
theorem MapSh.lt {w : World} {b : Nat} {tab : List (Int × Shp)} (h : MapSh w b tab) : b < w.heap.size := by
  obtain ⟨es, h1, h2⟩ := h; exact (Array.getElem?_eq_some_iff.1 h1).1
theorem MapSh.below {w w' : World} {b n : Nat} {tab : List (Int × Shp)} (h : MapSh w b tab) (hb : Below n w w') (hn : w.heap.size ≤ n) : MapSh w' b tab := h.keep (hb.block b (by have := h.lt; omega))
theorem zeroSh (w : World) : (zeroValue 48).run Tryz.prog w = .ok shp0.val w := by kernel_rfl
def clauseSh : List (Int × Shp) := [(1, ⟨1, false, false, false, false, true⟩), (2, ⟨0, true, true, true, true, false⟩), (3, ⟨0, true, true, false, false, false⟩), (4, ⟨0, false, false, true, false, false⟩), (5, ⟨0, false, true, true, false, false⟩)]
theorem c_clauseShapes (w : World) :
    Calls Tryz.prog 18 #[] w fun e w' => e = .returned (.map (some w.heap.size)) ∧ MapSh w' w.heap.size clauseSh ∧ Below w.heap.size w w' := by
  have hmm := @run_makeMap Tryz.prog
  have h0 : MapSh (w.alloc (.map #[] 0)) w.heap.size [] := ⟨#[], row_new _ _ _ rfl, rfl⟩
  obtain ⟨w1, e1, h1, g1⟩ := run_putI Tryz.underlying44 Tryz.underlying32 h0 1 ⟨1, false, false, false, false, true⟩ (by decide)
  dsimp only [Shp.val] at e1
  obtain ⟨w2, e2, h2, g2⟩ := run_putI Tryz.underlying44 Tryz.underlying32 h1 2 ⟨0, true, true, true, true, false⟩ (by decide)
  dsimp only [Shp.val] at e2
  obtain ⟨w3, e3, h3, g3⟩ := run_putI Tryz.underlying44 Tryz.underlying32 h2 3 ⟨0, true, true, false, false, false⟩ (by decide)
  dsimp only [Shp.val] at e3
  obtain ⟨w4, e4, h4, g4⟩ := run_putI Tryz.underlying44 Tryz.underlying32 h3 4 ⟨0, false, false, true, false, false⟩ (by decide)
  dsimp only [Shp.val] at e4
  obtain ⟨w5, e5, h5, g5⟩ := run_putI Tryz.underlying44 Tryz.underlying32 h4 5 ⟨0, false, true, true, false, false⟩ (by decide)
  dsimp only [Shp.val] at e5
  have hm := Lib.hid h5
  have b0 : Below w.heap.size w (w.alloc (.map #[] 0)) := (Below.refl _ _).alloc (Nat.le_refl _) _
  have b1 := b0.grown g1 b0.size (fun k e => by cases e; exact Nat.le_refl _)
  have b2 := b1.grown g2 b1.size (fun k e => by cases e; exact Nat.le_refl _)
  have b3 := b2.grown g3 b2.size (fun k e => by cases e; exact Nat.le_refl _)
  have b4 := b3.grown g4 b3.size (fun k e => by cases e; exact Nat.le_refl _)
  have b5 := b4.grown g5 b4.size (fun k e => by cases e; exact Nat.le_refl _)
  have Hb := Lib.hid b5
  clear h0 h1 h2 h3 h4 h5 g1 g2 g3 g4 g5 b0 b1 b2 b3 b4 b5
  go_enter Tryz.func18, Tryz.ntmps18
  go_wp2
  go_ret
  exact ⟨rfl, hm.out, Hb.out⟩
def itemSh : List (Int × Shp) := [(6, ⟨0, false, false, true, false, false⟩), (7, ⟨0, false, false, true, false, false⟩), (8, ⟨0, false, false, true, false, false⟩), (9, ⟨0, true, false, true, false, false⟩), (10, ⟨9223372036854775807, false, false, false, false, false⟩), (11, ⟨1, false, false, true, false, false⟩), (12, ⟨0, false, false, true, false, false⟩)]
theorem c_itemShapes (w : World) :
    Calls Tryz.prog 19 #[] w fun e w' => e = .returned (.map (some w.heap.size)) ∧ MapSh w' w.heap.size itemSh ∧ Below w.heap.size w w' := by
  have hmm := @run_makeMap Tryz.prog
  have h0 : MapSh (w.alloc (.map #[] 0)) w.heap.size [] := ⟨#[], row_new _ _ _ rfl, rfl⟩
  obtain ⟨w1, e1, h1, g1⟩ := run_putI Tryz.underlying44 Tryz.underlying32 h0 6 ⟨0, false, false, true, false, false⟩ (by decide)
  dsimp only [Shp.val] at e1
  obtain ⟨w2, e2, h2, g2⟩ := run_putI Tryz.underlying44 Tryz.underlying32 h1 7 ⟨0, false, false, true, false, false⟩ (by decide)
  dsimp only [Shp.val] at e2
  obtain ⟨w3, e3, h3, g3⟩ := run_putI Tryz.underlying44 Tryz.underlying32 h2 8 ⟨0, false, false, true, false, false⟩ (by decide)
  dsimp only [Shp.val] at e3
  obtain ⟨w4, e4, h4, g4⟩ := run_putI Tryz.underlying44 Tryz.underlying32 h3 9 ⟨0, true, false, true, false, false⟩ (by decide)
  dsimp only [Shp.val] at e4
  obtain ⟨w5, e5, h5, g5⟩ := run_putI Tryz.underlying44 Tryz.underlying32 h4 10 ⟨9223372036854775807, false, false, false, false, false⟩ (by decide)
  dsimp only [Shp.val] at e5
  obtain ⟨w6, e6, h6, g6⟩ := run_putI Tryz.underlying44 Tryz.underlying32 h5 11 ⟨1, false, false, true, false, false⟩ (by decide)
  dsimp only [Shp.val] at e6
  obtain ⟨w7, e7, h7, g7⟩ := run_putI Tryz.underlying44 Tryz.underlying32 h6 12 ⟨0, false, false, true, false, false⟩ (by decide)
  dsimp only [Shp.val] at e7
  have hm := Lib.hid h7
  have b0 : Below w.heap.size w (w.alloc (.map #[] 0)) := (Below.refl _ _).alloc (Nat.le_refl _) _
  have b1 := b0.grown g1 b0.size (fun k e => by cases e; exact Nat.le_refl _)
  have b2 := b1.grown g2 b1.size (fun k e => by cases e; exact Nat.le_refl _)
  have b3 := b2.grown g3 b2.size (fun k e => by cases e; exact Nat.le_refl _)
  have b4 := b3.grown g4 b3.size (fun k e => by cases e; exact Nat.le_refl _)
  have b5 := b4.grown g5 b4.size (fun k e => by cases e; exact Nat.le_refl _)
  have b6 := b5.grown g6 b5.size (fun k e => by cases e; exact Nat.le_refl _)
  have b7 := b6.grown g7 b6.size (fun k e => by cases e; exact Nat.le_refl _)
  have Hb := Lib.hid b7
  clear h0 h1 h2 h3 h4 h5 h6 h7 g1 g2 g3 g4 g5 g6 g7 b0 b1 b2 b3 b4 b5 b6 b7
  go_enter Tryz.func19, Tryz.ntmps19
  go_wp2
  go_ret
  exact ⟨rfl, hm.out, Hb.out⟩
end Go.Proofs.YtplnnpkohdmiaaaGreatDoor

/- DERIVED. What fits a shape. -/
namespace Go.Proofs.YtplnnpkohdmiaaaGreatDoor
open Go.RowKit
set_option maxRecDepth 100000

theorem wp_region_quiet_F {P : Program} {ι : Type} (F : ι → World) {id : Nat} {Q : Exit → Act → World → Prop} {a : Act} {w : World} {l : List Oper} (hm : P.follows .mixedOrders = true) (hB : Region.lexB .any l.toArray = true) (hC : ∃ i, w.drew = F i)
    (h : wpQuiet P l.toArray (fun w' => ∃ i, w' = F i) (fun a' => ∀ w', (∃ i, w' = F i) → Q .normal a' w') l a) : (Code.region id l.toArray true).wp P Q a w :=
  wp_region_quiet (C := fun w' => ∃ i, w' = F i) hm hB hC (by simpa using h)
/-- The worlds behind W in which the blocks below N stand, as a family. -/
theorem family (N : Nat) (W : World) : ∃ (ι : Type) (F : ι → World), (∀ i, Below N W (F i)) ∧ ∀ W', Below N W W' → ∃ i, W' = F i :=
  ⟨{W' // Below N W W'}, Subtype.val, fun i => i.2, fun W' h => ⟨⟨W', h⟩, rfl⟩⟩
/-- A call whose contract keeps the family. -/
theorem Calls.fam {P : Program} {f : FuncId} {args : Array Value} {ι : Type} {F : ι → World} {W : World} {N : Nat} {v : Value} (hF : ∀ W', Below N W W' → ∃ i, W' = F i) {i : ι} (hi : Below N W (F i)) (hN : N ≤ (F i).heap.size)
    (h : Calls P f args (F i) fun e w' => e = .returned v ∧ Below (F i).heap.size (F i) w') : Calls P f args (F i) fun e w'' => e = .returned v ∧ ∃ j, w'' = F j :=
  h.mono fun e w' ⟨he, hb⟩ => ⟨he, hF w' (hi.trans (hb.mono hN))⟩

theorem six_cells {W : World} {b : Nat} {x0 x1 x2 x3 x4 x5 : Value} {T : TypeId} (h : W.heap[b]? = some (.cells #[x0, x1, x2, x3, x4, x5] T (0, 0))) :
    W.cell? ⟨b, 0, none⟩ = some x0 ∧ W.cell? ⟨b, 1, none⟩ = some x1 ∧ W.cell? ⟨b, 2, none⟩ = some x2 ∧ W.cell? ⟨b, 3, none⟩ = some x3 ∧ W.cell? ⟨b, 4, none⟩ = some x4 ∧ W.cell? ⟨b, 5, none⟩ = some x5 := by simp [World.cell?, h]

def I64 (n : Int) : Prop := -9223372036854775808 ≤ n ∧ n ≤ 9223372036854775807
/-- What a clause's own fields are as values: its items aside. -/
def Cl.own (c : Cl) : Prop := I64 c.idx ∧ I64 c.a ∧ I64 c.b ∧ ∀ s ∈ c.names, s.size ≤ maxLen

theorem neNil (l : List UInt8) : (l != []) = !l.isEmpty := by cases l <;> rfl
/-- Whether the fields of a clause are as a shape says. -/
def fitsB (s : Shp) (c : Cl) : Bool :=
  decide ((c.names.length : Int) ≤ s.names) && (decide (min 1 s.names ≤ (c.names.length : Int)) && (c.names.all isNameB && ((((scB c.dom).toList != []) == s.dom) && ((s.dom || c.dom == 0) && (fitNumB c.idx s.idx && (fitNumB c.a s.a && (fitNumB c.b s.b && (s.items || (c.items.length : Int) == 0))))))))
end Go.Proofs.YtplnnpkohdmiaaaGreatDoor
