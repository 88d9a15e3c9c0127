/-
  DERIVED. Several texts in one.
-/
import Derived.Test.YtplnnpkohdmiaaaGreatDoorYPIm
import Derived.WideMake
import Derived.Test.YtplnnpkohdmiaaaGreatDoorYPPm
set_option linter.unusedVariables false
set_option linter.unusedSimpArgs false

/- DERIVED. The landed parser's maps of readers, and the look-up of a text in them. -/
namespace Go.Proofs.YtplnnpkohdmiaaaGreatDoor
open Go.RowKit
set_option maxRecDepth 100000

def mkEs : List (ByteArray × Value) → Nat → List MapEntry
  | [], _ => []
  | (k, v) :: l, n => { key := .string k, val := v, born := n } :: mkEs l (n + 1)
/-- Block b is a map from these texts. -/
def MapIs (w : World) (b : Nat) (tab : List (ByteArray × Value)) : Prop := ∃ es clock, w.heap[b]? = some (.map es clock) ∧ es.toList = mkEs tab 0

theorem toList_inj {a b : ByteArray} (h : a.toList = b.toList) : a = b := by
  rw [ByteArray.toList_eq, ByteArray.toList_eq] at h
  obtain ⟨x⟩ := a
  obtain ⟨y⟩ := b
  congr
  exact Array.toList_inj.1 h

theorem findNow_mk (s : ByteArray) : ∀ (tab : List (ByteArray × Value)) (n i : Nat),
    (∃ j v, Instr.findNow .string (.string s) (mkEs tab n) i = some (some (j, v)) ∧ assocB s tab = some v) ∨ (Instr.findNow .string (.string s) (mkEs tab n) i = some none ∧ assocB s tab = none)
  | [], n, i => .inr ⟨rfl, rfl⟩
  | (k, v) :: l, n, i => by
    by_cases hk : k.toList = s.toList
    · have e : s = k := (toList_inj hk).symm
      subst e
      refine .inl ⟨i, v, ?_, by simp [assocB]⟩
      simp [mkEs, Instr.findNow, Instr.sameNow, (MapKept.bytes_beq s s).2 rfl]
    · have hne : (s == k) = false := by
        cases h : (s == k) with
        | false => rfl
        | true => exact absurd (by rw [(MapKept.bytes_beq s k).1 h]) hk
      rcases findNow_mk s l (n + 1) (i + 1) with ⟨j, v', h1, h2⟩ | ⟨h1, h2⟩
      · refine .inl ⟨j, v', ?_, by simp [assocB, hk, h2]⟩
        simp [mkEs, Instr.findNow, Instr.sameNow, hne, h1]
      · refine .inr ⟨?_, by simp [assocB, hk, h2]⟩
        simp [mkEs, Instr.findNow, Instr.sameNow, hne, h1]

theorem run_look {P : Program} {t k e : TypeId} (ht : P.underlying t = some (.map k e)) (hk : P.underlying k = some .string) {z : Value} {w : World} (hz : (zeroValue e).run P w = .ok z w) {b : Nat} {tab : List (ByteArray × Value)} (hm : MapIs w b tab) (s : ByteArray) :
    (Instr.lookup t (.map (some b)) (.string s) false).run P w = .ok ((assocB s tab).getD z) w := by
  obtain ⟨es, clock, hb, he⟩ := hm
  have hc : (Instr.checkKey es.isEmpty 10000 k (.string s)).run P w = .ok () w := MapKept.run_checkKey (k := .string s) hk (by simp [MapKept.IsKey]) _ 9999
  rcases findNow_mk s tab 0 0 with ⟨j, v, h1, h2⟩ | ⟨h1, h2⟩
  · rw [← he] at h1
    simp [Instr.lookup, run_underlying ht, MapKept.run_getObj_map hb, hc, MapKept.run_findKey hk h1, h2, Result.andThen]
  · rw [← he] at h1
    simp [Instr.lookup, run_underlying ht, MapKept.run_getObj_map hb, hc, MapKept.run_findKey hk h1, h2, Result.andThen, hz]

theorem mkEs_snoc (k : ByteArray) (v : Value) : ∀ (tab : List (ByteArray × Value)) (n : Nat), mkEs (tab ++ [(k, v)]) n = mkEs tab n ++ [{ key := .string k, val := v, born := n + tab.length }]
  | [], n => by simp [mkEs]
  | (k', v') :: l, n => by simp [mkEs, mkEs_snoc k v l (n + 1)]; omega

/-- The map while it is built: the clock counts the entries. -/
def MapIn (w : World) (b : Nat) (tab : List (ByteArray × Value)) : Prop := ∃ es, w.heap[b]? = some (.map es tab.length) ∧ es.toList = mkEs tab 0
theorem run_put {P : Program} {t k e : TypeId} (ht : P.underlying t = some (.map k e)) (hk : P.underlying k = some .string) {w : World} {b : Nat} {tab : List (ByteArray × Value)} (hm : MapIn w b tab) (s : ByteArray) (v : Value) (hs : assocB s tab = none) :
    ∃ w', (Instr.mapUpdate t (.map (some b)) (.string s) v).run P w = .ok () w' ∧ MapIn w' b (tab ++ [(s, v)]) ∧ w.grownBy w' (some b) := by
  obtain ⟨es, hb, he⟩ := hm
  have hc : (Instr.checkKey false 10000 k (.string s)).run P w = .ok () w := MapKept.run_checkKey (k := .string s) hk (by simp [MapKept.IsKey]) false 9999
  have hf : Instr.findNow .string (.string s) es.toList 0 = some none := by
    rw [he]
    rcases findNow_mk s tab 0 0 with ⟨j, v, h1, h2⟩ | ⟨h1, h2⟩
    · rw [hs] at h2; cases h2
    · exact h1
  refine ⟨_, by simp [Instr.mapUpdate, run_underlying ht, MapKept.run_getObj_map hb, hc, MapKept.run_findKey hk hf, MapKept.run_setObj_map _ hb, Result.andThen]; rfl, ⟨es.push { key := .string s, val := v, born := tab.length }, ?_, ?_⟩, ?_⟩
  · have hlt := (Array.getElem?_eq_some_iff.1 hb).1
    simp [hlt]
  · rw [mkEs_snoc, Array.toList_push, he, Nat.zero_add]
  · exact ⟨rfl, rfl, rfl, by simp, fun i hi hne => by
      simp only [Array.getElem?_setIfInBounds]
      rw [if_neg (fun e => hne (by rw [e]))]⟩

theorem MapIn.is {w : World} {b : Nat} {tab : List (ByteArray × Value)} (h : MapIn w b tab) : MapIs w b tab := by
  obtain ⟨es, h1, h2⟩ := h; exact ⟨es, _, h1, h2⟩
theorem MapIs.keep {w w' : World} {b : Nat} {tab : List (ByteArray × Value)} (h : MapIs w b tab) (H : w'.heap[b]? = w.heap[b]?) : MapIs w' b tab := by
  obtain ⟨es, c, h1, h2⟩ := h; exact ⟨es, c, H.trans h1, h2⟩
theorem MapIs.lt {w : World} {b : Nat} {tab : List (ByteArray × Value)} (h : MapIs w b tab) : b < w.heap.size := by
  obtain ⟨es, c, h1, h2⟩ := h; exact (Array.getElem?_eq_some_iff.1 h1).1
theorem MapIs.ne {w : World} {b pb : Nat} {tab : List (ByteArray × Value)} (h : MapIs w b tab) {cs : Array Value} {T : TypeId} {fr : Nat × Nat} (hp : w.heap[pb]? = some (.cells cs T fr)) : b ≠ pb := by
  obtain ⟨es, c, h1, h2⟩ := h
  intro e
  subst e
  rw [h1] at hp
  cases hp

theorem row_alloc_eq (w : World) (o : Obj) {b : Nat} (hb : b < w.heap.size) : (w.alloc o).heap[b]? = w.heap[b]? :=
  ((Below.refl w.heap.size w).alloc (Nat.le_refl _) o).block b hb
def fv (f : Nat) : Value := .func (.func f) #[] #[]
def clauseFns : List (ByteArray × Value) := [(⟨#[115, 101, 114, 118, 105, 99, 101]⟩, .func (.func 64) #[] #[]), (⟨#[119, 105, 110, 100, 111, 119]⟩, .func (.func 65) #[] #[]), (⟨#[97, 112, 112, 114, 111, 118, 101]⟩, .func (.func 66) #[] #[]), (⟨#[98, 108, 97, 115, 116]⟩, .func (.func 67) #[] #[]), (⟨#[99, 97, 112]⟩, .func (.func 68) #[] #[])]
def itemFns : List (ByteArray × Value) := [(⟨#[99, 111, 114, 101, 115]⟩, .func (.func 100) #[] #[]), (⟨#[114, 101, 112, 108, 105, 99, 97, 115]⟩, .func (.func 101) #[] #[]), (⟨#[108, 101, 97, 115, 116]⟩, .func (.func 102) #[] #[]), (⟨#[115, 112, 114, 101, 97, 100]⟩, .func (.func 103) #[] #[]), (⟨#[97, 112, 97, 114, 116]⟩, .func (.func 104) #[] #[]), (⟨#[110, 101, 97, 114]⟩, .func (.func 105) #[] #[]), (⟨#[102, 105, 114, 109, 119, 97, 114, 101]⟩, .func (.func 106) #[] #[])]

theorem zeroRd (w : World) : (zeroValue 106).run Tryz.prog w = .ok .nilFunc w := by kernel_rfl

theorem c_clauseReaders (w : World) :
    Calls Tryz.prog 49 #[] w fun e w' => e = .returned (.map (some w.heap.size)) ∧ MapIs w' w.heap.size clauseFns ∧ Below w.heap.size w w' := by
  have hmm := @run_makeMap Tryz.prog
  have h0 : MapIn (w.alloc (.map #[] 0)) w.heap.size [] := ⟨#[], row_new _ _ _ rfl, rfl⟩
  obtain ⟨w1, e1, h1, g1⟩ := run_put Tryz.underlying83 Tryz.underlying9 h0 ⟨#[115, 101, 114, 118, 105, 99, 101]⟩ (.func (.func 64) #[] #[]) (by simp [assocB, go_sem])
  obtain ⟨w2, e2, h2, g2⟩ := run_put Tryz.underlying83 Tryz.underlying9 h1 ⟨#[119, 105, 110, 100, 111, 119]⟩ (.func (.func 65) #[] #[]) (by simp [assocB, go_sem])
  obtain ⟨w3, e3, h3, g3⟩ := run_put Tryz.underlying83 Tryz.underlying9 h2 ⟨#[97, 112, 112, 114, 111, 118, 101]⟩ (.func (.func 66) #[] #[]) (by simp [assocB, go_sem])
  obtain ⟨w4, e4, h4, g4⟩ := run_put Tryz.underlying83 Tryz.underlying9 h3 ⟨#[98, 108, 97, 115, 116]⟩ (.func (.func 67) #[] #[]) (by simp [assocB, go_sem])
  obtain ⟨w5, e5, h5, g5⟩ := run_put Tryz.underlying83 Tryz.underlying9 h4 ⟨#[99, 97, 112]⟩ (.func (.func 68) #[] #[]) (by simp [assocB, go_sem])
  have hm := Lib.hid h5.is
  have b0 : Below w.heap.size w (w.alloc (.map #[] 0)) := (Below.refl _ _).alloc (Nat.le_refl _) _
  have b1 := b0.grown g1 b0.size (fun k e => by cases e; exact Nat.le_refl _)
  have b2 := b1.grown g2 b1.size (fun k e => by cases e; exact Nat.le_refl _)
  have b3 := b2.grown g3 b2.size (fun k e => by cases e; exact Nat.le_refl _)
  have b4 := b3.grown g4 b3.size (fun k e => by cases e; exact Nat.le_refl _)
  have b5 := b4.grown g5 b4.size (fun k e => by cases e; exact Nat.le_refl _)
  have Hb := Lib.hid b5
  clear h0 h1 h2 h3 h4 h5 g1 g2 g3 g4 g5 b0 b1 b2 b3 b4 b5
  go_enter Tryz.func49, Tryz.ntmps49
  go_wp2
  go_ret
  exact ⟨rfl, hm.out, Hb.out⟩
theorem c_itemReaders (w : World) :
    Calls Tryz.prog 86 #[] w fun e w' => e = .returned (.map (some w.heap.size)) ∧ MapIs w' w.heap.size itemFns ∧ Below w.heap.size w w' := by
  have hmm := @run_makeMap Tryz.prog
  have h0 : MapIn (w.alloc (.map #[] 0)) w.heap.size [] := ⟨#[], row_new _ _ _ rfl, rfl⟩
  obtain ⟨w1, e1, h1, g1⟩ := run_put Tryz.underlying83 Tryz.underlying9 h0 ⟨#[99, 111, 114, 101, 115]⟩ (.func (.func 100) #[] #[]) (by simp [assocB, go_sem])
  obtain ⟨w2, e2, h2, g2⟩ := run_put Tryz.underlying83 Tryz.underlying9 h1 ⟨#[114, 101, 112, 108, 105, 99, 97, 115]⟩ (.func (.func 101) #[] #[]) (by simp [assocB, go_sem])
  obtain ⟨w3, e3, h3, g3⟩ := run_put Tryz.underlying83 Tryz.underlying9 h2 ⟨#[108, 101, 97, 115, 116]⟩ (.func (.func 102) #[] #[]) (by simp [assocB, go_sem])
  obtain ⟨w4, e4, h4, g4⟩ := run_put Tryz.underlying83 Tryz.underlying9 h3 ⟨#[115, 112, 114, 101, 97, 100]⟩ (.func (.func 103) #[] #[]) (by simp [assocB, go_sem])
  obtain ⟨w5, e5, h5, g5⟩ := run_put Tryz.underlying83 Tryz.underlying9 h4 ⟨#[97, 112, 97, 114, 116]⟩ (.func (.func 104) #[] #[]) (by simp [assocB, go_sem])
  obtain ⟨w6, e6, h6, g6⟩ := run_put Tryz.underlying83 Tryz.underlying9 h5 ⟨#[110, 101, 97, 114]⟩ (.func (.func 105) #[] #[]) (by simp [assocB, go_sem])
  obtain ⟨w7, e7, h7, g7⟩ := run_put Tryz.underlying83 Tryz.underlying9 h6 ⟨#[102, 105, 114, 109, 119, 97, 114, 101]⟩ (.func (.func 106) #[] #[]) (by simp [assocB, go_sem])
  have hm := Lib.hid h7.is
  have b0 : Below w.heap.size w (w.alloc (.map #[] 0)) := (Below.refl _ _).alloc (Nat.le_refl _) _
  have b1 := b0.grown g1 b0.size (fun k e => by cases e; exact Nat.le_refl _)
  have b2 := b1.grown g2 b1.size (fun k e => by cases e; exact Nat.le_refl _)
  have b3 := b2.grown g3 b2.size (fun k e => by cases e; exact Nat.le_refl _)
  have b4 := b3.grown g4 b3.size (fun k e => by cases e; exact Nat.le_refl _)
  have b5 := b4.grown g5 b4.size (fun k e => by cases e; exact Nat.le_refl _)
  have b6 := b5.grown g6 b5.size (fun k e => by cases e; exact Nat.le_refl _)
  have b7 := b6.grown g7 b6.size (fun k e => by cases e; exact Nat.le_refl _)
  have Hb := Lib.hid b7
  clear h0 h1 h2 h3 h4 h5 h6 h7 g1 g2 g3 g4 g5 g6 g7 b0 b1 b2 b3 b4 b5 b6 b7
  go_enter Tryz.func86, Tryz.ntmps86
  go_wp2
  go_ret
  exact ⟨rfl, hm.out, Hb.out⟩

theorem getD_nil (tab : List (ByteArray × Value)) (s : ByteArray) (h : ∀ x ∈ tab, ∃ f, x.2 = .func (.func f) #[] #[]) :
    (assocB s tab = none ∧ (assocB s tab).getD .nilFunc = .nilFunc) ∨ ∃ f, assocB s tab = some (.func (.func f) #[] #[]) ∧ (assocB s tab).getD .nilFunc = .func (.func f) #[] #[] := by
  cases e : assocB s tab with
  | none => exact .inl ⟨rfl, rfl⟩
  | some v =>
    obtain ⟨k, hk⟩ := assocB_mem e
    obtain ⟨f, hf⟩ := h _ hk
    have : v = .func (.func f) #[] #[] := hf
    subst this
    exact .inr ⟨f, rfl, rfl⟩

theorem neqNil (w : World) : (binOp BinOp.neq 106 .nilFunc .nilFunc).run Tryz.prog w = .ok (.bool false) w := by kernel_rfl
theorem neqFun (f : Nat) (w : World) : (binOp BinOp.neq 106 (.func (.func f) #[] #[]) .nilFunc).run Tryz.prog w = .ok (.bool true) w := by kernel_rfl

theorem c_clause1 (t : Tok) (cb mb : Nat) (tab : List (ByteArray × Value)) (htab : ∀ x ∈ tab, ∃ f, x.2 = .func (.func f) #[] #[]) (w : World) (h : w.cell? ⟨cb, 0, none⟩ = some (.map (some mb))) (hm : MapIs w mb tab) :
    Calls Tryz.prog 70 #[t.val, .pointer (some ⟨cb, 0, none⟩)] w fun e w' => e = .returned (.bool (assocB t.text tab).isSome) ∧ Below w.heap.size w w' := by
  obtain ⟨kd, tx, nm, off⟩ := t
  dsimp only [Tok.val]
  have hb := cell_lt' h
  have hm1 := hm.keep (row_alloc_eq w (.cells #[.int .u8 kd, .string tx, .int .i64 nm, .int .i64 off] 62) hm.lt)
  have hlk := run_look Tryz.underlying83 Tryz.underlying9 (zeroRd _) hm1 tx
  rcases getD_nil tab tx htab with ⟨e1, e2⟩ | ⟨f, e1, e2⟩
  all_goals rw [e1]
  all_goals rw [e2] at hlk
  all_goals clear e1 e2 hm hm1
  all_goals have hn1 := neqNil
  all_goals have hn2 := neqFun
  all_goals go_enter Tryz.func70, Tryz.ntmps70
  all_goals go_wp2
  all_goals go_ret
  all_goals exact ⟨rfl, (Below.refl _ _).alloc (Nat.le_refl _) _⟩
end Go.Proofs.YtplnnpkohdmiaaaGreatDoor

/- DERIVED. The landed parser's clause, at each of the readers; the readers that only count. -/
namespace Go.Proofs.YtplnnpkohdmiaaaGreatDoor
open Go.RowKit
set_option maxRecDepth 100000

theorem StrSl.shape {w : World} {ok : Nat → Prop} {v : Value} {l : List ByteArray} (h : StrSl w ok v l) : ∃ A n c, v = .slice A n c := by
  obtain ⟨A, c, rfl, _⟩ := h; exact ⟨_, _, _, rfl⟩
theorem ClSl.shape {w : World} {ok : Nat → Prop} {v : Value} {l : List Cl} (h : ClSl w ok v l) : ∃ A n c, v = .slice A n c := by
  obtain ⟨A, c, rfl, _⟩ := h; exact ⟨_, _, _, rfl⟩
/-- A clause's lists stay while blocks outside them are written and made. -/
theorem ClV.lists {lo lo' hi : Nat} {w w' : World} {vn vi : Value} {ns : List ByteArray} {its : List Cl} (h1 : StrSl w (Btw lo hi) vn ns) (h2 : ClSl w (Btw lo hi) vi its) (hlo : lo' ≤ lo) (hhi : hi ≤ w'.heap.size)
    (H : ∀ b, lo ≤ b → b < hi → w'.heap[b]? = w.heap[b]?) : StrSl w' (Btw lo' w'.heap.size) vn ns ∧ ClSl w' (Btw lo' w'.heap.size) vi its := by
  have hS : Stand (Btw lo hi) (Btw lo' w'.heap.size) w w' := fun b hb => ⟨⟨Nat.le_trans hlo hb.1, Nat.lt_of_lt_of_le hb.2 hhi⟩, H b hb.1 hb.2⟩
  exact ⟨h1.stand hS, h2.stand hS⟩

set_option maxHeartbeats 2000000 in
theorem cp_blast (pb : Nat) (l : List Tok) (en : Int) (w : World) (h : PSt w pb l en) :
    Calls Tryz.prog 67 #[.pointer (some ⟨pb, 0, none⟩)] w (RdPost pb en w (ClV w.heap.size) (pCounted 4 l)) := by
  have hlt := h.lt
  have HP0 := Lib.hid h
  have HK0 := Lib.hid (KB.refl w.heap.size pb w)
  clear h
  cases hq : pCounted 4 l with
  | error r =>
    go_enter Tryz.func67, Tryz.ntmps67
    go_wp2_with (fail)
    go_at_call 89
    refine (cp_counted pb 4 l en _ (by repeat (first | with_reducible exact HP0.out | with_reducible refine PSt.setNew ?_ (by omega) _ | with_reducible refine PSt.kept ?_ (World.grownBy_alloc _ _ none) (by simp)))).mono ?_
    rw [hq]
    rintro e w1 h
    obtain ⟨k, P, rfl⟩ := h.error
    have kk : KB w.heap.size pb w w1 := by refine KB.trans ?_ (k.mono (by (try simp) <;> omega)); (repeat (first | with_reducible exact HK0.out | with_reducible refine KB.setNew ?_ (by omega) _ | with_reducible refine KB.alloc ?_ _ (by (try simp) <;> omega)))
    go_wp2_with (fail)
    exact ⟨rfl, kk, P, rfl⟩
  | ok y =>
    obtain ⟨c, r⟩ := y
    go_enter Tryz.func67, Tryz.ntmps67
    go_wp2_with (fail)
    go_at_call 89
    refine (cp_counted pb 4 l en _ (by repeat (first | with_reducible exact HP0.out | with_reducible refine PSt.setNew ?_ (by omega) _ | with_reducible refine PSt.kept ?_ (World.grownBy_alloc _ _ none) (by simp)))).mono ?_
    rw [hq]
    rintro e w1 h
    obtain ⟨k, P, v, rfl, vn, vi, rfl, hsn, hsi⟩ := h.ok
    have hz := k.size
    try simp at hz
    have kk : KB w.heap.size pb w w1 := by refine KB.trans ?_ (k.mono (by (try simp) <;> omega)); (repeat (first | with_reducible exact HK0.out | with_reducible refine KB.setNew ?_ (by omega) _ | with_reducible refine KB.alloc ?_ _ (by (try simp) <;> omega)))
    have hr : w1.heap[w.heap.size]? = some (.cells #[.int .u8 0, .slice none 0 0, .int .u8 0, .int .i64 0, .int .i64 0, .int .i64 0, .slice none 0 0, .int .i64 0] 36 (0, 0)) := ObjRow.keep k (row_new _ _ _ rfl) (by simp) (by omega)
    obtain ⟨A1, m1, p1, rfl⟩ := hsn.shape
    obtain ⟨A2, m2, p2, rfl⟩ := hsi.shape
    obtain ⟨z0, z1, z2, z3, z4, z5, z6, z7⟩ := eight_cells hr
    obtain ⟨g0, g1, g2, g3, g4, g5, g6, g7⟩ := eight_frozen hr
    have Hhr := Lib.hid hr
    have HK1 := Lib.hid kk
    have HP1 := Lib.hid P
    have Hsn := Lib.hid hsn
    have Hsi := Lib.hid hsi
    clear k P h kk hr hsn hsi
    go_wp2_with (fail)
    have hlo : w.heap.size < (w.alloc (.cells #[.int .u8 0, .slice none 0 0, .int .u8 0, .int .i64 0, .int .i64 0, .int .i64 0, .slice none 0 0, .int .i64 0] 36)).heap.size := by simp
    refine ret8 (i := 2) (b := w.heap.size) rfl rfl rfl (row_store8 Hhr.out (.int .u8 c.kind) (.slice A1 m1 p1) (.int .u8 c.dom) (.int .i64 c.idx) (.int .i64 c.a) (.int .i64 c.b) (.slice A2 m2 p2) (.int .i64 c.off)) ⟨?_, ?_, _, rfl, _, _, rfl, ClV.lists Hsn.out Hsi.out (Nat.le_of_lt hlo) (by simp) (fun b hb _ => ?_)⟩
    · (repeat (first | with_reducible exact HK1.out | with_reducible refine KB.setNew ?_ (by omega) _ | with_reducible refine KB.alloc ?_ _ (by (try simp) <;> omega)))
    · exact (by repeat (first | with_reducible exact HP1.out | with_reducible refine PSt.setNew ?_ (by omega) _ | with_reducible refine PSt.kept ?_ (World.grownBy_alloc _ _ none) (by simp)))
    · have hne : b ≠ w.heap.size := by omega
      simp only [heap_setCell_ne _ _ hne]

set_option maxHeartbeats 2000000 in
theorem cp_cores (pb : Nat) (l : List Tok) (en : Int) (w : World) (h : PSt w pb l en) :
    Calls Tryz.prog 100 #[.pointer (some ⟨pb, 0, none⟩)] w (RdPost pb en w (ClV w.heap.size) (pCounted 6 l)) := by
  have hlt := h.lt
  have HP0 := Lib.hid h
  have HK0 := Lib.hid (KB.refl w.heap.size pb w)
  clear h
  cases hq : pCounted 6 l with
  | error r =>
    go_enter Tryz.func100, Tryz.ntmps100
    go_wp2_with (fail)
    go_at_call 89
    refine (cp_counted pb 6 l en _ (by repeat (first | with_reducible exact HP0.out | with_reducible refine PSt.setNew ?_ (by omega) _ | with_reducible refine PSt.kept ?_ (World.grownBy_alloc _ _ none) (by simp)))).mono ?_
    rw [hq]
    rintro e w1 h
    obtain ⟨k, P, rfl⟩ := h.error
    have kk : KB w.heap.size pb w w1 := by refine KB.trans ?_ (k.mono (by (try simp) <;> omega)); (repeat (first | with_reducible exact HK0.out | with_reducible refine KB.setNew ?_ (by omega) _ | with_reducible refine KB.alloc ?_ _ (by (try simp) <;> omega)))
    go_wp2_with (fail)
    exact ⟨rfl, kk, P, rfl⟩
  | ok y =>
    obtain ⟨c, r⟩ := y
    go_enter Tryz.func100, Tryz.ntmps100
    go_wp2_with (fail)
    go_at_call 89
    refine (cp_counted pb 6 l en _ (by repeat (first | with_reducible exact HP0.out | with_reducible refine PSt.setNew ?_ (by omega) _ | with_reducible refine PSt.kept ?_ (World.grownBy_alloc _ _ none) (by simp)))).mono ?_
    rw [hq]
    rintro e w1 h
    obtain ⟨k, P, v, rfl, vn, vi, rfl, hsn, hsi⟩ := h.ok
    have hz := k.size
    try simp at hz
    have kk : KB w.heap.size pb w w1 := by refine KB.trans ?_ (k.mono (by (try simp) <;> omega)); (repeat (first | with_reducible exact HK0.out | with_reducible refine KB.setNew ?_ (by omega) _ | with_reducible refine KB.alloc ?_ _ (by (try simp) <;> omega)))
    have hr : w1.heap[w.heap.size]? = some (.cells #[.int .u8 0, .slice none 0 0, .int .u8 0, .int .i64 0, .int .i64 0, .int .i64 0, .slice none 0 0, .int .i64 0] 36 (0, 0)) := ObjRow.keep k (row_new _ _ _ rfl) (by simp) (by omega)
    obtain ⟨A1, m1, p1, rfl⟩ := hsn.shape
    obtain ⟨A2, m2, p2, rfl⟩ := hsi.shape
    obtain ⟨z0, z1, z2, z3, z4, z5, z6, z7⟩ := eight_cells hr
    obtain ⟨g0, g1, g2, g3, g4, g5, g6, g7⟩ := eight_frozen hr
    have Hhr := Lib.hid hr
    have HK1 := Lib.hid kk
    have HP1 := Lib.hid P
    have Hsn := Lib.hid hsn
    have Hsi := Lib.hid hsi
    clear k P h kk hr hsn hsi
    go_wp2_with (fail)
    have hlo : w.heap.size < (w.alloc (.cells #[.int .u8 0, .slice none 0 0, .int .u8 0, .int .i64 0, .int .i64 0, .int .i64 0, .slice none 0 0, .int .i64 0] 36)).heap.size := by simp
    refine ret8 (i := 2) (b := w.heap.size) rfl rfl rfl (row_store8 Hhr.out (.int .u8 c.kind) (.slice A1 m1 p1) (.int .u8 c.dom) (.int .i64 c.idx) (.int .i64 c.a) (.int .i64 c.b) (.slice A2 m2 p2) (.int .i64 c.off)) ⟨?_, ?_, _, rfl, _, _, rfl, ClV.lists Hsn.out Hsi.out (Nat.le_of_lt hlo) (by simp) (fun b hb _ => ?_)⟩
    · (repeat (first | with_reducible exact HK1.out | with_reducible refine KB.setNew ?_ (by omega) _ | with_reducible refine KB.alloc ?_ _ (by (try simp) <;> omega)))
    · exact (by repeat (first | with_reducible exact HP1.out | with_reducible refine PSt.setNew ?_ (by omega) _ | with_reducible refine PSt.kept ?_ (World.grownBy_alloc _ _ none) (by simp)))
    · have hne : b ≠ w.heap.size := by omega
      simp only [heap_setCell_ne _ _ hne]

set_option maxHeartbeats 2000000 in
theorem cp_replicas (pb : Nat) (l : List Tok) (en : Int) (w : World) (h : PSt w pb l en) :
    Calls Tryz.prog 101 #[.pointer (some ⟨pb, 0, none⟩)] w (RdPost pb en w (ClV w.heap.size) (pCounted 7 l)) := by
  have hlt := h.lt
  have HP0 := Lib.hid h
  have HK0 := Lib.hid (KB.refl w.heap.size pb w)
  clear h
  cases hq : pCounted 7 l with
  | error r =>
    go_enter Tryz.func101, Tryz.ntmps101
    go_wp2_with (fail)
    go_at_call 89
    refine (cp_counted pb 7 l en _ (by repeat (first | with_reducible exact HP0.out | with_reducible refine PSt.setNew ?_ (by omega) _ | with_reducible refine PSt.kept ?_ (World.grownBy_alloc _ _ none) (by simp)))).mono ?_
    rw [hq]
    rintro e w1 h
    obtain ⟨k, P, rfl⟩ := h.error
    have kk : KB w.heap.size pb w w1 := by refine KB.trans ?_ (k.mono (by (try simp) <;> omega)); (repeat (first | with_reducible exact HK0.out | with_reducible refine KB.setNew ?_ (by omega) _ | with_reducible refine KB.alloc ?_ _ (by (try simp) <;> omega)))
    go_wp2_with (fail)
    exact ⟨rfl, kk, P, rfl⟩
  | ok y =>
    obtain ⟨c, r⟩ := y
    go_enter Tryz.func101, Tryz.ntmps101
    go_wp2_with (fail)
    go_at_call 89
    refine (cp_counted pb 7 l en _ (by repeat (first | with_reducible exact HP0.out | with_reducible refine PSt.setNew ?_ (by omega) _ | with_reducible refine PSt.kept ?_ (World.grownBy_alloc _ _ none) (by simp)))).mono ?_
    rw [hq]
    rintro e w1 h
    obtain ⟨k, P, v, rfl, vn, vi, rfl, hsn, hsi⟩ := h.ok
    have hz := k.size
    try simp at hz
    have kk : KB w.heap.size pb w w1 := by refine KB.trans ?_ (k.mono (by (try simp) <;> omega)); (repeat (first | with_reducible exact HK0.out | with_reducible refine KB.setNew ?_ (by omega) _ | with_reducible refine KB.alloc ?_ _ (by (try simp) <;> omega)))
    have hr : w1.heap[w.heap.size]? = some (.cells #[.int .u8 0, .slice none 0 0, .int .u8 0, .int .i64 0, .int .i64 0, .int .i64 0, .slice none 0 0, .int .i64 0] 36 (0, 0)) := ObjRow.keep k (row_new _ _ _ rfl) (by simp) (by omega)
    obtain ⟨A1, m1, p1, rfl⟩ := hsn.shape
    obtain ⟨A2, m2, p2, rfl⟩ := hsi.shape
    obtain ⟨z0, z1, z2, z3, z4, z5, z6, z7⟩ := eight_cells hr
    obtain ⟨g0, g1, g2, g3, g4, g5, g6, g7⟩ := eight_frozen hr
    have Hhr := Lib.hid hr
    have HK1 := Lib.hid kk
    have HP1 := Lib.hid P
    have Hsn := Lib.hid hsn
    have Hsi := Lib.hid hsi
    clear k P h kk hr hsn hsi
    go_wp2_with (fail)
    have hlo : w.heap.size < (w.alloc (.cells #[.int .u8 0, .slice none 0 0, .int .u8 0, .int .i64 0, .int .i64 0, .int .i64 0, .slice none 0 0, .int .i64 0] 36)).heap.size := by simp
    refine ret8 (i := 2) (b := w.heap.size) rfl rfl rfl (row_store8 Hhr.out (.int .u8 c.kind) (.slice A1 m1 p1) (.int .u8 c.dom) (.int .i64 c.idx) (.int .i64 c.a) (.int .i64 c.b) (.slice A2 m2 p2) (.int .i64 c.off)) ⟨?_, ?_, _, rfl, _, _, rfl, ClV.lists Hsn.out Hsi.out (Nat.le_of_lt hlo) (by simp) (fun b hb _ => ?_)⟩
    · (repeat (first | with_reducible exact HK1.out | with_reducible refine KB.setNew ?_ (by omega) _ | with_reducible refine KB.alloc ?_ _ (by (try simp) <;> omega)))
    · exact (by repeat (first | with_reducible exact HP1.out | with_reducible refine PSt.setNew ?_ (by omega) _ | with_reducible refine PSt.kept ?_ (World.grownBy_alloc _ _ none) (by simp)))
    · have hne : b ≠ w.heap.size := by omega
      simp only [heap_setCell_ne _ _ hne]

set_option maxHeartbeats 2000000 in
theorem cp_least (pb : Nat) (l : List Tok) (en : Int) (w : World) (h : PSt w pb l en) :
    Calls Tryz.prog 102 #[.pointer (some ⟨pb, 0, none⟩)] w (RdPost pb en w (ClV w.heap.size) (pCounted 8 l)) := by
  have hlt := h.lt
  have HP0 := Lib.hid h
  have HK0 := Lib.hid (KB.refl w.heap.size pb w)
  clear h
  cases hq : pCounted 8 l with
  | error r =>
    go_enter Tryz.func102, Tryz.ntmps102
    go_wp2_with (fail)
    go_at_call 89
    refine (cp_counted pb 8 l en _ (by repeat (first | with_reducible exact HP0.out | with_reducible refine PSt.setNew ?_ (by omega) _ | with_reducible refine PSt.kept ?_ (World.grownBy_alloc _ _ none) (by simp)))).mono ?_
    rw [hq]
    rintro e w1 h
    obtain ⟨k, P, rfl⟩ := h.error
    have kk : KB w.heap.size pb w w1 := by refine KB.trans ?_ (k.mono (by (try simp) <;> omega)); (repeat (first | with_reducible exact HK0.out | with_reducible refine KB.setNew ?_ (by omega) _ | with_reducible refine KB.alloc ?_ _ (by (try simp) <;> omega)))
    go_wp2_with (fail)
    exact ⟨rfl, kk, P, rfl⟩
  | ok y =>
    obtain ⟨c, r⟩ := y
    go_enter Tryz.func102, Tryz.ntmps102
    go_wp2_with (fail)
    go_at_call 89
    refine (cp_counted pb 8 l en _ (by repeat (first | with_reducible exact HP0.out | with_reducible refine PSt.setNew ?_ (by omega) _ | with_reducible refine PSt.kept ?_ (World.grownBy_alloc _ _ none) (by simp)))).mono ?_
    rw [hq]
    rintro e w1 h
    obtain ⟨k, P, v, rfl, vn, vi, rfl, hsn, hsi⟩ := h.ok
    have hz := k.size
    try simp at hz
    have kk : KB w.heap.size pb w w1 := by refine KB.trans ?_ (k.mono (by (try simp) <;> omega)); (repeat (first | with_reducible exact HK0.out | with_reducible refine KB.setNew ?_ (by omega) _ | with_reducible refine KB.alloc ?_ _ (by (try simp) <;> omega)))
    have hr : w1.heap[w.heap.size]? = some (.cells #[.int .u8 0, .slice none 0 0, .int .u8 0, .int .i64 0, .int .i64 0, .int .i64 0, .slice none 0 0, .int .i64 0] 36 (0, 0)) := ObjRow.keep k (row_new _ _ _ rfl) (by simp) (by omega)
    obtain ⟨A1, m1, p1, rfl⟩ := hsn.shape
    obtain ⟨A2, m2, p2, rfl⟩ := hsi.shape
    obtain ⟨z0, z1, z2, z3, z4, z5, z6, z7⟩ := eight_cells hr
    obtain ⟨g0, g1, g2, g3, g4, g5, g6, g7⟩ := eight_frozen hr
    have Hhr := Lib.hid hr
    have HK1 := Lib.hid kk
    have HP1 := Lib.hid P
    have Hsn := Lib.hid hsn
    have Hsi := Lib.hid hsi
    clear k P h kk hr hsn hsi
    go_wp2_with (fail)
    have hlo : w.heap.size < (w.alloc (.cells #[.int .u8 0, .slice none 0 0, .int .u8 0, .int .i64 0, .int .i64 0, .int .i64 0, .slice none 0 0, .int .i64 0] 36)).heap.size := by simp
    refine ret8 (i := 2) (b := w.heap.size) rfl rfl rfl (row_store8 Hhr.out (.int .u8 c.kind) (.slice A1 m1 p1) (.int .u8 c.dom) (.int .i64 c.idx) (.int .i64 c.a) (.int .i64 c.b) (.slice A2 m2 p2) (.int .i64 c.off)) ⟨?_, ?_, _, rfl, _, _, rfl, ClV.lists Hsn.out Hsi.out (Nat.le_of_lt hlo) (by simp) (fun b hb _ => ?_)⟩
    · (repeat (first | with_reducible exact HK1.out | with_reducible refine KB.setNew ?_ (by omega) _ | with_reducible refine KB.alloc ?_ _ (by (try simp) <;> omega)))
    · exact (by repeat (first | with_reducible exact HP1.out | with_reducible refine PSt.setNew ?_ (by omega) _ | with_reducible refine PSt.kept ?_ (World.grownBy_alloc _ _ none) (by simp)))
    · have hne : b ≠ w.heap.size := by omega
      simp only [heap_setCell_ne _ _ hne]

set_option maxHeartbeats 2000000 in
theorem cp_firmware (pb : Nat) (l : List Tok) (en : Int) (w : World) (h : PSt w pb l en) :
    Calls Tryz.prog 106 #[.pointer (some ⟨pb, 0, none⟩)] w (RdPost pb en w (ClV w.heap.size) (pCounted 12 l)) := by
  have hlt := h.lt
  have HP0 := Lib.hid h
  have HK0 := Lib.hid (KB.refl w.heap.size pb w)
  clear h
  cases hq : pCounted 12 l with
  | error r =>
    go_enter Tryz.func106, Tryz.ntmps106
    go_wp2_with (fail)
    go_at_call 89
    refine (cp_counted pb 12 l en _ (by repeat (first | with_reducible exact HP0.out | with_reducible refine PSt.setNew ?_ (by omega) _ | with_reducible refine PSt.kept ?_ (World.grownBy_alloc _ _ none) (by simp)))).mono ?_
    rw [hq]
    rintro e w1 h
    obtain ⟨k, P, rfl⟩ := h.error
    have kk : KB w.heap.size pb w w1 := by refine KB.trans ?_ (k.mono (by (try simp) <;> omega)); (repeat (first | with_reducible exact HK0.out | with_reducible refine KB.setNew ?_ (by omega) _ | with_reducible refine KB.alloc ?_ _ (by (try simp) <;> omega)))
    go_wp2_with (fail)
    exact ⟨rfl, kk, P, rfl⟩
  | ok y =>
    obtain ⟨c, r⟩ := y
    go_enter Tryz.func106, Tryz.ntmps106
    go_wp2_with (fail)
    go_at_call 89
    refine (cp_counted pb 12 l en _ (by repeat (first | with_reducible exact HP0.out | with_reducible refine PSt.setNew ?_ (by omega) _ | with_reducible refine PSt.kept ?_ (World.grownBy_alloc _ _ none) (by simp)))).mono ?_
    rw [hq]
    rintro e w1 h
    obtain ⟨k, P, v, rfl, vn, vi, rfl, hsn, hsi⟩ := h.ok
    have hz := k.size
    try simp at hz
    have kk : KB w.heap.size pb w w1 := by refine KB.trans ?_ (k.mono (by (try simp) <;> omega)); (repeat (first | with_reducible exact HK0.out | with_reducible refine KB.setNew ?_ (by omega) _ | with_reducible refine KB.alloc ?_ _ (by (try simp) <;> omega)))
    have hr : w1.heap[w.heap.size]? = some (.cells #[.int .u8 0, .slice none 0 0, .int .u8 0, .int .i64 0, .int .i64 0, .int .i64 0, .slice none 0 0, .int .i64 0] 36 (0, 0)) := ObjRow.keep k (row_new _ _ _ rfl) (by simp) (by omega)
    obtain ⟨A1, m1, p1, rfl⟩ := hsn.shape
    obtain ⟨A2, m2, p2, rfl⟩ := hsi.shape
    obtain ⟨z0, z1, z2, z3, z4, z5, z6, z7⟩ := eight_cells hr
    obtain ⟨g0, g1, g2, g3, g4, g5, g6, g7⟩ := eight_frozen hr
    have Hhr := Lib.hid hr
    have HK1 := Lib.hid kk
    have HP1 := Lib.hid P
    have Hsn := Lib.hid hsn
    have Hsi := Lib.hid hsi
    clear k P h kk hr hsn hsi
    go_wp2_with (fail)
    have hlo : w.heap.size < (w.alloc (.cells #[.int .u8 0, .slice none 0 0, .int .u8 0, .int .i64 0, .int .i64 0, .int .i64 0, .slice none 0 0, .int .i64 0] 36)).heap.size := by simp
    refine ret8 (i := 2) (b := w.heap.size) rfl rfl rfl (row_store8 Hhr.out (.int .u8 c.kind) (.slice A1 m1 p1) (.int .u8 c.dom) (.int .i64 c.idx) (.int .i64 c.a) (.int .i64 c.b) (.slice A2 m2 p2) (.int .i64 c.off)) ⟨?_, ?_, _, rfl, _, _, rfl, ClV.lists Hsn.out Hsi.out (Nat.le_of_lt hlo) (by simp) (fun b hb _ => ?_)⟩
    · (repeat (first | with_reducible exact HK1.out | with_reducible refine KB.setNew ?_ (by omega) _ | with_reducible refine KB.alloc ?_ _ (by (try simp) <;> omega)))
    · exact (by repeat (first | with_reducible exact HP1.out | with_reducible refine PSt.setNew ?_ (by omega) _ | with_reducible refine PSt.kept ?_ (World.grownBy_alloc _ _ none) (by simp)))
    · have hne : b ≠ w.heap.size := by omega
      simp only [heap_setCell_ne _ _ hne]

set_option maxHeartbeats 2000000 in
theorem cl_none (pb mb : Nat) (tab : List (ByteArray × Value)) (htab : ∀ x ∈ tab, ∃ f, x.2 = .func (.func f) #[] #[]) (hz0 : (assocB ⟨#[]⟩ tab).isSome = false) (l r1 : List Tok) (en : Int) (w : World) (h : PSt w pb l en) (hm : MapIs w mb tab) (hne : mb ≠ pb)
    (hq1 : pNext (fun t => (assocB t.text tab).isSome) l = .error r1) (val : Cl → World → Value → Prop) :
    Calls Tryz.prog 50 #[.pointer (some ⟨pb, 0, none⟩), .map (some mb)] w (RdPost pb en w val (.error r1)) := by
  have hlt := h.lt
  have hml := hm.lt
  have HP0 := Lib.hid h
  have HK0 := Lib.hid (KB.refl w.heap.size pb w)
  have Hm0 := Lib.hid hm
  have Hq1 := Lib.hid hq1
  clear h hm hq1
  go_enter Tryz.func50, Tryz.ntmps50
  go_wp2_with (fail)
  go_at_call 69
  refine (c_next_clause pb l en _ w.heap.size (by repeat (first | with_reducible exact HP0.out | with_reducible refine PSt.setNew ?_ (by omega) _ | with_reducible refine PSt.kept ?_ (World.grownBy_alloc _ _ none) (by simp))) (fun t => (assocB t.text tab).isSome) hz0 (fun t w1 hb => c_clause1 t w.heap.size mb tab htab w1 (one_cell ((hb.block _ (by (try simp) <;> omega)).trans (row_alloc (row_new _ _ _ rfl) _))) (Hm0.out.keep ((hb.block mb (by (try simp) <;> omega)).trans ((row_alloc_eq _ _ (by (try simp) <;> omega)).trans (row_alloc_eq _ _ hml)))))).mono ?_
  rw [Hq1.out]
  rintro e w1 h
  obtain ⟨k, P, rfl⟩ := h.error
  have kk : KB w.heap.size pb w w1 := by refine KB.trans ?_ (k.mono (by (try simp) <;> omega)); (repeat (first | with_reducible exact HK0.out | with_reducible refine KB.setNew ?_ (by omega) _ | with_reducible refine KB.alloc ?_ _ (by (try simp) <;> omega)))
  go_wp2_with (fail)
  exact ⟨rfl, kk, P, rfl⟩

theorem itemFns_ok : ∀ x ∈ itemFns, ∃ f, x.2 = .func (.func f) #[] #[] := by
  intro x hx
  simp only [itemFns, List.mem_cons, List.not_mem_nil, or_false] at hx
  rcases hx with rfl | rfl | rfl | rfl | rfl | rfl | rfl <;> exact ⟨_, rfl⟩
theorem clauseFns_ok : ∀ x ∈ clauseFns, ∃ f, x.2 = .func (.func f) #[] #[] := by
  intro x hx
  simp only [clauseFns, List.mem_cons, List.not_mem_nil, or_false] at hx
  rcases hx with rfl | rfl | rfl | rfl | rfl <;> exact ⟨_, rfl⟩
theorem item_cases (s : ByteArray) : (assocB s itemFns = none ∧ assocB s itemTab = none) ∨ (assocB s itemFns = some (.func (.func 100) #[] #[]) ∧ assocB s itemTab = some (pCounted 6)) ∨ (assocB s itemFns = some (.func (.func 101) #[] #[]) ∧ assocB s itemTab = some (pCounted 7)) ∨ (assocB s itemFns = some (.func (.func 102) #[] #[]) ∧ assocB s itemTab = some (pCounted 8)) ∨ (assocB s itemFns = some (.func (.func 103) #[] #[]) ∧ assocB s itemTab = some pSpread) ∨ (assocB s itemFns = some (.func (.func 104) #[] #[]) ∧ assocB s itemTab = some pApart) ∨ (assocB s itemFns = some (.func (.func 105) #[] #[]) ∧ assocB s itemTab = some pNear) ∨ (assocB s itemFns = some (.func (.func 106) #[] #[]) ∧ assocB s itemTab = some (pCounted 12)) := by
  unfold itemFns itemTab
  simp only [assocB]
  by_cases h0 : (ByteArray.toList ⟨#[99, 111, 114, 101, 115]⟩) = s.toList
  · right; left; rw [if_pos h0, if_pos h0]; exact ⟨rfl, rfl⟩
  by_cases h1 : (ByteArray.toList ⟨#[114, 101, 112, 108, 105, 99, 97, 115]⟩) = s.toList
  · right; right; left; rw [if_neg h0, if_neg h0]; rw [if_pos h1, if_pos h1]; exact ⟨rfl, rfl⟩
  by_cases h2 : (ByteArray.toList ⟨#[108, 101, 97, 115, 116]⟩) = s.toList
  · right; right; right; left; rw [if_neg h0, if_neg h0]; rw [if_neg h1, if_neg h1]; rw [if_pos h2, if_pos h2]; exact ⟨rfl, rfl⟩
  by_cases h3 : (ByteArray.toList ⟨#[115, 112, 114, 101, 97, 100]⟩) = s.toList
  · right; right; right; right; left; rw [if_neg h0, if_neg h0]; rw [if_neg h1, if_neg h1]; rw [if_neg h2, if_neg h2]; rw [if_pos h3, if_pos h3]; exact ⟨rfl, rfl⟩
  by_cases h4 : (ByteArray.toList ⟨#[97, 112, 97, 114, 116]⟩) = s.toList
  · right; right; right; right; right; left; rw [if_neg h0, if_neg h0]; rw [if_neg h1, if_neg h1]; rw [if_neg h2, if_neg h2]; rw [if_neg h3, if_neg h3]; rw [if_pos h4, if_pos h4]; exact ⟨rfl, rfl⟩
  by_cases h5 : (ByteArray.toList ⟨#[110, 101, 97, 114]⟩) = s.toList
  · right; right; right; right; right; right; left; rw [if_neg h0, if_neg h0]; rw [if_neg h1, if_neg h1]; rw [if_neg h2, if_neg h2]; rw [if_neg h3, if_neg h3]; rw [if_neg h4, if_neg h4]; rw [if_pos h5, if_pos h5]; exact ⟨rfl, rfl⟩
  by_cases h6 : (ByteArray.toList ⟨#[102, 105, 114, 109, 119, 97, 114, 101]⟩) = s.toList
  · right; right; right; right; right; right; right; rw [if_neg h0, if_neg h0]; rw [if_neg h1, if_neg h1]; rw [if_neg h2, if_neg h2]; rw [if_neg h3, if_neg h3]; rw [if_neg h4, if_neg h4]; rw [if_neg h5, if_neg h5]; rw [if_pos h6, if_pos h6]; exact ⟨rfl, rfl⟩
  left; rw [if_neg h0, if_neg h0]; rw [if_neg h1, if_neg h1]; rw [if_neg h2, if_neg h2]; rw [if_neg h3, if_neg h3]; rw [if_neg h4, if_neg h4]; rw [if_neg h5, if_neg h5]; rw [if_neg h6, if_neg h6]; exact ⟨rfl, rfl⟩
theorem clause_cases (s : ByteArray) : (assocB s clauseFns = none ∧ assocB s clauseTab = none) ∨ (assocB s clauseFns = some (.func (.func 64) #[] #[]) ∧ assocB s clauseTab = some pService) ∨ (assocB s clauseFns = some (.func (.func 65) #[] #[]) ∧ assocB s clauseTab = some pWindow) ∨ (assocB s clauseFns = some (.func (.func 66) #[] #[]) ∧ assocB s clauseTab = some pApprove) ∨ (assocB s clauseFns = some (.func (.func 67) #[] #[]) ∧ assocB s clauseTab = some (pCounted 4)) ∨ (assocB s clauseFns = some (.func (.func 68) #[] #[]) ∧ assocB s clauseTab = some pCap) := by
  unfold clauseFns clauseTab
  simp only [assocB]
  by_cases h0 : (ByteArray.toList ⟨#[115, 101, 114, 118, 105, 99, 101]⟩) = s.toList
  · right; left; rw [if_pos h0, if_pos h0]; exact ⟨rfl, rfl⟩
  by_cases h1 : (ByteArray.toList ⟨#[119, 105, 110, 100, 111, 119]⟩) = s.toList
  · right; right; left; rw [if_neg h0, if_neg h0]; rw [if_pos h1, if_pos h1]; exact ⟨rfl, rfl⟩
  by_cases h2 : (ByteArray.toList ⟨#[97, 112, 112, 114, 111, 118, 101]⟩) = s.toList
  · right; right; right; left; rw [if_neg h0, if_neg h0]; rw [if_neg h1, if_neg h1]; rw [if_pos h2, if_pos h2]; exact ⟨rfl, rfl⟩
  by_cases h3 : (ByteArray.toList ⟨#[98, 108, 97, 115, 116]⟩) = s.toList
  · right; right; right; right; left; rw [if_neg h0, if_neg h0]; rw [if_neg h1, if_neg h1]; rw [if_neg h2, if_neg h2]; rw [if_pos h3, if_pos h3]; exact ⟨rfl, rfl⟩
  by_cases h4 : (ByteArray.toList ⟨#[99, 97, 112]⟩) = s.toList
  · right; right; right; right; right; rw [if_neg h0, if_neg h0]; rw [if_neg h1, if_neg h1]; rw [if_neg h2, if_neg h2]; rw [if_neg h3, if_neg h3]; rw [if_pos h4, if_pos h4]; exact ⟨rfl, rfl⟩
  left; rw [if_neg h0, if_neg h0]; rw [if_neg h1, if_neg h1]; rw [if_neg h2, if_neg h2]; rw [if_neg h3, if_neg h3]; rw [if_neg h4, if_neg h4]; exact ⟨rfl, rfl⟩
end Go.Proofs.YtplnnpkohdmiaaaGreatDoor
