/-
  DERIVED. Several texts in one.
-/
import Derived.Test.YtfpcdgmdangmaaaDoorYAm
import Derived.Deep.RegionWith
import Derived.Shelf.Strings.OnBuilder
import Derived.Test.YtfpcdgmdangmaaaDoorProg
import Derived.Test.YtfpcdgmdangmaaaDoorYMm
import Derived.Shelf.LaysM
import Derived.Shelf.Strconv.Itoa3
set_option linter.unusedVariables false
set_option linter.unusedSimpArgs false

/- DERIVED. The contract of lexis.valid. -/
namespace Go.Proofs.YtfpcdgmdangmaaaDoor
open Go.RowKit

/-- The token that is read from its text is the token itself. -/
def validT (t : Tok) : Bool :=
  ((readOf t.text).2 == 0) && (((readOf t.text).1.kind == t.kind) && (((readOf t.text).1.text.toList == t.text.toList) && ((readOf t.text).1.num == t.num)))

theorem read_off (s : ByteArray) : (readOf s).1.off = 0 := by
  unfold readOf nameOf numberOf
  split
  · rfl
  · split
    · split <;> rfl
    · split
      · split
        · rfl
        · split <;> rfl
      · split <;> rfl

set_option maxHeartbeats 400000 in
theorem c_valid (t : Tok) (hs : t.text.size ≤ maxLen) (w : World) :
    Calls Tryd.prog 34 #[.agg #[.int .u8 t.kind, .string t.text, .int .i64 t.num, .int .i64 t.off]] w fun e w' => e = .returned (.bool (validT t)) ∧ Below w.heap.size w w' := by
  have hrd := c_read t.text hs
  have ho := read_off t.text
  unfold validT
  generalize readOf t.text = r at hrd ho ⊢
  obtain ⟨⟨kd, tx, nm, of0⟩, er⟩ := r
  obtain ⟨kd2, tx2, nm2, of2⟩ := t
  dsimp only at hrd ho ⊢
  subst ho
  have Hrd := Lib.hid hrd
  clear hrd
  obtain ⟨bv, hbv⟩ : ∃ b, b = ((er == 0) && ((kd == kd2) && ((tx.toList == tx2.toList) && (nm == nm2)))) := ⟨_, rfl⟩
  rw [← hbv]
  have Hb := Lib.hid hbv
  clear hbv
  go_enter Tryd.func34, Tryd.ntmps34
  go_wp2_with (first | (go_at_call 41; refine (Hrd.out _).mono ?_; rintro e w1 ⟨rfl, hbl⟩; obtain ⟨⟨g0, g1, g2, g3⟩, ⟨f0, f1, f2, f3⟩, hsz⟩ := res4 hbl; simp only [Tok.val]))
  all_goals go_ret
  all_goals refine ⟨ret_bool (by rw [Hb.out]; simp [*]), ?_⟩
  all_goals exact ((((Below.refl _ w).alloc (Nat.le_refl _) _).trans (hbl.mono (by simp))).setCell (p := ⟨w.heap.size, 3, none⟩) (Nat.le_refl _) _).alloc (by have := hbl.size; simp at this ⊢; omega) _

theorem extract_all (s : ByteArray) : s.extract 0 s.size = s := by
  apply ByteArray.ext
  rw [ByteArray.data_extract]
  exact Array.extract_size

end Go.Proofs.YtfpcdgmdangmaaaDoor

/- DERIVED. The library's contract of strings.Join at this translation, laid in plain words by the guide's own program. -/
namespace Go.Proofs.YtfpcdgmdangmaaaDoor
open Go.Shelf
def Tryd.lays156_ren : Go.Shelf.Ren := ⟨fun | 156 => 35 | 165 => 51 | 166 => 52 | 169 => 53 | 240 => 72 | 241 => 73 | 276 => 86 | 277 => 87 | n => n, fun | 31 => 33 | 9 => 9 | 3 => 3 | 4 => 4 | 0 => 0 | 20 => 20 | 72 => 91 | 76 => 95 | 70 => 88 | 37 => 89 | 75 => 94 | 127 => 106 | 164 => 108 | 5 => 5 | 80 => 97 | n => n, fun | n => n⟩
theorem Tryd.lays156 : Go.Proofs.Lays.n156 Tryd.prog Tryd.lays156_ren := {
  mixed := by kernel_rfl
  f156 := Tryd.func35.trans (congrArg some (by kernel_rfl))
  f165 := Tryd.func51.trans (congrArg some (by kernel_rfl))
  f166 := Tryd.func52.trans (congrArg some (by kernel_rfl))
  f169 := Tryd.func53.trans (congrArg some (by kernel_rfl))
  f240 := Tryd.func72.trans (congrArg some (by kernel_rfl))
  f241 := Tryd.func73.trans (congrArg some (by kernel_rfl))
  f276 := Tryd.func86.trans (congrArg some (by kernel_rfl))
  f277 := Tryd.func87.trans (congrArg some (by kernel_rfl))
  t0 := Tryd.underlying0
  a0 := Tryd.isAgg0
  z0 := Tryd.sizeOf0
  v0 := Tryd.zeroValue0
  t3 := Tryd.underlying3
  a3 := Tryd.isAgg3
  z3 := Tryd.sizeOf3
  v3 := Tryd.zeroValue3
  t4 := Tryd.underlying4
  a4 := Tryd.isAgg4
  z4 := Tryd.sizeOf4
  v4 := Tryd.zeroValue4
  t9 := Tryd.underlying9
  a9 := Tryd.isAgg9
  z9 := Tryd.sizeOf9
  v9 := Tryd.zeroValue9
  t20 := Tryd.underlying20
  a20 := Tryd.isAgg20
  z20 := Tryd.sizeOf20
  v20 := Tryd.zeroValue20
  t31 := Tryd.underlying33
  a31 := Tryd.isAgg33
  z31 := Tryd.sizeOf33
  v31 := Tryd.zeroValue33
  t37 := Tryd.underlying89
  a37 := Tryd.isAgg89
  z37 := Tryd.sizeOf89
  v37 := Tryd.zeroValue89
  t70 := Tryd.underlying88
  a70 := Tryd.isAgg88
  z70 := Tryd.sizeOf88
  v70 := Tryd.zeroValue88
  t72 := Tryd.underlying91
  a72 := Tryd.isAgg91
  z72 := Tryd.sizeOf91
  v72 := Tryd.zeroValue91
  t75 := Tryd.underlying94
  a75 := Tryd.isAgg94
  z75 := Tryd.sizeOf94
  v75 := Tryd.zeroValue94
  t76 := Tryd.underlying95
  a76 := Tryd.isAgg95
  z76 := Tryd.sizeOf95
  v76 := Tryd.zeroValue95
  t127 := Tryd.underlying106
  a127 := Tryd.isAgg106
  z127 := Tryd.sizeOf106
  v127 := Tryd.zeroValue106
  t164 := Tryd.underlying108
  a164 := Tryd.isAgg108
  z164 := Tryd.sizeOf108
  v164 := Tryd.zeroValue108 }
theorem Tryd.Builder_Extra_156 : Builder.Extra Tryd.prog Tryd.lays156_ren := {
  sizeBuilder := by kernel_rfl
  liesBuilder := by kernel_rfl
  t5 := Tryd.underlying5
  a5 := Tryd.isAgg5
  z5 := Tryd.sizeOf5
  v5 := Tryd.zeroValue5
  infoByte := by kernel_rfl
  cellsByte := by kernel_rfl
  sizeByte := by kernel_rfl
  neB5 := by decide }
open Go.RowKit in
theorem Tryd.strings_Join_none (a : Option Addr) (c : Nat) (sep : ByteArray) (w : World) :
    Calls Tryd.prog 35 #[.slice a 0 c, .string sep] w fun e w' => e = .returned (.string ⟨#[]⟩) ∧ w' = w := Any.strings_Join_none Tryd.lays156 Tryd.Builder_Extra_156 a c sep w
open Go.RowKit in
theorem Tryd.strings_Join (bk o c : Nat) (xs : List ByteArray) (sep : ByteArray) (w : World) (hcells : ∀ (j : Nat) x, xs[j]? = some x → w.cell? ⟨bk, o + j, none⟩ = some (.string x)) (hbk : bk < w.heap.size) (hN : xs.length ≤ 140737488355328) (hcap : xs.length ≤ c) (hlen : (Lib.join (xs.map (·.data.toList)) sep.data.toList).length ≤ 140737488355328) :
    Calls Tryd.prog 35 #[.slice (some ⟨bk, o, none⟩) xs.length c, .string sep] w fun e w' => e = .returned (.string ⟨(Lib.join (xs.map (·.data.toList)) sep.data.toList).toArray⟩) ∧ Below w.heap.size w w' := Any.strings_Join Tryd.lays156 Tryd.Builder_Extra_156 bk o c xs sep w hcells hbk hN hcap hlen
end Go.Proofs.YtfpcdgmdangmaaaDoor

/- DERIVED. The contract of lexis.Print. -/
namespace Go.Proofs.YtfpcdgmdangmaaaDoor
open Go.RowKit
set_option maxRecDepth 100000

def joinB (l : List Tok) : ByteArray := ⟨(Lib.join ((l.map (·.text)).map (·.data.toList)) [32]).toArray⟩
def printOf (l : List Tok) : ByteArray × Int :=
  if l.all validT = true then (if 4096 < (joinB l).size then (⟨#[]⟩, 3) else (joinB l, 0)) else (⟨#[]⟩, 1)

theorem read_len (s : ByteArray) (h : (readOf s).2 = 0) : (readOf s).1.text.size ≤ 12 := by
  have hn : ∀ x : ByteArray, (nameOf x).2 = 0 → (nameOf x).1.text.size ≤ 12 := fun x h => by
    unfold nameOf at h ⊢
    by_cases h1 : 12 < x.size
    · rw [if_pos h1] at h; cases h
    · rw [if_neg h1]; show x.size ≤ 12; omega
  have hm : ∀ x : ByteArray, (numberOf x).2 = 0 → (numberOf x).1.text.size ≤ 12 := fun x h => by
    unfold numberOf at h ⊢
    by_cases h1 : 1 < x.size ∧ (bt x).head? = some 48
    · rw [if_pos h1] at h; cases h
    · rw [if_neg h1] at h ⊢
      by_cases h2 : 9 < x.size
      · rw [if_pos h2] at h; cases h
      · rw [if_neg h2]; show x.size ≤ 12; omega
  unfold readOf at h ⊢
  cases hh : (bt s).head? with
  | none => rw [hh] at h; cases h
  | some c =>
    rw [hh] at h
    simp only at h ⊢
    by_cases hl : isLe c = true
    · rw [if_pos hl] at h ⊢; exact hn _ h
    · rw [if_neg hl] at h ⊢
      by_cases hd : isDi c = true
      · rw [if_pos hd] at h ⊢; exact hm _ h
      · rw [if_neg hd] at h ⊢
        by_cases hg : isSi c = true
        · rw [if_pos hg]; simp only [ByteArray.size_extract]; omega
        · rw [if_neg hg] at h; cases h

theorem valid_len (t : Tok) (h : validT t = true) : t.text.size ≤ 12 := by
  unfold validT at h
  simp only [Bool.and_eq_true, beq_iff_eq] at h
  obtain ⟨h0, _, h1, _⟩ := h
  have := read_len t.text h0
  have e : (readOf t.text).1.text.size = t.text.size := by
    rw [ByteArray.toList_eq, ByteArray.toList_eq] at h1
    rw [← bt_len, ← bt_len]; unfold bt; rw [h1]
  omega

theorem joinTail_len (sep : List UInt8) (r : List (List UInt8)) (n : Nat) (h : ∀ x ∈ r, x.length ≤ n) : (Lib.joinTail sep r).length ≤ r.length * (sep.length + n) := by
  induction r with
  | nil => simp [Lib.joinTail]
  | cons x r ih =>
    have h1 := ih (fun y hy => h y (by simp [hy]))
    have h2 := h x (by simp)
    have : Lib.joinTail sep (x :: r) = (sep ++ x) ++ Lib.joinTail sep r := by simp [Lib.joinTail]
    rw [this, List.length_append, List.length_append, List.length_cons, Nat.succ_mul]
    omega

theorem join_len (l : List Tok) (hl : l.length ≤ 50000) (h : l.all validT = true) : (Lib.join ((l.map (·.text)).map (·.data.toList)) [32]).length ≤ 140737488355328 := by
  cases l with
  | nil => simp [Lib.join]
  | cons a l =>
    rw [List.map_cons, List.map_cons, Lib.join_cons, List.length_append]
    have hv := List.all_eq_true.1 h
    have h1 := joinTail_len [32] ((l.map (·.text)).map (·.data.toList)) 12 (fun x hx => by
      simp only [List.map_map, List.mem_map, Function.comp] at hx
      obtain ⟨t, ht, rfl⟩ := hx
      have := valid_len t (hv t (by simp [ht]))
      rwa [← bt_len] at this)
    have h2 := valid_len a (hv a (by simp))
    rw [← bt_len] at h2
    unfold bt at h2
    simp only [List.length_map, List.length_cons, List.length_nil] at h1 hl
    omega

theorem infoT9 : (Tryd.prog.info? 9).map (fun i => (i.zero, i.size, i.bytes)) = some (some (.string ⟨#[]⟩), 1, 16) := by kernel_rfl

theorem join_call {wr : World} {n₀ : Nat} {tv : Value} {l : List Tok} (hrow : wr.ownsRow n₀ 9 1 tv l.length (l.map fun t => .string t.text)) (hl : l.length ≤ 50000) (hall : l.all validT = true) :
    Calls Tryd.prog 35 #[tv, .string { data := #[32] }] wr fun e w' => e = .returned (.string (joinB l)) ∧ Below wr.heap.size wr w' := by
  have hc := fun g (hg : tv.ownBlock = some g) => hrow.cells hg
  have hlt := hrow.lt
  rcases hrow.2 with ⟨rfl, h0⟩ | ⟨g, cap, cur, rfl, hb, hg, hn, hm, _⟩
  · have hn : l = [] := List.eq_nil_of_length_eq_zero h0
    subst hn
    exact (Tryd.strings_Join_none none 0 _ wr).mono fun e w' ⟨he, hw⟩ => ⟨he, hw ▸ Below.refl _ _⟩
  · have h := Tryd.strings_Join g 0 cap (l.map (·.text)) ⟨#[32]⟩ wr (fun j x hj => by
      have h1 := hc g rfl j (.string x) (by
        rw [List.getElem?_map] at hj ⊢
        cases hlj : l[j]? with
        | none => rw [hlj] at hj; cases hj
        | some t => rw [hlj] at hj; injection hj with hj; rw [← hj]; rfl)
      rw [add0] at h1
      rwa [Nat.zero_add]) (hlt g rfl).2 (by rw [List.length_map]; omega) (by rw [List.length_map]; exact hn) (join_len l hl hall)
    rw [List.length_map] at h
    exact h

/-- What stands between two rounds of Print's loop. -/
def PrRel (l : List Tok) (w : World) (tv iv : Value) (wr : World) : Prop :=
  ∃ k : Nat, iv = .int .i64 k ∧ k ≤ l.length ∧ wr.ownsRow w.heap.size 9 1 tv k ((l.take k).map fun t => .string t.text) ∧ (∀ t ∈ l.take k, validT t = true) ∧ Below w.heap.size w wr

set_option maxHeartbeats 1000000 in
theorem c_Print (v : Value) (l : List Tok) (hl : l.length ≤ 50000) (hz : ∀ t ∈ l, t.text.size ≤ maxLen) (w : World) (hv : TokSl w w.heap.size v l) :
    Calls Tryd.prog 16 #[v] w fun e w' => e = .returned (.tuple #[.string (printOf l).1, .int .i64 (printOf l).2]) ∧ Below w.heap.size w w' := by
  obtain ⟨A, c, rfl, h2, h3, -⟩ := id hv
  obtain ⟨i0, hi, hz0, hz1, hz2⟩ := info_parts infoT9
  unfold maxLen at h3
  have Hv := Lib.hid hv
  have Hz := Lib.hid hz
  clear hv hz
  go_enter Tryd.func16, Tryd.ntmps16
  go_wp2
  go_loopw [4, 10] (fun tv iv wr => PrRel l w tv iv wr) (fun tv iv wr => l.length - (intOf iv).toNat)
  case atStart => exact ⟨0, rfl, Nat.zero_le _, World.ownsRow_nil _ _ _ _, (by intro t ht; cases ht), Below.refl _ _⟩
  case round =>
    obtain ⟨k, rfl, hk, hrow, hval, hB⟩ := hrel
    by_cases hlt : k < l.length
    · obtain ⟨b1, o1, c1, e1, hbb, -, -, g0, g1, g2, g3⟩ := (Hv.out.below hB (Nat.le_refl _)).at_ hlt
      injection e1 with e1 _ e1'
      subst e1 e1'
      have hcv := c_valid l[k] (Hz.out _ (List.getElem_mem hlt))
      have hts : l.take (k + 1) = l.take k ++ [l[k]] := by rw [List.take_succ_eq_append_getElem hlt]
      have Hcv := Lib.hid hcv
      have Hts := Lib.hid hts
      have Hval := Lib.hid hval
      clear hcv hts hval
      cases hb : validT l[k]
      · have hp : printOf l = (⟨#[]⟩, 1) := by
          unfold printOf
          rw [if_neg]
          intro h
          have := List.all_eq_true.1 h l[k] (List.getElem_mem hlt)
          rw [hb] at this; cases this
        have Hb := Lib.hid hb
        have Hp := Lib.hid hp
        clear hb hp
        go_wp2_with (first | (go_at_call 34; refine (Hcv.out _).mono ?_; rintro e w1 ⟨rfl, hbl⟩; rw [Hb.out]))
        rw [Hp.out]
        go_ret2
        exact ⟨rfl, hB.trans ((((Below.refl wr.heap.size wr).alloc (Nat.le_refl _) _).trans (hbl.mono (by simp))).mono hB.size)⟩
      · have Hb := Lib.hid hb
        clear hb
        go_wp2_with (first | (go_at_call 34; refine (Hcv.out _).mono ?_; rintro e w1 ⟨rfl, hbl⟩; rw [Hb.out]; obtain ⟨⟨q0, q1, q2, q3⟩, -, hsz⟩ := res4 hbl; have hr1 := ownsRow_below (hrow.alloc (.cells #[.int .u8 l[k].kind, .string l[k].text, .int .i64 l[k].num, .int .i64 l[k].off] 46)) hbl) | (at_builtin; refine wpList_append_own _ rfl _ _ 33 rfl w.heap.size 9 i0 (.string ⟨#[]⟩) 1 16 Tryd.underlying33 hi hz0 hz1 hz2 rfl (by decide) _ _ _ rfl (hr1.alloc _) ⟨w1.heap.size, 0, none⟩ 1 1 [.string l[k].text] rfl rfl (cell_one_new _ _ _) (by simp [Value.oneCell']) (by simp only [maxLen]; omega) (by omega) (by have h1 := hB.size; simp; omega) ?_; intro v' w3 hown' hgrow _; obtain ⟨g', cap', rfl⟩ := ownsRow_succ hown'))
        refine ⟨⟨k + 1, by go_num, by omega, by rw [Hts.out, List.map_append]; exact hown', ?_, ?_⟩, by simp [intOf]; omega⟩
        · rw [Hts.out]
          intro t ht
          rcases List.mem_append.1 ht with h | h
          · exact Hval.out t h
          · rw [List.mem_singleton.1 h]; exact Hb.out
        · have hlt' := hrow.lt
          exact ((hB.trans ((((Below.refl wr.heap.size wr).alloc (Nat.le_refl _) _).trans (hbl.mono (by simp))).mono hB.size)).alloc (by have h1 := hB.size; omega) _).grown hgrow (by have h1 := hB.size; simp; omega) (fun g e => (hlt' g e).1)
    · have hkl : l.take k = l := List.take_of_length_le (by omega)
      obtain rfl : k = l.length := by omega
      rw [hkl] at hrow hval
      have hall : l.all validT = true := List.all_eq_true.2 hval
      have hp : printOf l = if 4096 < (joinB l).size then (⟨#[]⟩, 3) else (joinB l, 0) := by unfold printOf; rw [if_pos hall]
      have hj := join_call hrow hl hall
      generalize joinB l = S at hj hp
      by_cases h4 : 4096 < S.size
      · rw [if_pos h4] at hp
        have Hp := Lib.hid hp
        have Hj := Lib.hid hj
        clear hp hj hall hval hkl hrow
        go_wp2_with (go_at_call 35; refine Hj.out.mono ?_; rintro e w1 ⟨rfl, hbl⟩)
        rw [Hp.out]
        go_ret2
        exact ⟨rfl, hB.trans (hbl.mono hB.size)⟩
      · rw [if_neg h4] at hp
        have Hp := Lib.hid hp
        have Hj := Lib.hid hj
        clear hp hj hall hval hkl hrow
        go_wp2_with (go_at_call 35; refine Hj.out.mono ?_; rintro e w1 ⟨rfl, hbl⟩)
        rw [Hp.out]
        go_ret2
        exact ⟨rfl, hB.trans (hbl.mono hB.size)⟩
end Go.Proofs.YtfpcdgmdangmaaaDoor

/- DERIVED. The library's contract of strconv.Itoa at this translation, laid in plain words by the guide's own program. -/
namespace Go.Proofs.YtfpcdgmdangmaaaDoor
open Go.Shelf
def Tryd.laysM171_ren : Go.Shelf.Ren := ⟨fun | 171 => 71 | 243 => 85 | 246 => 90 | 283 => 91 | 284 => 92 | 285 => 93 | 286 => 94 | 129 => 96 | 317 => 95 | 318 => 97 | 319 => 98 | 320 => 99 | 337 => 100 | 338 => 101 | n => n, fun | 3 => 3 | 9 => 9 | 2 => 2 | 4 => 4 | 171 => 113 | 0 => 0 | 53 => 114 | 37 => 89 | 5 => 5 | 173 => 117 | 212 => 121 | 51 => 122 | 20 => 20 | 213 => 123 | 46 => 125 | 232 => 128 | 233 => 129 | n => n, fun | 17 => 1 | 18 => 2 | 19 => 3 | n => n⟩
theorem Tryd.laysM171 : Go.Proofs.LaysM.n171 Tryd.prog Tryd.laysM171_ren := {
  mixed := by kernel_rfl
  f129 := Tryd.func96.trans (congrArg some (by kernel_rfl))
  f171 := Tryd.func71.trans (congrArg some (by kernel_rfl))
  f243 := Tryd.func85.trans (congrArg some (by kernel_rfl))
  f246 := Tryd.func90.trans (congrArg some (by kernel_rfl))
  f283 := Tryd.func91.trans (congrArg some (by kernel_rfl))
  f284 := Tryd.func92.trans (congrArg some (by kernel_rfl))
  f285 := Tryd.func93.trans (congrArg some (by kernel_rfl))
  f286 := Tryd.func94.trans (congrArg some (by kernel_rfl))
  f317 := Tryd.func95.trans (congrArg some (by kernel_rfl))
  f318 := Tryd.func97.trans (congrArg some (by kernel_rfl))
  f319 := Tryd.func98.trans (congrArg some (by kernel_rfl))
  f320 := Tryd.func99.trans (congrArg some (by kernel_rfl))
  f337 := Tryd.func100.trans (congrArg some (by kernel_rfl))
  f338 := Tryd.func101.trans (congrArg some (by kernel_rfl))
  t0 := Tryd.underlying0
  a0 := Tryd.isAgg0
  z0 := Tryd.sizeOf0
  v0 := Tryd.zeroValue0
  t2 := Tryd.underlying2
  a2 := Tryd.isAgg2
  z2 := Tryd.sizeOf2
  v2 := Tryd.zeroValue2
  t3 := Tryd.underlying3
  a3 := Tryd.isAgg3
  z3 := Tryd.sizeOf3
  v3 := Tryd.zeroValue3
  t4 := Tryd.underlying4
  a4 := Tryd.isAgg4
  z4 := Tryd.sizeOf4
  v4 := Tryd.zeroValue4
  t5 := Tryd.underlying5
  a5 := Tryd.isAgg5
  z5 := Tryd.sizeOf5
  v5 := Tryd.zeroValue5
  t9 := Tryd.underlying9
  a9 := Tryd.isAgg9
  z9 := Tryd.sizeOf9
  v9 := Tryd.zeroValue9
  t20 := Tryd.underlying20
  a20 := Tryd.isAgg20
  z20 := Tryd.sizeOf20
  v20 := Tryd.zeroValue20
  t37 := Tryd.underlying89
  a37 := Tryd.isAgg89
  z37 := Tryd.sizeOf89
  v37 := Tryd.zeroValue89
  t46 := Tryd.underlying125
  a46 := Tryd.isAgg125
  z46 := Tryd.sizeOf125
  v46 := Tryd.zeroValue125
  t51 := Tryd.underlying122
  a51 := Tryd.isAgg122
  z51 := Tryd.sizeOf122
  v51 := Tryd.zeroValue122
  t53 := Tryd.underlying114
  a53 := Tryd.isAgg114
  z53 := Tryd.sizeOf114
  v53 := Tryd.zeroValue114
  t171 := Tryd.underlying113
  a171 := Tryd.isAgg113
  z171 := Tryd.sizeOf113
  v171 := Tryd.zeroValue113
  t173 := Tryd.underlying117
  a173 := Tryd.isAgg117
  z173 := Tryd.sizeOf117
  v173 := Tryd.zeroValue117
  t212 := Tryd.underlying121
  a212 := Tryd.isAgg121
  z212 := Tryd.sizeOf121
  v212 := Tryd.zeroValue121
  t213 := Tryd.underlying123
  a213 := Tryd.isAgg123
  z213 := Tryd.sizeOf123
  t232 := Tryd.underlying128
  a232 := Tryd.isAgg128
  z232 := Tryd.sizeOf128
  v232 := Tryd.zeroValue128
  t233 := Tryd.underlying129
  a233 := Tryd.isAgg129
  z233 := Tryd.sizeOf129
  v233 := Tryd.zeroValue129
  g17 := by kernel_rfl
  g18 := by kernel_rfl
  g19 := by kernel_rfl
  i0 := by kernel_rfl
  i2 := by kernel_rfl
  i3 := by kernel_rfl
  i4 := by kernel_rfl
  i5 := by kernel_rfl
  i9 := by kernel_rfl
  i20 := by kernel_rfl
  i37 := by kernel_rfl
  i46 := by kernel_rfl
  i51 := by kernel_rfl
  i53 := by kernel_rfl
  i171 := by kernel_rfl
  i173 := by kernel_rfl
  i212 := by kernel_rfl
  i232 := by kernel_rfl
  i233 := by kernel_rfl
  m17 := by kernel_rfl
  m18 := by kernel_rfl
  m19 := by kernel_rfl }
open Go.RowKit Go.Sort Go.Lib in
theorem Tryd.strconv_Itoa (n : Int) (h0 : -9223372036854775808 ≤ n) (h1 : n ≤ 9223372036854775807) (w : World) (htab : Lib.TabIs Tryd.prog w "internal/strconv.uint64pow10" .u64 Lib.pow10Tab) :
    Calls Tryd.prog 71 #[.int .i64 n] w fun e w' => e = .returned (.string ⟨(Lib.itoa n).toArray⟩) ∧ ∃ k os, w' = grow (w.drewN k) os := Any.strconv_Itoa Tryd.laysM171 n h0 h1 w htab
end Go.Proofs.YtfpcdgmdangmaaaDoor
