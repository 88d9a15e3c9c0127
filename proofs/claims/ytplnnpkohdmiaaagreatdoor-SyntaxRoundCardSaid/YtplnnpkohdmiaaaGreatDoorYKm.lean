/-
  DERIVED. Several texts in one.
-/
import Derived.Test.YtplnnpkohdmiaaaGreatDoorYAm
import Derived.Deep.RegionWith
import Derived.Shelf.Strings.OnBuilder
import Derived.Test.YtplnnpkohdmiaaaGreatDoorProg
import Derived.Test.YtplnnpkohdmiaaaGreatDoorYMm
import Derived.Shelf.LaysM
import Derived.Shelf.Strconv.Itoa3
set_option linter.unusedVariables false
set_option linter.unusedSimpArgs false

/- DERIVED. The contract of lexis.valid. -/
namespace Go.Proofs.YtplnnpkohdmiaaaGreatDoor
open Go.RowKit

/-- The token that is read from its text is the token itself. -/
def validT (t : Tok) : Bool :=
  ((readOf t.text).2 == 0) && (((readOf t.text).1.kind == t.kind) && (((readOf t.text).1.text.toList == t.text.toList) && ((readOf t.text).1.num == t.num)))

theorem read_off (s : ByteArray) : (readOf s).1.off = 0 := by
  unfold readOf nameOf numberOf
  split
  · rfl
  · split
    · split <;> rfl
    · split
      · split
        · rfl
        · split <;> rfl
      · split <;> rfl

set_option maxHeartbeats 400000 in
theorem c_valid (t : Tok) (hs : t.text.size ≤ maxLen) (w : World) :
    Calls Tryz.prog 37 #[.agg #[.int .u8 t.kind, .string t.text, .int .i64 t.num, .int .i64 t.off]] w fun e w' => e = .returned (.bool (validT t)) ∧ Below w.heap.size w w' := by
  have hrd := c_read t.text hs
  have ho := read_off t.text
  unfold validT
  generalize readOf t.text = r at hrd ho ⊢
  obtain ⟨⟨kd, tx, nm, of0⟩, er⟩ := r
  obtain ⟨kd2, tx2, nm2, of2⟩ := t
  dsimp only at hrd ho ⊢
  subst ho
  have Hrd := Lib.hid hrd
  clear hrd
  obtain ⟨bv, hbv⟩ : ∃ b, b = ((er == 0) && ((kd == kd2) && ((tx.toList == tx2.toList) && (nm == nm2)))) := ⟨_, rfl⟩
  rw [← hbv]
  have Hb := Lib.hid hbv
  clear hbv
  go_enter Tryz.func37, Tryz.ntmps37
  go_wp2_with (first | (go_at_call 53; refine (Hrd.out _).mono ?_; rintro e w1 ⟨rfl, hbl⟩; obtain ⟨⟨g0, g1, g2, g3⟩, ⟨f0, f1, f2, f3⟩, hsz⟩ := res4 hbl; simp only [Tok.val]))
  all_goals go_ret
  all_goals refine ⟨ret_bool (by rw [Hb.out]; simp [*]), ?_⟩
  all_goals exact ((((Below.refl _ w).alloc (Nat.le_refl _) _).trans (hbl.mono (by simp))).setCell (p := ⟨w.heap.size, 3, none⟩) (Nat.le_refl _) _).alloc (by have := hbl.size; simp at this ⊢; omega) _

theorem extract_all (s : ByteArray) : s.extract 0 s.size = s := by
  apply ByteArray.ext
  rw [ByteArray.data_extract]
  exact Array.extract_size

end Go.Proofs.YtplnnpkohdmiaaaGreatDoor

/- DERIVED. The library's contract of strings.Join at this translation, laid in plain words by the guide's own program. -/
namespace Go.Proofs.YtplnnpkohdmiaaaGreatDoor
open Go.Shelf
def Tryz.lays156_ren : Go.Shelf.Ren := ⟨fun | 156 => 38 | 165 => 54 | 166 => 55 | 169 => 56 | 240 => 79 | 241 => 80 | 276 => 91 | 277 => 92 | n => n, fun | 31 => 33 | 9 => 9 | 3 => 3 | 4 => 4 | 0 => 0 | 20 => 20 | 72 => 93 | 76 => 97 | 70 => 90 | 37 => 91 | 75 => 96 | 127 => 109 | 164 => 116 | 5 => 5 | 80 => 99 | n => n, fun | n => n⟩
theorem Tryz.lays156 : Go.Proofs.Lays.n156 Tryz.prog Tryz.lays156_ren := {
  mixed := by kernel_rfl
  f156 := Tryz.func38.trans (congrArg some (by kernel_rfl))
  f165 := Tryz.func54.trans (congrArg some (by kernel_rfl))
  f166 := Tryz.func55.trans (congrArg some (by kernel_rfl))
  f169 := Tryz.func56.trans (congrArg some (by kernel_rfl))
  f240 := Tryz.func79.trans (congrArg some (by kernel_rfl))
  f241 := Tryz.func80.trans (congrArg some (by kernel_rfl))
  f276 := Tryz.func91.trans (congrArg some (by kernel_rfl))
  f277 := Tryz.func92.trans (congrArg some (by kernel_rfl))
  t0 := Tryz.underlying0
  a0 := Tryz.isAgg0
  z0 := Tryz.sizeOf0
  v0 := Tryz.zeroValue0
  t3 := Tryz.underlying3
  a3 := Tryz.isAgg3
  z3 := Tryz.sizeOf3
  v3 := Tryz.zeroValue3
  t4 := Tryz.underlying4
  a4 := Tryz.isAgg4
  z4 := Tryz.sizeOf4
  v4 := Tryz.zeroValue4
  t9 := Tryz.underlying9
  a9 := Tryz.isAgg9
  z9 := Tryz.sizeOf9
  v9 := Tryz.zeroValue9
  t20 := Tryz.underlying20
  a20 := Tryz.isAgg20
  z20 := Tryz.sizeOf20
  v20 := Tryz.zeroValue20
  t31 := Tryz.underlying33
  a31 := Tryz.isAgg33
  z31 := Tryz.sizeOf33
  v31 := Tryz.zeroValue33
  t37 := Tryz.underlying91
  a37 := Tryz.isAgg91
  z37 := Tryz.sizeOf91
  v37 := Tryz.zeroValue91
  t70 := Tryz.underlying90
  a70 := Tryz.isAgg90
  z70 := Tryz.sizeOf90
  v70 := Tryz.zeroValue90
  t72 := Tryz.underlying93
  a72 := Tryz.isAgg93
  z72 := Tryz.sizeOf93
  v72 := Tryz.zeroValue93
  t75 := Tryz.underlying96
  a75 := Tryz.isAgg96
  z75 := Tryz.sizeOf96
  v75 := Tryz.zeroValue96
  t76 := Tryz.underlying97
  a76 := Tryz.isAgg97
  z76 := Tryz.sizeOf97
  v76 := Tryz.zeroValue97
  t127 := Tryz.underlying109
  a127 := Tryz.isAgg109
  z127 := Tryz.sizeOf109
  v127 := Tryz.zeroValue109
  t164 := Tryz.underlying116
  a164 := Tryz.isAgg116
  z164 := Tryz.sizeOf116
  v164 := Tryz.zeroValue116 }
theorem Tryz.Builder_Extra_156 : Builder.Extra Tryz.prog Tryz.lays156_ren := {
  sizeBuilder := by kernel_rfl
  liesBuilder := by kernel_rfl
  t5 := Tryz.underlying5
  a5 := Tryz.isAgg5
  z5 := Tryz.sizeOf5
  v5 := Tryz.zeroValue5
  infoByte := by kernel_rfl
  cellsByte := by kernel_rfl
  sizeByte := by kernel_rfl
  neB5 := by decide }
open Go.RowKit in
theorem Tryz.strings_Join_none (a : Option Addr) (c : Nat) (sep : ByteArray) (w : World) :
    Calls Tryz.prog 38 #[.slice a 0 c, .string sep] w fun e w' => e = .returned (.string ⟨#[]⟩) ∧ w' = w := Any.strings_Join_none Tryz.lays156 Tryz.Builder_Extra_156 a c sep w
open Go.RowKit in
theorem Tryz.strings_Join (bk o c : Nat) (xs : List ByteArray) (sep : ByteArray) (w : World) (hcells : ∀ (j : Nat) x, xs[j]? = some x → w.cell? ⟨bk, o + j, none⟩ = some (.string x)) (hbk : bk < w.heap.size) (hN : xs.length ≤ 140737488355328) (hcap : xs.length ≤ c) (hlen : (Lib.join (xs.map (·.data.toList)) sep.data.toList).length ≤ 140737488355328) :
    Calls Tryz.prog 38 #[.slice (some ⟨bk, o, none⟩) xs.length c, .string sep] w fun e w' => e = .returned (.string ⟨(Lib.join (xs.map (·.data.toList)) sep.data.toList).toArray⟩) ∧ Below w.heap.size w w' := Any.strings_Join Tryz.lays156 Tryz.Builder_Extra_156 bk o c xs sep w hcells hbk hN hcap hlen
end Go.Proofs.YtplnnpkohdmiaaaGreatDoor

/- DERIVED. The contract of lexis.Print. -/
namespace Go.Proofs.YtplnnpkohdmiaaaGreatDoor
open Go.RowKit
set_option maxRecDepth 100000

def joinB (l : List Tok) : ByteArray := ⟨(Lib.join ((l.map (·.text)).map (·.data.toList)) [32]).toArray⟩
def printOf (l : List Tok) : ByteArray × Int :=
  if l.all validT = true then (if 4096 < (joinB l).size then (⟨#[]⟩, 3) else (joinB l, 0)) else (⟨#[]⟩, 1)

theorem read_len (s : ByteArray) (h : (readOf s).2 = 0) : (readOf s).1.text.size ≤ 12 := by
  have hn : ∀ x : ByteArray, (nameOf x).2 = 0 → (nameOf x).1.text.size ≤ 12 := fun x h => by
    unfold nameOf at h ⊢
    by_cases h1 : 12 < x.size
    · rw [if_pos h1] at h; cases h
    · rw [if_neg h1]; show x.size ≤ 12; omega
  have hm : ∀ x : ByteArray, (numberOf x).2 = 0 → (numberOf x).1.text.size ≤ 12 := fun x h => by
    unfold numberOf at h ⊢
    by_cases h1 : 1 < x.size ∧ (bt x).head? = some 48
    · rw [if_pos h1] at h; cases h
    · rw [if_neg h1] at h ⊢
      by_cases h2 : 9 < x.size
      · rw [if_pos h2] at h; cases h
      · rw [if_neg h2]; show x.size ≤ 12; omega
  unfold readOf at h ⊢
  cases hh : (bt s).head? with
  | none => rw [hh] at h; cases h
  | some c =>
    rw [hh] at h
    simp only at h ⊢
    by_cases hl : isLe c = true
    · rw [if_pos hl] at h ⊢; exact hn _ h
    · rw [if_neg hl] at h ⊢
      by_cases hd : isDi c = true
      · rw [if_pos hd] at h ⊢; exact hm _ h
      · rw [if_neg hd] at h ⊢
        by_cases hg : isSi c = true
        · rw [if_pos hg]; simp only [ByteArray.size_extract]; omega
        · rw [if_neg hg] at h; cases h

theorem valid_len (t : Tok) (h : validT t = true) : t.text.size ≤ 12 := by
  unfold validT at h
  simp only [Bool.and_eq_true, beq_iff_eq] at h
  obtain ⟨h0, _, h1, _⟩ := h
  have := read_len t.text h0
  have e : (readOf t.text).1.text.size = t.text.size := by
    rw [ByteArray.toList_eq, ByteArray.toList_eq] at h1
    rw [← bt_len, ← bt_len]; unfold bt; rw [h1]
  omega

theorem joinTail_len (sep : List UInt8) (r : List (List UInt8)) (n : Nat) (h : ∀ x ∈ r, x.length ≤ n) : (Lib.joinTail sep r).length ≤ r.length * (sep.length + n) := by
  induction r with
  | nil => simp [Lib.joinTail]
  | cons x r ih =>
    have h1 := ih (fun y hy => h y (by simp [hy]))
    have h2 := h x (by simp)
    have : Lib.joinTail sep (x :: r) = (sep ++ x) ++ Lib.joinTail sep r := by simp [Lib.joinTail]
    rw [this, List.length_append, List.length_append, List.length_cons, Nat.succ_mul]
    omega

theorem join_len (l : List Tok) (hl : l.length ≤ 50000) (h : l.all validT = true) : (Lib.join ((l.map (·.text)).map (·.data.toList)) [32]).length ≤ 140737488355328 := by
  cases l with
  | nil => simp [Lib.join]
  | cons a l =>
    rw [List.map_cons, List.map_cons, Lib.join_cons, List.length_append]
    have hv := List.all_eq_true.1 h
    have h1 := joinTail_len [32] ((l.map (·.text)).map (·.data.toList)) 12 (fun x hx => by
      simp only [List.map_map, List.mem_map, Function.comp] at hx
      obtain ⟨t, ht, rfl⟩ := hx
      have := valid_len t (hv t (by simp [ht]))
      rwa [← bt_len] at this)
    have h2 := valid_len a (hv a (by simp))
    rw [← bt_len] at h2
    unfold bt at h2
    simp only [List.length_map, List.length_cons, List.length_nil] at h1 hl
    omega

theorem infoT9 : (Tryz.prog.info? 9).map (fun i => (i.zero, i.size, i.bytes)) = some (some (.string ⟨#[]⟩), 1, 16) := by kernel_rfl

theorem join_call {wr : World} {n₀ : Nat} {tv : Value} {l : List Tok} (hrow : wr.ownsRow n₀ 9 1 tv l.length (l.map fun t => .string t.text)) (hl : l.length ≤ 50000) (hall : l.all validT = true) :
    Calls Tryz.prog 38 #[tv, .string { data := #[32] }] wr fun e w' => e = .returned (.string (joinB l)) ∧ Below wr.heap.size wr w' := by
  have hc := fun g (hg : tv.ownBlock = some g) => hrow.cells hg
  have hlt := hrow.lt
  rcases hrow.2 with ⟨rfl, h0⟩ | ⟨g, cap, cur, rfl, hb, hg, hn, hm, _⟩
  · have hn : l = [] := List.eq_nil_of_length_eq_zero h0
    subst hn
    exact (Tryz.strings_Join_none none 0 _ wr).mono fun e w' ⟨he, hw⟩ => ⟨he, hw ▸ Below.refl _ _⟩
  · have h := Tryz.strings_Join g 0 cap (l.map (·.text)) ⟨#[32]⟩ wr (fun j x hj => by
      have h1 := hc g rfl j (.string x) (by
        rw [List.getElem?_map] at hj ⊢
        cases hlj : l[j]? with
        | none => rw [hlj] at hj; cases hj
        | some t => rw [hlj] at hj; injection hj with hj; rw [← hj]; rfl)
      rw [add0] at h1
      rwa [Nat.zero_add]) (hlt g rfl).2 (by rw [List.length_map]; omega) (by rw [List.length_map]; exact hn) (join_len l hl hall)
    rw [List.length_map] at h
    exact h

/-- What stands between two rounds of Print's loop. -/
def PrRel (l : List Tok) (w : World) (tv iv : Value) (wr : World) : Prop :=
  ∃ k : Nat, iv = .int .i64 k ∧ k ≤ l.length ∧ wr.ownsRow w.heap.size 9 1 tv k ((l.take k).map fun t => .string t.text) ∧ (∀ t ∈ l.take k, validT t = true) ∧ Below w.heap.size w wr

set_option maxHeartbeats 1000000 in
theorem c_Print (v : Value) (l : List Tok) (hl : l.length ≤ 50000) (hz : ∀ t ∈ l, t.text.size ≤ maxLen) (w : World) (hv : TokSl w w.heap.size v l) :
    Calls Tryz.prog 16 #[v] w fun e w' => e = .returned (.tuple #[.string (printOf l).1, .int .i64 (printOf l).2]) ∧ Below w.heap.size w w' := by
  obtain ⟨A, c, rfl, h2, h3, -⟩ := id hv
  obtain ⟨i0, hi, hz0, hz1, hz2⟩ := info_parts infoT9
  unfold maxLen at h3
  have Hv := Lib.hid hv
  have Hz := Lib.hid hz
  clear hv hz
  go_enter Tryz.func16, Tryz.ntmps16
  go_wp2
  go_loopw [4, 10] (fun tv iv wr => PrRel l w tv iv wr) (fun tv iv wr => l.length - (intOf iv).toNat)
  case atStart => exact ⟨0, rfl, Nat.zero_le _, World.ownsRow_nil _ _ _ _, (by intro t ht; cases ht), Below.refl _ _⟩
  case round =>
    obtain ⟨k, rfl, hk, hrow, hval, hB⟩ := hrel
    by_cases hlt : k < l.length
    · obtain ⟨b1, o1, c1, e1, hbb, -, -, g0, g1, g2, g3⟩ := (Hv.out.below hB (Nat.le_refl _)).at_ hlt
      injection e1 with e1 _ e1'
      subst e1 e1'
      have hcv := c_valid l[k] (Hz.out _ (List.getElem_mem hlt))
      have hts : l.take (k + 1) = l.take k ++ [l[k]] := by rw [List.take_succ_eq_append_getElem hlt]
      have Hcv := Lib.hid hcv
      have Hts := Lib.hid hts
      have Hval := Lib.hid hval
      clear hcv hts hval
      cases hb : validT l[k]
      · have hp : printOf l = (⟨#[]⟩, 1) := by
          unfold printOf
          rw [if_neg]
          intro h
          have := List.all_eq_true.1 h l[k] (List.getElem_mem hlt)
          rw [hb] at this; cases this
        have Hb := Lib.hid hb
        have Hp := Lib.hid hp
        clear hb hp
        go_wp2_with (first | (go_at_call 37; refine (Hcv.out _).mono ?_; rintro e w1 ⟨rfl, hbl⟩; rw [Hb.out]))
        rw [Hp.out]
        go_ret2
        exact ⟨rfl, hB.trans ((((Below.refl wr.heap.size wr).alloc (Nat.le_refl _) _).trans (hbl.mono (by simp))).mono hB.size)⟩
      · have Hb := Lib.hid hb
        clear hb
        go_wp2_with (first | (go_at_call 37; refine (Hcv.out _).mono ?_; rintro e w1 ⟨rfl, hbl⟩; rw [Hb.out]; obtain ⟨⟨q0, q1, q2, q3⟩, -, hsz⟩ := res4 hbl; have hr1 := ownsRow_below (hrow.alloc (.cells #[.int .u8 l[k].kind, .string l[k].text, .int .i64 l[k].num, .int .i64 l[k].off] 62)) hbl) | (at_builtin; refine wpList_append_own _ rfl _ _ 33 rfl w.heap.size 9 i0 (.string ⟨#[]⟩) 1 16 Tryz.underlying33 hi hz0 hz1 hz2 rfl (by decide) _ _ _ rfl (hr1.alloc _) ⟨w1.heap.size, 0, none⟩ 1 1 [.string l[k].text] rfl rfl (cell_one_new _ _ _) (by simp [Value.oneCell']) (by simp only [maxLen]; omega) (by omega) (by have h1 := hB.size; simp; omega) ?_; intro v' w3 hown' hgrow _; obtain ⟨g', cap', rfl⟩ := ownsRow_succ hown'))
        refine ⟨⟨k + 1, by go_num, by omega, by rw [Hts.out, List.map_append]; exact hown', ?_, ?_⟩, by simp [intOf]; omega⟩
        · rw [Hts.out]
          intro t ht
          rcases List.mem_append.1 ht with h | h
          · exact Hval.out t h
          · rw [List.mem_singleton.1 h]; exact Hb.out
        · have hlt' := hrow.lt
          exact ((hB.trans ((((Below.refl wr.heap.size wr).alloc (Nat.le_refl _) _).trans (hbl.mono (by simp))).mono hB.size)).alloc (by have h1 := hB.size; omega) _).grown hgrow (by have h1 := hB.size; simp; omega) (fun g e => (hlt' g e).1)
    · have hkl : l.take k = l := List.take_of_length_le (by omega)
      obtain rfl : k = l.length := by omega
      rw [hkl] at hrow hval
      have hall : l.all validT = true := List.all_eq_true.2 hval
      have hp : printOf l = if 4096 < (joinB l).size then (⟨#[]⟩, 3) else (joinB l, 0) := by unfold printOf; rw [if_pos hall]
      have hj := join_call hrow hl hall
      generalize joinB l = S at hj hp
      by_cases h4 : 4096 < S.size
      · rw [if_pos h4] at hp
        have Hp := Lib.hid hp
        have Hj := Lib.hid hj
        clear hp hj hall hval hkl hrow
        go_wp2_with (go_at_call 38; refine Hj.out.mono ?_; rintro e w1 ⟨rfl, hbl⟩)
        rw [Hp.out]
        go_ret2
        exact ⟨rfl, hB.trans (hbl.mono hB.size)⟩
      · rw [if_neg h4] at hp
        have Hp := Lib.hid hp
        have Hj := Lib.hid hj
        clear hp hj hall hval hkl hrow
        go_wp2_with (go_at_call 38; refine Hj.out.mono ?_; rintro e w1 ⟨rfl, hbl⟩)
        rw [Hp.out]
        go_ret2
        exact ⟨rfl, hB.trans (hbl.mono hB.size)⟩
end Go.Proofs.YtplnnpkohdmiaaaGreatDoor

/- DERIVED. The library's contract of strconv.Itoa at this translation, laid in plain words by the guide's own program. -/
namespace Go.Proofs.YtplnnpkohdmiaaaGreatDoor
open Go.Shelf
def Tryz.laysM171_ren : Go.Shelf.Ren := ⟨fun | 171 => 71 | 243 => 90 | 246 => 109 | 283 => 112 | 284 => 113 | 285 => 114 | 286 => 115 | 129 => 117 | 317 => 116 | 318 => 118 | 319 => 119 | 320 => 120 | 337 => 121 | 338 => 122 | n => n, fun | 3 => 3 | 9 => 9 | 2 => 2 | 4 => 4 | 171 => 122 | 0 => 0 | 53 => 123 | 37 => 91 | 5 => 5 | 173 => 126 | 212 => 130 | 51 => 131 | 20 => 20 | 213 => 132 | 46 => 134 | 232 => 137 | 233 => 138 | n => n, fun | 17 => 1 | 18 => 2 | 19 => 3 | n => n⟩
theorem Tryz.laysM171 : Go.Proofs.LaysM.n171 Tryz.prog Tryz.laysM171_ren := {
  mixed := by kernel_rfl
  f129 := Tryz.func117.trans (congrArg some (by kernel_rfl))
  f171 := Tryz.func71.trans (congrArg some (by kernel_rfl))
  f243 := Tryz.func90.trans (congrArg some (by kernel_rfl))
  f246 := Tryz.func109.trans (congrArg some (by kernel_rfl))
  f283 := Tryz.func112.trans (congrArg some (by kernel_rfl))
  f284 := Tryz.func113.trans (congrArg some (by kernel_rfl))
  f285 := Tryz.func114.trans (congrArg some (by kernel_rfl))
  f286 := Tryz.func115.trans (congrArg some (by kernel_rfl))
  f317 := Tryz.func116.trans (congrArg some (by kernel_rfl))
  f318 := Tryz.func118.trans (congrArg some (by kernel_rfl))
  f319 := Tryz.func119.trans (congrArg some (by kernel_rfl))
  f320 := Tryz.func120.trans (congrArg some (by kernel_rfl))
  f337 := Tryz.func121.trans (congrArg some (by kernel_rfl))
  f338 := Tryz.func122.trans (congrArg some (by kernel_rfl))
  t0 := Tryz.underlying0
  a0 := Tryz.isAgg0
  z0 := Tryz.sizeOf0
  v0 := Tryz.zeroValue0
  t2 := Tryz.underlying2
  a2 := Tryz.isAgg2
  z2 := Tryz.sizeOf2
  v2 := Tryz.zeroValue2
  t3 := Tryz.underlying3
  a3 := Tryz.isAgg3
  z3 := Tryz.sizeOf3
  v3 := Tryz.zeroValue3
  t4 := Tryz.underlying4
  a4 := Tryz.isAgg4
  z4 := Tryz.sizeOf4
  v4 := Tryz.zeroValue4
  t5 := Tryz.underlying5
  a5 := Tryz.isAgg5
  z5 := Tryz.sizeOf5
  v5 := Tryz.zeroValue5
  t9 := Tryz.underlying9
  a9 := Tryz.isAgg9
  z9 := Tryz.sizeOf9
  v9 := Tryz.zeroValue9
  t20 := Tryz.underlying20
  a20 := Tryz.isAgg20
  z20 := Tryz.sizeOf20
  v20 := Tryz.zeroValue20
  t37 := Tryz.underlying91
  a37 := Tryz.isAgg91
  z37 := Tryz.sizeOf91
  v37 := Tryz.zeroValue91
  t46 := Tryz.underlying134
  a46 := Tryz.isAgg134
  z46 := Tryz.sizeOf134
  v46 := Tryz.zeroValue134
  t51 := Tryz.underlying131
  a51 := Tryz.isAgg131
  z51 := Tryz.sizeOf131
  v51 := Tryz.zeroValue131
  t53 := Tryz.underlying123
  a53 := Tryz.isAgg123
  z53 := Tryz.sizeOf123
  v53 := Tryz.zeroValue123
  t171 := Tryz.underlying122
  a171 := Tryz.isAgg122
  z171 := Tryz.sizeOf122
  v171 := Tryz.zeroValue122
  t173 := Tryz.underlying126
  a173 := Tryz.isAgg126
  z173 := Tryz.sizeOf126
  v173 := Tryz.zeroValue126
  t212 := Tryz.underlying130
  a212 := Tryz.isAgg130
  z212 := Tryz.sizeOf130
  v212 := Tryz.zeroValue130
  t213 := Tryz.underlying132
  a213 := Tryz.isAgg132
  z213 := Tryz.sizeOf132
  t232 := Tryz.underlying137
  a232 := Tryz.isAgg137
  z232 := Tryz.sizeOf137
  v232 := Tryz.zeroValue137
  t233 := Tryz.underlying138
  a233 := Tryz.isAgg138
  z233 := Tryz.sizeOf138
  v233 := Tryz.zeroValue138
  g17 := by kernel_rfl
  g18 := by kernel_rfl
  g19 := by kernel_rfl
  i0 := by kernel_rfl
  i2 := by kernel_rfl
  i3 := by kernel_rfl
  i4 := by kernel_rfl
  i5 := by kernel_rfl
  i9 := by kernel_rfl
  i20 := by kernel_rfl
  i37 := by kernel_rfl
  i46 := by kernel_rfl
  i51 := by kernel_rfl
  i53 := by kernel_rfl
  i171 := by kernel_rfl
  i173 := by kernel_rfl
  i212 := by kernel_rfl
  i232 := by kernel_rfl
  i233 := by kernel_rfl
  m17 := by kernel_rfl
  m18 := by kernel_rfl
  m19 := by kernel_rfl }
open Go.RowKit Go.Sort Go.Lib in
theorem Tryz.strconv_Itoa (n : Int) (h0 : -9223372036854775808 ≤ n) (h1 : n ≤ 9223372036854775807) (w : World) (htab : Lib.TabIs Tryz.prog w "internal/strconv.uint64pow10" .u64 Lib.pow10Tab) :
    Calls Tryz.prog 71 #[.int .i64 n] w fun e w' => e = .returned (.string ⟨(Lib.itoa n).toArray⟩) ∧ ∃ k os, w' = grow (w.drewN k) os := Any.strconv_Itoa Tryz.laysM171 n h0 h1 w htab
end Go.Proofs.YtplnnpkohdmiaaaGreatDoor
