/-
  DERIVED. Several texts in one.
-/
import Derived.Test.YtjheaeeeeggncaaPB6
import Derived.Test.YtjheaeeeeggncaaPB3
import Derived.Test.YtjheaeeeeggncaaRows
import Derived.Handed
import Derived.OpenShut
import Derived.Deep.Fields
import Derived.Deep.Slices
import Derived.ChangeSame
import Derived.ChangeSlices
set_option linter.unusedVariables false
set_option linter.unusedSimpArgs false

namespace Go.Proofs.Ytjheaeeeeggncaa
open Go.RowKit Go.Shelf
attribute [local go_sem] Oper.semAt_some
set_option maxRecDepth 100000
set_option linter.unusedVariables false
set_option linter.unusedSimpArgs false

/-- Chains that contain each element once. -/
structure DvOk (n : Nat) (f : Nat → Nat) (CH : List (List Nat)) : Prop where
  ne : ∀ C ∈ CH, C ≠ []
  lt : ∀ x ∈ CH.flatten, x < n
  nd : CH.flatten.Nodup
  ord : ∀ C ∈ CH, ∀ q x y, C[q]? = some y → C[q + 1]? = some x → (f x).testBit y = true
  all : ∀ x, x < n → x ∈ CH.flatten
def bN (l : List Nat) : Nat := l.foldl (fun s i => s ||| 1 <<< i) 0
theorem bN_snoc (l : List Nat) (i : Nat) : bN (l ++ [i]) = bN l ||| 1 <<< i := by simp [bN]
theorem bN_go : ∀ (l : List Nat) (s k : Nat), (l.foldl (fun s i => s ||| 1 <<< i) s).testBit k = (s.testBit k || decide (k ∈ l))
  | [], s, k => by simp
  | i :: l, s, k => by
    rw [List.foldl_cons, bN_go l, or_bit]
    by_cases h : i = k
    · subst h; simp
    · have h2 : ¬ k = i := fun e => h e.symm
      simp [h, h2]
theorem bN_tb (l : List Nat) (k : Nat) : (bN l).testBit k = decide (k ∈ l) := by
  unfold bN; rw [bN_go]; simp
theorem on_bit64 (s k : Nat) (hs : s < 65536) (hk : k ≤ 64) : (bits BinOp.and IntKind.i64 ((s : Int) / 2 ^ k) 1 == 1) = s.testBit k := by
  have h0 := off_bit64 s k hs hk
  have e1 : ((s : Int) / 2 ^ k) = ((s / 2 ^ k : Nat) : Int) := by simp
  have hlt : s / 2 ^ k < 65536 := Nat.lt_of_le_of_lt (Nat.div_le_self _ _) hs
  rw [e1, show (1 : Int) = ((1 : Nat) : Int) from rfl, bits_and64 _ 1 hlt (by decide)] at h0 ⊢
  rw [Nat.and_one_is_mod] at h0 ⊢
  cases e : s.testBit k
  · rw [e] at h0
    have h0 := eq_of_beq h0
    rw [beq_eq_false_iff_ne]; omega
  · rw [e] at h0
    have h0 := ne_of_beq_false h0
    rw [beq_iff_eq]; omega
theorem take_in {CH : List (List Nat)} {p q x : Nat} {C : List Nat} (hC : CH[p]? = some C) (hx : C[q]? = some x) (hn : CH.flatten.Nodup) : x ∉ (CH.take p).flatten ++ C.take q := by
  have e : CH.flatten = ((CH.take p).flatten ++ C.take q) ++ x :: (C.drop (q + 1) ++ (CH.drop (p + 1)).flatten) := by
    have h1 : CH = CH.take p ++ C :: CH.drop (p + 1) := by rw [← drop_at hC, List.take_append_drop]
    have h2 : C = C.take q ++ x :: C.drop (q + 1) := by rw [← drop_at hx, List.take_append_drop]
    conv => lhs; rw [h1]
    rw [List.flatten_append, List.flatten_cons]
    conv => lhs; rw [h2]
    simp
  rw [e] at hn
  intro hm
  exact (List.nodup_append.1 hn).2.2 x hm x (by simp) rfl
set_option maxHeartbeats 16000000 in
theorem c_Divides (A : Option Addr) (c : Nat) (xs : List LsV) (hn : xs.length ≤ 12) (hok : NmOk xs) (w : World) (h : LsAt w A c xs) (A2 : Option Addr) (c2 : Nat) (ys : List LsV) (h2 : LsAt w A2 c2 ys) (CH : List (List Nat)) (hCH : lsL ys = CH.map intsN) (hD : DvOk xs.length (ordF xs) CH) :
    Calls Try.prog 40 #[.slice A xs.length c, .slice A2 ys.length c2] w fun e w' => e = .returned (.bool true) ∧ Below w.heap.size w w' := by
  have HB := Lib.hid (c_before2 A c xs hn hok w h)
  have H2 := Lib.hid h2
  have HD := Lib.hid hD
  have HCH := Lib.hid hCH
  have HF := Lib.hid (ordF_lt hn hok)
  have k1 := h2.1.1; have k2 := h2.1.2.1
  unfold maxLen at k2
  obtain ⟨n, hN⟩ : ∃ n, xs.length = n := ⟨_, rfl⟩
  obtain ⟨f, hf⟩ : ∃ f, ordF xs = f := ⟨_, rfl⟩
  rw [hN, hf] at HB HD
  rw [hf] at HF
  rw [hN] at hn ⊢
  have hp12 := pow12 hn
  clear h h2 hD hCH hok hN hf
  go_enter Try.func40, Try.ntmps40
  go_wp2_with (fail)
  go_at_call 50
  refine HB.out.mono ?_
  rintro e w1 ⟨g, rfl, hg, hbk, b1⟩
  have HB1 := Lib.hid b1
  have HBK := Lib.hid hbk
  have HY := Lib.hid (H2.out.on b1 (Nat.le_refl _))
  clear hbk b1 hg
  go_wp2_with (fail)
  go_loopw [6, 15] (fun s i wr => ∃ (p k : Nat), p ≤ ys.length ∧ i = .int .i64 (p : Int) ∧ s = .int .i64 (k : Int) ∧ Hid (k = bN (CH.take p).flatten) ∧ k < 2 ^ n ∧ Hid (Below w1.heap.size w1 wr)) (fun _ i _ => ys.length - (intOf i).toNat)
  case atStart => exact ⟨0, 0, Nat.zero_le _, rfl, rfl, Lib.hid rfl, Nat.two_pow_pos n, Lib.hid (Below.refl _ _)⟩
  case round =>
    obtain ⟨p, k, hp, rfl, rfl, hk, hkn, hB⟩ := hrel
    have hpi : ((p : Nat) : Int).toNat = p := by omega
    by_cases hlt : p < ys.length
    · have hpl : (p : Int) < ((ys.length : Nat) : Int) := by omega
      obtain ⟨y, hy⟩ : ∃ y, ys[p]? = some y := ⟨_, List.getElem?_eq_getElem hlt⟩
      obtain ⟨C, hC, hyC⟩ : ∃ C, CH[p]? = some C ∧ y.l = intsN C := by
        have h0 := lsL_at hy
        rw [HCH.out, List.getElem?_map] at h0
        obtain ⟨C, h1, h2⟩ := Option.map_eq_some_iff.1 h0
        exact ⟨C, h1, h2.symm⟩
      obtain ⟨bb, oo, rfl, -, -⟩ := HY.out.1.at_ hy
      have y0 := ls_at (HY.out.on hB.out (Nat.le_refl _)).1 hy
      have HR := Lib.hid (HY.out.2 y (List.mem_of_getElem? hy))
      obtain ⟨yA, yc, yl⟩ := y
      simp only at hyC HR y0
      subst hyC
      have hCne := HD.out.ne C (List.mem_of_getElem? hC)
      have HC := Lib.hid hC
      have hcl : 0 < C.length := by
        rcases Nat.eq_zero_or_pos C.length with h | h
        · exact absurd (List.eq_nil_of_length_eq_zero h) hCne
        · exact h
      rw [intsN_len] at y0
      have hc1 := HR.out.1; have hc2 := HR.out.2.1
      unfold maxLen at hc2
      rw [intsN_len] at hc1
      have hz0 : ((C.length : Int) == 0) = false := by rw [beq_eq_false_iff_ne]; omega
      clear hy hC hCne
      go_wp2_with (fail)
      clear y0
      have hcl12 : C.length ≤ 12 := by
        have h1 : ∀ x ∈ C, x < n := fun x hx => HD.out.lt x (List.mem_flatten.2 ⟨C, List.mem_of_getElem? HC.out, hx⟩)
        have h2 : C.Nodup := by
          have h3 : CH = CH.take p ++ C :: CH.drop (p + 1) := by rw [← drop_at HC.out, List.take_append_drop]
          have h4 := HD.out.nd
          rw [h3, List.flatten_append, List.flatten_cons] at h4
          exact (List.nodup_append.1 (List.nodup_append.1 h4).2.1).1
        exact Nat.le_trans (nodup_le n C h2 h1) hn
      go_loopw [6, 24] (fun s i wr => ∃ (q k : Nat), q ≤ C.length ∧ i = .int .i64 (q : Int) ∧ s = .int .i64 (k : Int) ∧ Hid (k = bN ((CH.take p).flatten ++ C.take q)) ∧ k < 2 ^ n ∧ Hid (Below w1.heap.size w1 wr)) (fun _ i _ => C.length - (intOf i).toNat)
      case atStart => exact ⟨0, k, Nat.zero_le _, rfl, rfl, Lib.hid (by rw [hk.out]; simp), hkn, hB⟩
      case round =>
        obtain ⟨q, k', hq, rfl, rfl, hk', hkn', hB⟩ := hrel
        have hqi : ((q : Nat) : Int).toNat = q := by omega
        by_cases hlt2 : q < C.length
        · have hql : (q : Int) < ((C.length : Nat) : Int) := by omega
          obtain ⟨x, hx⟩ : ∃ x, C[q]? = some x := ⟨_, List.getElem?_eq_getElem hlt2⟩
          have hxi : (intsN C)[q]? = some (x : Int) := by simp [intsN, hx]
          obtain ⟨b2, o2, rfl, -, -⟩ := HR.out.at_ hxi
          have y1 := inV_at (HR.out.on hB.out (Nat.le_refl _)) hxi
          have hxn := HD.out.lt x (List.mem_flatten.2 ⟨C, List.mem_of_getElem? HC.out, List.mem_of_getElem? hx⟩)
          have hnin := take_in HC.out hx HD.out.nd
          have g1 : decide ((x : Int) < 0) = false := decide_eq_false (by omega)
          have g2 : decide ((n : Int) ≤ (x : Int)) = false := decide_eq_false (by omega)
          have g2n : decide (n ≤ x) = false := decide_eq_false (by omega)
          have g3 := on_bit64 k' x (by omega) (by omega)
          rw [show k'.testBit x = false by rw [hk'.out, bN_tb, decide_eq_false hnin]] at g3
          have hK2 := Lib.hid (show k' ||| 1 <<< x = bN ((CH.take p).flatten ++ C.take (q + 1)) by rw [hk'.out, List.take_add_one, hx]; show _ = bN (_ ++ (_ ++ [x])); rw [← List.append_assoc, bN_snoc])
          have hk2 := put_lt hkn' hxn
          have hsh := shl64 (k := x) (by omega)
          have hdl : 1 <<< x < 65536 := Nat.lt_of_lt_of_le (show 1 <<< x < 2 ^ 12 by rw [Nat.one_shiftLeft]; exact Nat.pow_lt_pow_right (by omega) (by omega)) (by decide)
          have hor := bits_or64 k' (1 <<< x) (by omega) hdl
          have hxl : (x : Int) < (n : Int) := by omega
          obtain ⟨d, hd⟩ : ∃ d, 1 <<< x = d := ⟨_, rfl⟩
          rw [hd] at hK2 hk2 hsh hor hdl
          obtain ⟨k2, hk2e⟩ : ∃ y, k' ||| d = y := ⟨_, rfl⟩
          rw [hk2e] at hK2 hk2 hor
          clear hd hk2e hnin
          have hx64 : (x : Int) ≤ 64 := by omega
          have hx12 : x ≤ 64 := by omega
          by_cases hq0 : q = 0
          · have g4 : decide ((0 : Int) < (q : Int)) = false := decide_eq_false (by omega)
            have g4n : decide (0 < q) = false := decide_eq_false (by omega)
            have HQ0 := Lib.hid hq0
            clear hq0
            go_wp2_with (fail)
            go_quiet (fail)
            go_wp2_with (fail)
            go_roundw
            case rel => exact ⟨q + 1, k2, by omega, by go_num, rfl, hK2, hk2, Lib.hid (below_drewN hB.out)⟩
            case measure => simp only [intOf]; omega
          · obtain ⟨q', hq'⟩ : ∃ q', q = q' + 1 := ⟨q - 1, by omega⟩
            obtain ⟨y, hy⟩ : ∃ y, C[q']? = some y := ⟨_, List.getElem?_eq_getElem (by omega)⟩
            have hyi : (intsN C)[q']? = some (y : Int) := by simp [intsN, hy]
            have y2 := inV_at (HR.out.on hB.out (Nat.le_refl _)) hyi
            have hql2 : (q' : Int) < ((C.length : Nat) : Int) := by omega
            have hql0 : (0 : Int) ≤ (q' : Int) := by omega
            have hqi2 : ((q' : Nat) : Int).toNat = q' := by omega
            have hqw : IntKind.i64.wrap ((q : Int) - 1) = (q' : Int) := by rw [show (q : Int) - 1 = (q' : Int) by omega]; exact wrap_in (by omega) (by omega)
            have y3 := (show Bki wr g n f from (hB.out.block _ (at_lt HBK.out)).trans HBK.out).at_ hxn
            have hyn := HD.out.lt y (List.mem_flatten.2 ⟨C, List.mem_of_getElem? HC.out, List.mem_of_getElem? hy⟩)
            have g4 : decide ((0 : Int) < (q : Int)) = true := decide_eq_true (by omega)
            have g4n : decide (0 < q) = true := decide_eq_true (by omega)
            have g5 := off_bit64 (f x) y (by have := HF.out x; omega) (by omega)
            have hxq : C[q' + 1]? = some x := by rw [← hq']; exact hx
            rw [HD.out.ord C (List.mem_of_getElem? HC.out) q' x y hy hxq] at g5
            obtain ⟨z, hz⟩ : ∃ z, f x = z := ⟨_, rfl⟩
            rw [hz] at y3 g5
            have hy64 : (y : Int) ≤ 64 := by omega
            have hy12 : y ≤ 64 := by omega
            have HQ' := Lib.hid hq'
            clear hz hx hxi hy hyi hq' hq0 hxq
            go_wp2_with (fail)
            go_quiet (fail)
            go_wp2_with (fail)
            go_roundw
            case rel => exact ⟨q + 1, k2, by omega, by go_num, rfl, hK2, hk2, Lib.hid (below_drewN hB.out)⟩
            case measure => simp only [intOf]; omega
        · obtain rfl : q = C.length := by omega
          have hK3 := Lib.hid (show k' = bN (CH.take (p + 1)).flatten by rw [hk'.out, List.take_of_length_le (Nat.le_refl _), List.take_add_one, HC.out]; simp)
          go_wp2_with (fail)
          go_roundw
          case rel => exact ⟨p + 1, k', by omega, by go_num, rfl, hK3, hkn', hB⟩
          case measure => simp only [intOf]; omega
    · obtain rfl : p = ys.length := by omega
      have hall : k = 2 ^ n - 1 := by
        rw [hk.out, List.take_of_length_le (by have := congrArg List.length HCH.out; unfold lsL at this; simp at this; omega)]
        refine Nat.eq_of_testBit_eq fun j => ?_
        rw [bN_tb, Nat.testBit_two_pow_sub_one]
        by_cases hj : j < n
        · rw [decide_eq_true (HD.out.all j hj), decide_eq_true hj]
        · have hno : j ∉ CH.flatten := fun hm => hj (HD.out.lt j hm)
          rw [decide_eq_false hno, decide_eq_false hj]
      subst hall
      have hs1 := shl12 (k := n) hn
      have hs2 : IntKind.i64.wrap (((2 ^ n : Nat) : Int) - 1) = ((2 ^ n - 1 : Nat) : Int) := by
        have := Nat.two_pow_pos n
        rw [wrap_in (by omega) (by omega)]; omega
      go_wp2_with (fail)
      go_ret
      have h9 : ((((2 ^ n - 1 : Nat) : Int)) == wrap64 ((2 : Int) ^ n - 1)) = true := by
        have e9 : (2 : Int) ^ n = ((2 ^ n : Nat) : Int) := by simp
        have h0 := Nat.two_pow_pos n
        rw [e9, beq_iff_eq]
        generalize 2 ^ n = z at *
        unfold wrap64
        omega
      exact ⟨(show Ending.returned (.bool (((2 ^ n - 1 : Nat) : Int) == wrap64 ((2 : Int) ^ n - 1))) = .returned (.bool true) by rw [h9]), below_join HB1.out hB.out HB1.out.size⟩
end Go.Proofs.Ytjheaeeeeggncaa

namespace Go.Proofs.Ytjheaeeeeggncaa
open Go.ChangeShapes Go.WideShapes Go.Deep Go.RowKit
set_option maxRecDepth 100000
set_option linter.unusedSimpArgs false
set_option linter.unusedVariables false

theorem cells_is : Try.prog.cellsOf 33 = 1 := by kernel_rfl
theorem cell_lt3 {w : World} {b o : Nat} {v : Value} (h : w.cell? ⟨b, o, none⟩ = some v) : b < w.heap.size := by
  unfold World.cell? at h
  cases hb : w.heap[b]? with
  | none => simp [hb] at h
  | some ob => exact (Array.getElem?_eq_some_iff.1 hb).1
theorem plain_add (b o j : Nat) : (⟨b, o, none⟩ : Addr).add j = ⟨b, o + j, none⟩ := by unfold Addr.add; split <;> simp_all
theorem add_spot {w : World} {a : Addr} {v : Value} (h : w.cell? (a.add 0) = some v) : ∃ b o, a = ⟨b, o, none⟩ ∧ b < w.heap.size := by
  obtain ⟨b, off, spot⟩ := a
  have hsp : spot = none := by simpa [Addr.add] using World.cell?_spot h
  subst hsp
  rw [plain_add] at h
  exact ⟨b, off, rfl, cell_lt3 h⟩
theorem cells_it : Try.prog.cellsOf 3 = 1 := by kernel_rfl
section
variable {H : Type} {enc : TypeId × Value → H} {W : World} {base : Nat} {spare : Nat → Bool} {held : Bool} {r : Go.Reach} {b0 : Nat} {v : Value} {d : DataW H} {p : List MemPlace}
theorem open_one64 {fuel : Nat} {x : DataW H × List MemPlace} {u : Value} (hf : DataW.trod enc Try.prog W base spare held fuel 3 [u] = some x) : ∃ n : Int, u = .int .i64 n := by
  obtain ⟨n, g, -, -⟩ := DataW.trod_int Try.underlying3 hf
  simp at g
  exact ⟨n, g⟩
/-- Numbers. -/
theorem open_sInt {fuel : Nat} {x : DataW H × List MemPlace} (hf : DataW.trod enc Try.prog W base spare held fuel 33 [v] = some x) : ∃ (A : Option Addr) (c : Nat) (l : List Int), v = .slice A l.length c ∧ Rv 1 inV W A c l := by
  rcases open_slice Try.underlying33 hf with ⟨h0, _⟩ | ⟨a, len, cap, m, n, D, Pl, hcs, hb, hl, hm, hmm, hx, hi⟩
  · simp at h0
    subst h0
    exact ⟨none, 0, [], rfl, Rv.nil _⟩
  · simp at hcs
    subst hcs
    have hel : ∀ i, i < len → ∃ y : Int, W.cell? (a.add (i * 1)) = some (.int .i64 y) := by
      intro i him
      obtain ⟨cs', hc, ht'⟩ := hi i (by rw [hmm]; split <;> omega)
      rw [cells_it] at hc
      obtain ⟨_, hcl, hat⟩ := World.cells?_some hc
      match cs', hcl with
      | [c0], _ =>
        obtain ⟨p0, rfl⟩ := open_one64 (u := c0) ht'
        have e0 := hat 0 (by omega)
        rw [Go.Deep.add_add] at e0
        exact ⟨p0, by simpa using e0⟩
    obtain ⟨G, hG⟩ := choose_lt hel
    refine ⟨some a, cap, (List.range len).map G, by simp, by simpa using hl, hm, (by intro h; cases h), fun h0 => ?_⟩
    have h0' : 0 < len := by simpa using h0
    obtain ⟨b, off, rfl, hlt⟩ := add_spot (by simpa using hG 0 h0')
    refine ⟨b, off, rfl, hlt, fun j q hj i hi2 => ?_⟩
    have hjl : j < len := by have := (List.getElem?_eq_some_iff.1 hj).1; simpa using this
    rw [List.getElem?_map, List.getElem?_range hjl] at hj
    injection hj with hj
    subst hj
    obtain rfl : i = 0 := by omega
    have e := hG j hjl
    rw [plain_add] at e
    exact e
theorem open_li {fuel : Nat} {x : DataW H × List MemPlace} (hf : DataW.trod enc Try.prog W base spare held fuel 22 [v] = some x) : ∃ (A : Option Addr) (c : Nat) (xs : List LsV), v = .slice A xs.length c ∧ LsAt W A c xs := by
  rcases open_slice Try.underlying22 hf with ⟨h0, _⟩ | ⟨a, len, cap, m, n, D, Pl, hcs, hb, hl, hm, hmm, hx, hi⟩
  · simp at h0
    subst h0
    exact ⟨none, 0, [], rfl, Rv.nil _, fun x hx => by cases hx⟩
  · simp at hcs
    subst hcs
    have hel : ∀ i, i < len → ∃ y : LsV, W.cell? (a.add i) = some (.slice y.A y.l.length y.c) ∧ Rv 1 inV W y.A y.c y.l := by
      intro i him
      obtain ⟨cs', hc, ht'⟩ := hi i (by rw [hmm]; split <;> omega)
      rw [cells_is] at hc
      obtain ⟨_, hcl, hat⟩ := World.cells?_some hc
      match cs', hcl with
      | [u], _ =>
        obtain ⟨A, c, l, rfl, hr⟩ := open_sInt ht'
        refine ⟨⟨A, c, l⟩, ?_, hr⟩
        have := hat 0 (by omega)
        rw [Go.Deep.add_add] at this
        simpa using this
    haveI : Inhabited LsV := ⟨⟨none, 0, []⟩⟩
    obtain ⟨F, hF⟩ := choose_lt hel
    refine ⟨some a, cap, (List.range len).map F, by simp, ⟨by simpa using hl, hm, (by intro h; cases h), fun h0 => ?_⟩, fun x hx => ?_⟩
    · have h0' : 0 < len := by simpa using h0
      obtain ⟨b, off, rfl, hlt⟩ := add_spot (hF 0 h0').1
      refine ⟨b, off, rfl, hlt, fun j q hj i hi2 => ?_⟩
      have hjl : j < len := by have := (List.getElem?_eq_some_iff.1 hj).1; simpa using this
      rw [List.getElem?_map, List.getElem?_range hjl] at hj
      injection hj with hj
      subst hj
      obtain rfl : i = 0 := by omega
      have := (hF j hjl).1
      rw [plain_add] at this
      simpa [lsV] using this
    · obtain ⟨j, hj, rfl⟩ := List.mem_map.1 hx
      exact (hF j (List.mem_range.1 hj)).2
theorem open_lists (h : DataW.Trod enc Try.prog W base spare held 22 v d p) (hv : Value.okWide Try.prog W r b0 22 v) : ∃ (A : Option Addr) (c : Nat) (xs : List LsV), v = .slice A xs.length c ∧ LsAt W A c xs := by
  obtain ⟨a0, len0, cap0, rfl⟩ := okWide_slice Try.underlying22 hv
  obtain ⟨fuel, hf⟩ := h
  exact open_li (by simpa [Value.cells] using hf)
end
end Go.Proofs.Ytjheaeeeeggncaa
