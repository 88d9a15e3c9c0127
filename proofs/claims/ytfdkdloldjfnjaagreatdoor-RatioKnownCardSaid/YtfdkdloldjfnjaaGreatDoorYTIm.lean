/-
  DERIVED. Several texts in one.
-/
import Derived.Test.YtfdkdloldjfnjaaGreatDoorYTGm
set_option linter.unusedVariables false
set_option linter.unusedSimpArgs false

/- DERIVED. Text. -/
namespace Go.Proofs.YtfdkdloldjfnjaaGreatDoor
open Go.RowKit
set_option maxRecDepth 100000

/-- The text of a fraction. -/
def txt (s : Bool) (m n : Nat) : List UInt8 := (if s then [45] else []) ++ (Lib.decDigits m ++ (47 :: Lib.decDigits n))
def StrPost (l : List UInt8) (w : World) (e : Ending) (w' : World) : Prop := e = .returned (.string (str l)) ∧ Below w.heap.size w w'
theorem ret_str {a b : ByteArray} (h : a = b) : Ending.returned (.string a) = .returned (.string b) := by rw [h]
theorem dec_len {m : Nat} (h : m < 10 ^ (9 * 40)) : (Lib.decDigits m).length ≤ 360 := by
  rcases Nat.eq_zero_or_pos m with h0 | h0
  · subst h0; rw [Lib.decDigits, dif_pos (by decide)]; simp
  · have h1 : Lib.decDigits m = dig0 m := (if_neg (by omega)).symm
    rw [h1, ← drop_grp]
    have := grp_len 40 m h
    have h2 := (List.dropWhile_sublist (fun x : UInt8 => x == 48) (l := grp m)).length_le
    omega
theorem limbs_pow {m : Nat} (h : (nat m).length ≤ 32) : m < 10 ^ (9 * 40) :=
  Nat.lt_of_lt_of_le (nat_len_le.1 h) (by decide +kernel)

set_option maxHeartbeats 1000000 in
theorem c_TextN (s : Bool) (a b : List Nat) (x : Value) (w : World) (ht : Tz w) (hx : Fr0 w x s a b) (hv : validB s a b = false) :
    Calls Tryz.prog 20 #[x] w (StrPost [] w) := by
  have HV := Lib.hid (fun (X : World) (hX : Below w.heap.size w X) => c_ValidF (hx.on hX) false hv (ht.heap (hX.block _ ht.lt)))
  obtain ⟨A1, c1, A2, c2, rfl⟩ := hx.shape
  have HB0 := Lib.hid ((Below.refl w.heap.size w).alloc (Nat.le_refl _) (.cells #[.bool s, .slice A1 a.length c1, .slice A2 b.length c2] 25))
  clear hx ht hv
  go_enter Tryz.func20, Tryz.ntmps20
  go_wp2_with (fail)
  refine (HV.out _ HB0.out).mono ?_
  rintro e w1 ⟨rfl, hb1⟩
  have HB1 := Lib.hid (below_join HB0.out hb1 HB0.out.size)
  clear hb1
  go_wp2_with (fail)
  go_ret
  exact ⟨rfl, HB1.out⟩

set_option maxHeartbeats 1000000 in
theorem c_TextP (m n : Nat) (hm : (nat m).length ≤ 32) (hn : (nat n).length ≤ 32) (x : Value) (w : World) (ht : Tz w) (hT : Tab w) (hx : Fr w x false m n) (hv : validB false (nat m) (nat n) = true) :
    Calls Tryz.prog 20 #[x] w (StrPost (txt false m n) w) := by
  have hx0 := hx.to0 (by omega) (by omega)
  have HV := Lib.hid (fun (X : World) (hX : Below w.heap.size w X) => c_ValidF (hx0.on hX) true hv (ht.heap (hX.block _ ht.lt)))
  obtain ⟨v1, v2, rfl, h1, h2⟩ := hx
  obtain ⟨A1, c1, rfl⟩ := h1.shape
  obtain ⟨A2, c2, rfl⟩ := h2.shape
  have lm := dec_len (limbs_pow hm)
  have ln := dec_len (limbs_pow hn)
  have HD1 := Lib.hid (fun (X : World) (hX : Below w.heap.size w X) => c_decimal m (limbs_pow hm) (by omega) _ X (hT.on hX) (h1.below (ok' := fun i => i < X.heap.size) hX (fun i hi => ⟨hi, Nat.lt_of_lt_of_le hi hX.size⟩)))
  have HD2 := Lib.hid (fun (X : World) (hX : Below w.heap.size w X) => c_decimal n (limbs_pow hn) (by omega) _ X (hT.on hX) (h2.below (ok' := fun i => i < X.heap.size) hX (fun i hi => ⟨hi, Nat.lt_of_lt_of_le hi hX.size⟩)))
  have HTX := Lib.hid (show txt false m n = (Lib.decDigits m ++ (47 :: Lib.decDigits n)) by rfl)
  obtain ⟨W, hW⟩ : ∃ W, W = w.alloc (.cells #[.bool false, .slice A1 (nat m).length c1, .slice A2 (nat n).length c2] 25) := ⟨_, rfl⟩
  have X0 : Rt W w.heap.size false (.slice A1 (nat m).length c1) (.slice A2 (nat n).length c2) := by subst hW; exact rt_new' _ _ _ _
  have HB0 := Lib.hid (show Below w.heap.size w W by subst hW; exact (Below.refl _ _).alloc (Nat.le_refl _) _)
  have hz : w.heap.size < W.heap.size := by subst hW; simp
  have HX0 := Lib.hid X0
  clear hx0 ht hv h1 h2 X0 hm hn hT
  have hs1 := str_size (Lib.decDigits m)
  have hs2 := str_size (Lib.decDigits n)
  generalize Lib.decDigits m = DM at *
  generalize Lib.decDigits n = DN at *
  have b1 : ¬ 9223372036854775807 < DM.length := by omega
  have b2 : ¬ 9223372036854775807 < DM.length + 1 := by omega
  have b3 : ¬ 9223372036854775807 < DM.length + 1 + DN.length := by omega
  go_enter Tryz.func20, Tryz.ntmps20
  go_wp2_with (fail)
  rw [← hW]
  clear hW
  refine (HV.out _ HB0.out).mono ?_
  rintro e w1 ⟨rfl, hb1⟩
  have hz1 := hb1.size
  have HX1 := Lib.hid (HX0.out.on hb1 hz)
  have HB1 := Lib.hid (below_join HB0.out hb1 HB0.out.size)
  clear hb1
  obtain ⟨x0, x1, x2⟩ := HX1.out.cells
  go_wp2_with (fail)
  clear x0 x1 x2
  go_region_held3 (fun X => X.cell? ⟨w.heap.size, 1, none⟩ = some (.slice A1 (nat m).length c1) ∧ X.cell? ⟨w.heap.size, 2, none⟩ = some (.slice A2 (nat n).length c2))
    (first | exact HXb.out.cells.2 | exact HXa.out.cells.2 | exact HX1.out.cells.2)
    (first
      | (go_at_call 61; (with_reducible refine (HD1.out _ HB1.out.drew).mono ?_); rintro e wa ⟨rfl, hba0⟩; have hba := Below.undrew hba0; have HXa := Lib.hid (HX1.out.on hba (by omega)); have HBa := Lib.hid (below_join HB1.out hba HB1.out.size); have hza := hba.size; clear hba hba0)
      | (go_at_call 61; (with_reducible refine (HD2.out _ HBa.out).mono ?_); rintro e wb ⟨rfl, hbb⟩; have HXb := Lib.hid (HXa.out.on hbb (by omega)); have HBb := Lib.hid (below_join HBa.out hbb HBa.out.size); clear hbb))
  go_wp2_with (fail)
  go_ret
  refine ⟨ret_str ?_, HBb.out⟩
  show str [] ++ str DM ++ str [47] ++ str DN = str _
  rw [str_append, str_append, str_append, HTX.out]
  simp

set_option maxHeartbeats 1000000 in
theorem c_TextM (m n : Nat) (hm : (nat m).length ≤ 32) (hn : (nat n).length ≤ 32) (x : Value) (w : World) (ht : Tz w) (hT : Tab w) (hx : Fr w x true m n) (hv : validB true (nat m) (nat n) = true) :
    Calls Tryz.prog 20 #[x] w (StrPost (txt true m n) w) := by
  have hx0 := hx.to0 (by omega) (by omega)
  have HV := Lib.hid (fun (X : World) (hX : Below w.heap.size w X) => c_ValidF (hx0.on hX) true hv (ht.heap (hX.block _ ht.lt)))
  obtain ⟨v1, v2, rfl, h1, h2⟩ := hx
  obtain ⟨A1, c1, rfl⟩ := h1.shape
  obtain ⟨A2, c2, rfl⟩ := h2.shape
  have lm := dec_len (limbs_pow hm)
  have ln := dec_len (limbs_pow hn)
  have HD1 := Lib.hid (fun (X : World) (hX : Below w.heap.size w X) => c_decimal m (limbs_pow hm) (by omega) _ X (hT.on hX) (h1.below (ok' := fun i => i < X.heap.size) hX (fun i hi => ⟨hi, Nat.lt_of_lt_of_le hi hX.size⟩)))
  have HD2 := Lib.hid (fun (X : World) (hX : Below w.heap.size w X) => c_decimal n (limbs_pow hn) (by omega) _ X (hT.on hX) (h2.below (ok' := fun i => i < X.heap.size) hX (fun i hi => ⟨hi, Nat.lt_of_lt_of_le hi hX.size⟩)))
  have HTX := Lib.hid (show txt true m n = [45] ++ (Lib.decDigits m ++ (47 :: Lib.decDigits n)) by rfl)
  obtain ⟨W, hW⟩ : ∃ W, W = w.alloc (.cells #[.bool true, .slice A1 (nat m).length c1, .slice A2 (nat n).length c2] 25) := ⟨_, rfl⟩
  have X0 : Rt W w.heap.size true (.slice A1 (nat m).length c1) (.slice A2 (nat n).length c2) := by subst hW; exact rt_new' _ _ _ _
  have HB0 := Lib.hid (show Below w.heap.size w W by subst hW; exact (Below.refl _ _).alloc (Nat.le_refl _) _)
  have hz : w.heap.size < W.heap.size := by subst hW; simp
  have HX0 := Lib.hid X0
  clear hx0 ht hv h1 h2 X0 hm hn hT
  have hs1 := str_size (Lib.decDigits m)
  have hs2 := str_size (Lib.decDigits n)
  generalize Lib.decDigits m = DM at *
  generalize Lib.decDigits n = DN at *
  have b1 : ¬ 9223372036854775807 < 1 + DM.length := by omega
  have b2 : ¬ 9223372036854775807 < 1 + DM.length + 1 := by omega
  have b3 : ¬ 9223372036854775807 < 1 + DM.length + 1 + DN.length := by omega
  go_enter Tryz.func20, Tryz.ntmps20
  go_wp2_with (fail)
  rw [← hW]
  clear hW
  refine (HV.out _ HB0.out).mono ?_
  rintro e w1 ⟨rfl, hb1⟩
  have hz1 := hb1.size
  have HX1 := Lib.hid (HX0.out.on hb1 hz)
  have HB1 := Lib.hid (below_join HB0.out hb1 HB0.out.size)
  clear hb1
  obtain ⟨x0, x1, x2⟩ := HX1.out.cells
  go_wp2_with (fail)
  clear x0 x1 x2
  go_region_held3 (fun X => X.cell? ⟨w.heap.size, 1, none⟩ = some (.slice A1 (nat m).length c1) ∧ X.cell? ⟨w.heap.size, 2, none⟩ = some (.slice A2 (nat n).length c2))
    (first | exact HXb.out.cells.2 | exact HXa.out.cells.2 | exact HX1.out.cells.2)
    (first
      | (go_at_call 61; (with_reducible refine (HD1.out _ HB1.out.drew).mono ?_); rintro e wa ⟨rfl, hba0⟩; have hba := Below.undrew hba0; have HXa := Lib.hid (HX1.out.on hba (by omega)); have HBa := Lib.hid (below_join HB1.out hba HB1.out.size); have hza := hba.size; clear hba hba0)
      | (go_at_call 61; (with_reducible refine (HD2.out _ HBa.out).mono ?_); rintro e wb ⟨rfl, hbb⟩; have HXb := Lib.hid (HXa.out.on hbb (by omega)); have HBb := Lib.hid (below_join HBa.out hbb HBa.out.size); clear hbb))
  go_wp2_with (fail)
  go_ret
  refine ⟨ret_str ?_, HBb.out⟩
  show str [45] ++ str DM ++ str [47] ++ str DN = str _
  rw [str_append, str_append, str_append, HTX.out]
  simp
end Go.Proofs.YtfdkdloldjfnjaaGreatDoor

/- DERIVED. strings.CutPrefix at "-"; Read. -/
namespace Go.Proofs.YtfdkdloldjfnjaaGreatDoor
open Go.RowKit
set_option maxRecDepth 100000

theorem slice_to1 (c : UInt8) (l : List UInt8) (W : World) : (Instr.slice 9 (.string (str (c :: l))) none (some (.int .i64 1)) none).run Tryz.prog W = .ok (.string (str [c])) W := by
  rw [run_slice_string_to_if W 9 (str (c :: l)) .i64 1 Tryz.underlying9]
  have hs : (str (c :: l)).size = l.length + 1 := by rw [str_size]; rfl
  rw [if_pos (by rw [hs]; omega)]
  have : (str (c :: l)).extract 0 1 = str [c] := by
    apply ByteArray.ext
    simp [str]
  simpa using this
theorem str_of (s : ByteArray) : str s.data.toList = s := by simp [str]
theorem ret_bool {a b : Bool} (h : a = b) : Ending.returned (.bool a) = .returned (.bool b) := by rw [h]
/-- A text, and whether it begins with a sign that is cut. -/
def cutDash (l : List UInt8) : List UInt8 × Bool := if l.head? = some 45 then (l.tail, true) else (l, false)
theorem c_HasPrefix (l : List UInt8) (b : Bool) (hb : decide (l.head? = some 45) = b) (w : World) : Calls Tryz.prog 115 #[.string (str l), .string ⟨#[45]⟩] w fun e w' => e = .returned (.bool b) ∧ w = w' := by
  cases l with
  | nil =>
    have hs : (str []).size = 0 := rfl
    subst hb
    go_enter Tryz.func115, Tryz.ntmps115
    go_wp2_with (fail)
    go_ret
    exact ⟨by simp, rfl⟩
  | cons c l =>
    have hs : (1 : Int) ≤ ((str (c :: l)).size : Int) := by rw [str_size]; simp; omega
    have hsl := slice_to1 c l
    have HB := Lib.hid hb
    clear hb
    go_enter Tryz.func115, Tryz.ntmps115
    go_wp2_with (fail)
    go_ret
    refine ⟨ret_bool ?_, rfl⟩
    rw [str_list, ← HB.out]
    rw [Bool.eq_iff_iff]
    simp
theorem c_CutPrefix' (l : List UInt8) (w : World) : Calls Tryz.prog 90 #[.string (str l), .string ⟨#[45]⟩] w fun e w' => e = .returned (.tuple #[.string (str (cutDash l).1), .bool (cutDash l).2]) ∧ w = w' := by
  by_cases h : l.head? = some 45
  · obtain ⟨l', rfl⟩ : ∃ l', l = 45 :: l' := by
      cases l with
      | nil => cases h
      | cons c l => simp at h; exact ⟨l, by rw [h]⟩
    have hc : cutDash (45 :: l') = (l', true) := rfl
    rw [hc]
    have HP := Lib.hid (c_HasPrefix (45 :: l') true (by simp) w)
    have hsl := slice_from1 l' 45
    have hs : (1 : Int) ≤ ((str (45 :: l')).size : Int) := by rw [str_size]; simp; omega
    clear h hc
    go_enter Tryz.func90, Tryz.ntmps90
    go_wp2_with (fail)
    refine HP.out.mono ?_
    rintro e w' ⟨rfl, rfl⟩
    go_wp2_with (fail)
    go_ret2
    exact ⟨rfl, rfl⟩
  · have hc : cutDash l = (l, false) := if_neg h
    rw [hc]
    have HP := Lib.hid (c_HasPrefix l false (by simpa using h) w)
    clear h hc
    go_enter Tryz.func90, Tryz.ntmps90
    go_wp2_with (fail)
    refine HP.out.mono ?_
    rintro e w' ⟨rfl, rfl⟩
    go_wp2_with (fail)
    go_ret2
    exact ⟨rfl, rfl⟩
theorem c_CutPrefix (l : List UInt8) (a : List UInt8) (b : Bool) (hab : cutDash l = (a, b)) (w : World) : Calls Tryz.prog 51 #[.string (str l), .string ⟨#[45]⟩] w fun e w' => e = .returned (.tuple #[.string (str a), .bool b]) ∧ w = w' := by
  have HP := Lib.hid (c_CutPrefix' l w)
  rw [hab] at HP
  clear hab
  go_enter Tryz.func51, Tryz.ntmps51
  go_wp2_with (fail)
  refine HP.out.mono ?_
  rintro e w' ⟨rfl, rfl⟩
  go_wp2_with (fail)
  go_ret2
  exact ⟨rfl, rfl⟩
theorem c_Cut (l a b : List UInt8) (f : Bool) (hab : Lib.cut l [47] = (a, b, f)) (hl : l.length < 4294967281) (m : Int) (w : World) (hm : w.cell? ⟨0, 0, none⟩ = some (.int .i64 m)) :
    Calls Tryz.prog 52 #[.string (str l), .string ⟨#[47]⟩] w fun e w' => e = .returned (.tuple #[.string (str a), .string (str b), .bool f]) ∧ ∃ n, w' = w.drewN n := by
  have h := Tryz.strings_Cut (str l) ⟨#[47]⟩ m w (by rw [str_size]; exact hl) hm
  have e1 : Lib.cut (str l).data.toList (ByteArray.mk #[47]).data.toList = (a, b, f) := by rw [str_data]; exact hab
  rw [e1] at h
  exact h
/-- What Read makes of a text. -/
def readP (l : List UInt8) : Option (Bool × Nat × Nat) :=
  let p := cutDash l
  let c := Lib.cut p.1 [47]
  if numOk c.1 && (numOk c.2.1 && validB p.2 (nat (nvl c.1)) (nat (nvl c.2.1))) then some (p.2, nvl c.1, nvl c.2.1) else none
theorem cut_len {l a b : List UInt8} {f : Bool} (h : Lib.cut l [47] = (a, b, f)) : a.length ≤ l.length ∧ b.length ≤ l.length := by
  unfold Lib.cut at h
  split at h
  · injection h with h1 h2
    injection h2 with h2 h3
    subst h1 h2
    simp
    omega
  · injection h with h1 h2
    injection h2 with h2 h3
    subst h1 h2
    simp
theorem dash_len {l a : List UInt8} {b : Bool} (h : cutDash l = (a, b)) : a.length ≤ l.length := by
  unfold cutDash at h
  split at h
  · injection h with h1 h2
    subst h1
    simp
  · injection h with h1 h2
    subst h1
    simp
end Go.Proofs.YtfdkdloldjfnjaaGreatDoor

/- DERIVED. Read. -/
namespace Go.Proofs.YtfdkdloldjfnjaaGreatDoor
open Go.RowKit
set_option maxRecDepth 100000

/-- The limit that strings.Index reads is there. -/
def Ml (w : World) : Prop := ∃ m : Int, w.cell? ⟨0, 0, none⟩ = some (.int .i64 m)
theorem Ml.lt {w : World} (h : Ml w) : 0 < w.heap.size := by
  obtain ⟨m, h⟩ := h
  unfold World.cell? at h
  cases hb : w.heap[0]? with
  | none => simp [hb] at h
  | some ob => exact (Array.getElem?_eq_some_iff.1 hb).1
theorem Ml.on {w w' : World} (h : Ml w) (hb : Below w.heap.size w w') : Ml w' := by
  have hl := h.lt
  obtain ⟨m, h⟩ := h
  exact ⟨m, (hb.cell (p := ⟨0, 0, none⟩) hl).trans h⟩
theorem num_len {l : List UInt8} (h : numOk l = true) : (nat (nvl l)).length ≤ 33 := by
  have h1 : l.length ≤ 309 ∧ ∀ c ∈ l, isDg c = true := by
    unfold numOk at h
    simp only [Bool.and_eq_true, Bool.not_eq_true', Bool.or_eq_false_iff, decide_eq_false_iff_not, List.all_eq_true] at h
    exact ⟨by omega, h.2⟩
  exact len309 (nvl_lt l h1.2) h1.1

set_option maxHeartbeats 1000000 in
theorem c_Read (l : List UInt8) (hl : l.length < 4294967281) (w : World) (ht : Tz w) (hm : Ml w) :
    Calls Tryz.prog 15 #[.string (str l)] w (ResPost (readP l) 4 w) := by
  obtain ⟨d, neg, hd⟩ : ∃ d neg, cutDash l = (d, neg) := ⟨_, _, rfl⟩
  obtain ⟨a, b, f, hc⟩ : ∃ a b f, Lib.cut d [47] = (a, b, f) := ⟨_, _, _, rfl⟩
  have hR : readP l = if numOk a && (numOk b && validB neg (nat (nvl a)) (nat (nvl b))) then some (neg, nvl a, nvl b) else none := by unfold readP; simp only [hd, hc]
  have ld := dash_len hd
  obtain ⟨la, lb⟩ := cut_len hc
  have hsa : (str a).size ≤ maxLen := by rw [str_size]; unfold maxLen; omega
  have hsb : (str b).size ≤ maxLen := by rw [str_size]; unfold maxLen; omega
  obtain ⟨W, hW⟩ : ∃ W, W = w.alloc (.cells #[.bool false, .slice none 0 0, .slice none 0 0] 25) := ⟨_, rfl⟩
  have R0 : ResZ w.heap.size W := by subst hW; exact row_new4 _ _ _ rfl
  have B0 : Below w.heap.size w W := by subst hW; exact (Below.refl _ _).alloc (Nat.le_refl _) _
  have hz : w.heap.size < W.heap.size := by subst hW; simp
  have HR0 := Lib.hid R0
  have HB0 := Lib.hid B0
  have HT := Lib.hid ht
  have HCP := Lib.hid (c_CutPrefix l d neg hd W)
  obtain ⟨m, hm0⟩ := hm.on B0
  have HCU := Lib.hid (c_Cut d a b f hc (by omega) m W hm0)
  have HNA := Lib.hid (fun X => c_number (str a) hsa X)
  have HNB := Lib.hid (fun X => c_number (str b) hsb X)
  rw [str_data] at HNA HNB
  have HR := Lib.hid hR
  clear R0 B0 ht hm hm0 hd hc ld la lb hsa hsb hR hl
  cases hoa : numOk a with
  | false =>
    have HOA := Lib.hid hoa
    have HRN := Lib.hid (show readP l = none by rw [HR.out, hoa]; rfl)
    clear hoa
    go_enter Tryz.func15, Tryz.ntmps15
    go_wp2_with (fail)
    rw [← hW]
    clear hW
    refine HCP.out.mono ?_
    rintro e w0 ⟨rfl, rfl⟩
    go_wp2_with (fail)
    refine HCU.out.mono ?_
    rintro e w1 ⟨rfl, nd, rfl⟩
    go_wp2_with (fail)
    refine (HNA.out _).mono ?_
    rintro e w2 ⟨va, ba, rfl, hb2', hta, hfa⟩
    have hb2 := Below.undrewN hb2'
    have hz2 := hb2.size
    have HR2 := Lib.hid (HR0.out.on hb2 hz)
    have HB2 := Lib.hid (below_join HB0.out hb2 HB0.out.size)
    obtain ⟨rfl, rfl⟩ := hfa HOA.out
    clear hb2' hb2 hta hfa
    go_wp2_with (fail)
    refine (HNB.out _).mono ?_
    rintro e w3 ⟨vb, bb, rfl, hb3, htb, hfb⟩
    have hz3 := hb3.size
    have HR3 := Lib.hid (HR2.out.on hb3 (by omega))
    have HB3 := Lib.hid (below_join HB2.out hb3 HB2.out.size)
    have hshape : ∃ A2 n2 c2, vb = .slice A2 n2 c2 := by
      cases hob : numOk b with
      | true =>
        obtain ⟨A2, c2, h⟩ := (htb hob).2.shape
        exact ⟨A2, _, c2, h⟩
      | false => exact ⟨none, 0, 0, (hfb hob).2⟩
    obtain ⟨A2, n2, c2, rfl⟩ := hshape
    clear hb3 htb hfb
    have HB9 := Lib.hid (HB3.out.alloc HB3.out.size (.cells #[.bool neg, .slice none 0 0, .slice A2 n2 c2] 25))
    have HR9 := Lib.hid (show ResZ w.heap.size (w3.alloc (.cells #[.bool neg, .slice none 0 0, .slice A2 n2 c2] 25)) from (Below.heap_alloc w3 _ _ (by omega)).trans HR3.out)
    obtain ⟨e0, e1, e2⟩ := three_cells HR9.out
    obtain ⟨f0, f1, f2⟩ := three_frozen HR9.out
    go_wp2_with (fail)
    rw [HRN.out]
    exact ret3t (b := w.heap.size) rfl rfl rfl rfl (row_store3 HR9.out _ _ _) ⟨_, _, rfl, below_store3 HB9.out (Nat.le_refl _) _ _ _, fun _ => ⟨rfl, rfl⟩, fun _ _ _ h => absurd h (by simp)⟩
  | true =>
    cases hob : numOk b with
    | false =>
      have HOA := Lib.hid hoa
      have HOB := Lib.hid hob
      have HRN := Lib.hid (show readP l = none by rw [HR.out, hoa, hob]; rfl)
      clear hoa hob
      go_enter Tryz.func15, Tryz.ntmps15
      go_wp2_with (fail)
      rw [← hW]
      clear hW
      refine HCP.out.mono ?_
      rintro e w0 ⟨rfl, rfl⟩
      go_wp2_with (fail)
      refine HCU.out.mono ?_
      rintro e w1 ⟨rfl, nd, rfl⟩
      go_wp2_with (fail)
      refine (HNA.out _).mono ?_
      rintro e w2 ⟨va, ba, rfl, hb2', hta, hfa⟩
      have hb2 := Below.undrewN hb2'
      have hz2 := hb2.size
      have HR2 := Lib.hid (HR0.out.on hb2 hz)
      have HB2 := Lib.hid (below_join HB0.out hb2 HB0.out.size)
      obtain ⟨rfl, ga'⟩ := hta HOA.out
      have ga : Fs W.heap.size w2 va (nvl a) := ga'
      obtain ⟨A1, c1, rfl⟩ := ga.shape
      have GA := Lib.hid ga
      clear hb2' hb2 hta hfa ga ga'
      go_wp2_with (fail)
      refine (HNB.out _).mono ?_
      rintro e w3 ⟨vb, bb, rfl, hb3, htb, hfb⟩
      have hz3 := hb3.size
      have HR3 := Lib.hid (HR2.out.on hb3 (by omega))
      have HB3 := Lib.hid (below_join HB2.out hb3 HB2.out.size)
      have GA3 := Lib.hid (GA.out.on hb3)
      obtain ⟨rfl, rfl⟩ := hfb HOB.out
      clear hb3 htb hfb
      have HB9 := Lib.hid (HB3.out.alloc HB3.out.size (.cells #[.bool neg, .slice A1 (nat (nvl a)).length c1, .slice none 0 0] 25))
      have HR9 := Lib.hid (show ResZ w.heap.size (w3.alloc (.cells #[.bool neg, .slice A1 (nat (nvl a)).length c1, .slice none 0 0] 25)) from (Below.heap_alloc w3 _ _ (by omega)).trans HR3.out)
      obtain ⟨e0, e1, e2⟩ := three_cells HR9.out
      obtain ⟨f0, f1, f2⟩ := three_frozen HR9.out
      go_wp2_with (fail)
      rw [HRN.out]
      exact ret3t (b := w.heap.size) rfl rfl rfl rfl (row_store3 HR9.out _ _ _) ⟨_, _, rfl, below_store3 HB9.out (Nat.le_refl _) _ _ _, fun _ => ⟨rfl, rfl⟩, fun _ _ _ h => absurd h (by simp)⟩
    | true =>
      cases hp : validB neg (nat (nvl a)) (nat (nvl b)) with
      | false =>
        have HOA := Lib.hid hoa
        have HOB := Lib.hid hob
        have HP := Lib.hid hp
        have HRN := Lib.hid (show readP l = none by rw [HR.out, hoa, hob, hp]; rfl)
        clear hoa hob hp
        go_enter Tryz.func15, Tryz.ntmps15
        go_wp2_with (fail)
        rw [← hW]
        clear hW
        refine HCP.out.mono ?_
        rintro e w0 ⟨rfl, rfl⟩
        go_wp2_with (fail)
        refine HCU.out.mono ?_
        rintro e w1 ⟨rfl, nd, rfl⟩
        go_wp2_with (fail)
        refine (HNA.out _).mono ?_
        rintro e w2 ⟨va, ba, rfl, hb2', hta, hfa⟩
        have hb2 := Below.undrewN hb2'
        have hz2 := hb2.size
        have HR2 := Lib.hid (HR0.out.on hb2 hz)
        have HB2 := Lib.hid (below_join HB0.out hb2 HB0.out.size)
        obtain ⟨rfl, ga'⟩ := hta HOA.out
        have ga : Fs W.heap.size w2 va (nvl a) := ga'
        obtain ⟨A1, c1, rfl⟩ := ga.shape
        have GA := Lib.hid ga
        clear hb2' hb2 hta hfa ga ga'
        go_wp2_with (fail)
        refine (HNB.out _).mono ?_
        rintro e w3 ⟨vb, bb, rfl, hb3, htb, hfb⟩
        have hz3 := hb3.size
        have HR3 := Lib.hid (HR2.out.on hb3 (by omega))
        have HB3 := Lib.hid (below_join HB2.out hb3 HB2.out.size)
        have GA3 := Lib.hid (GA.out.on hb3)
        obtain ⟨rfl, gb⟩ := htb HOB.out
        obtain ⟨A2, c2, rfl⟩ := gb.shape
        have GB3 := Lib.hid gb
        clear hb3 htb hfb gb
        obtain ⟨V, hV⟩ : ∃ V, V = w3.alloc (.cells #[.bool neg, .slice A1 (nat (nvl a)).length c1, .slice A2 (nat (nvl b)).length c2] 25) := ⟨_, rfl⟩
        have BV : Below w3.heap.size w3 V := by subst hV; exact (Below.refl _ _).alloc (Nat.le_refl _) _
        have XV : Rt V w3.heap.size neg (.slice A1 (nat (nvl a)).length c1) (.slice A2 (nat (nvl b)).length c2) := by subst hV; exact rt_new' _ _ _ _
        have hzv : w3.heap.size < V.heap.size := by subst hV; simp
        have HXV := Lib.hid XV
        have HBV := Lib.hid BV
        have GA4 := Lib.hid (GA3.out.on BV)
        have GB4 := Lib.hid (GB3.out.on BV)
        have HRV := Lib.hid (HR3.out.on BV (by omega))
        have HBW := Lib.hid (below_join HB3.out BV HB3.out.size)
        clear XV BV
        have HVC := Lib.hid (c_ValidF (w := V) (v := .agg #[.bool neg, .slice A1 (nat (nvl a)).length c1, .slice A2 (nat (nvl b)).length c2]) (s := neg) (a := nat (nvl a)) (b := nat (nvl b)) ⟨_, _, rfl, natSl_any GA4.out, natSl_any GB4.out, lb_nat _, lb_nat _, by have := num_len HOA.out; omega, by have := num_len HOB.out; omega⟩ false HP.out (HT.out.heap (HBW.out.block _ HT.out.lt)))
        go_wp2_with (fail)
        rw [← hV]
        clear hV
        refine HVC.out.mono ?_
        rintro e w5 ⟨rfl, hb5⟩
        have hz5 := hb5.size
        have HR5 := Lib.hid (HRV.out.on hb5 (by omega))
        have HX5 := Lib.hid (HXV.out.on hb5 (by omega))
        have HB5 := Lib.hid (below_join HBW.out hb5 HBW.out.size)
        have GA5 := Lib.hid (GA4.out.on hb5)
        have GB5 := Lib.hid (GB4.out.on hb5)
        clear hb5
        obtain ⟨e0, e1, e2⟩ := three_cells HR5.out
        obtain ⟨f0, f1, f2⟩ := three_frozen HR5.out
        obtain ⟨x0, x1, x2⟩ := HX5.out.cells
        go_wp2_with (fail)
        rw [HRN.out]
        exact ret3t (b := w.heap.size) rfl rfl rfl rfl (row_store3 HR5.out _ _ _) ⟨_, _, rfl, below_store3 HB5.out (Nat.le_refl _) _ _ _, fun _ => ⟨rfl, rfl⟩, fun _ _ _ h => absurd h (by simp)⟩
      | true =>
        have HOA := Lib.hid hoa
        have HOB := Lib.hid hob
        have HP := Lib.hid hp
        have HRN := Lib.hid (show readP l = some (neg, nvl a, nvl b) by rw [HR.out, hoa, hob, hp]; rfl)
        clear hoa hob hp
        go_enter Tryz.func15, Tryz.ntmps15
        go_wp2_with (fail)
        rw [← hW]
        clear hW
        refine HCP.out.mono ?_
        rintro e w0 ⟨rfl, rfl⟩
        go_wp2_with (fail)
        refine HCU.out.mono ?_
        rintro e w1 ⟨rfl, nd, rfl⟩
        go_wp2_with (fail)
        refine (HNA.out _).mono ?_
        rintro e w2 ⟨va, ba, rfl, hb2', hta, hfa⟩
        have hb2 := Below.undrewN hb2'
        have hz2 := hb2.size
        have HR2 := Lib.hid (HR0.out.on hb2 hz)
        have HB2 := Lib.hid (below_join HB0.out hb2 HB0.out.size)
        obtain ⟨rfl, ga'⟩ := hta HOA.out
        have ga : Fs W.heap.size w2 va (nvl a) := ga'
        obtain ⟨A1, c1, rfl⟩ := ga.shape
        have GA := Lib.hid ga
        clear hb2' hb2 hta hfa ga ga'
        go_wp2_with (fail)
        refine (HNB.out _).mono ?_
        rintro e w3 ⟨vb, bb, rfl, hb3, htb, hfb⟩
        have hz3 := hb3.size
        have HR3 := Lib.hid (HR2.out.on hb3 (by omega))
        have HB3 := Lib.hid (below_join HB2.out hb3 HB2.out.size)
        have GA3 := Lib.hid (GA.out.on hb3)
        obtain ⟨rfl, gb⟩ := htb HOB.out
        obtain ⟨A2, c2, rfl⟩ := gb.shape
        have GB3 := Lib.hid gb
        clear hb3 htb hfb gb
        obtain ⟨V, hV⟩ : ∃ V, V = w3.alloc (.cells #[.bool neg, .slice A1 (nat (nvl a)).length c1, .slice A2 (nat (nvl b)).length c2] 25) := ⟨_, rfl⟩
        have BV : Below w3.heap.size w3 V := by subst hV; exact (Below.refl _ _).alloc (Nat.le_refl _) _
        have XV : Rt V w3.heap.size neg (.slice A1 (nat (nvl a)).length c1) (.slice A2 (nat (nvl b)).length c2) := by subst hV; exact rt_new' _ _ _ _
        have hzv : w3.heap.size < V.heap.size := by subst hV; simp
        have HXV := Lib.hid XV
        have HBV := Lib.hid BV
        have GA4 := Lib.hid (GA3.out.on BV)
        have GB4 := Lib.hid (GB3.out.on BV)
        have HRV := Lib.hid (HR3.out.on BV (by omega))
        have HBW := Lib.hid (below_join HB3.out BV HB3.out.size)
        clear XV BV
        have HVC := Lib.hid (c_ValidF (w := V) (v := .agg #[.bool neg, .slice A1 (nat (nvl a)).length c1, .slice A2 (nat (nvl b)).length c2]) (s := neg) (a := nat (nvl a)) (b := nat (nvl b)) ⟨_, _, rfl, natSl_any GA4.out, natSl_any GB4.out, lb_nat _, lb_nat _, by have := num_len HOA.out; omega, by have := num_len HOB.out; omega⟩ true HP.out (HT.out.heap (HBW.out.block _ HT.out.lt)))
        go_wp2_with (fail)
        rw [← hV]
        clear hV
        refine HVC.out.mono ?_
        rintro e w5 ⟨rfl, hb5⟩
        have hz5 := hb5.size
        have HR5 := Lib.hid (HRV.out.on hb5 (by omega))
        have HX5 := Lib.hid (HXV.out.on hb5 (by omega))
        have HB5 := Lib.hid (below_join HBW.out hb5 HBW.out.size)
        have GA5 := Lib.hid (GA4.out.on hb5)
        have GB5 := Lib.hid (GB4.out.on hb5)
        clear hb5
        obtain ⟨e0, e1, e2⟩ := three_cells HR5.out
        obtain ⟨f0, f1, f2⟩ := three_frozen HR5.out
        obtain ⟨x0, x1, x2⟩ := HX5.out.cells
        go_wp2_with (fail)
        rw [HRN.out]
        refine ret3t (b := w.heap.size) rfl rfl rfl rfl (row_store3 HR5.out _ _ _) ⟨_, _, rfl, below_store3 HB5.out (Nat.le_refl _) _ _ _, fun h => absurd h (by simp), fun s' n' d' h => ?_⟩
        injection h with h
        injection h with h1 h
        injection h with h2 h3
        subst h1 h2 h3
        exact ⟨⟨_, _, rfl, natSl_storeZ (natSl_any GA5.out) HR5.out _ _ _, natSl_storeZ (natSl_any GB5.out) HR5.out _ _ _⟩, rfl⟩
end Go.Proofs.YtfdkdloldjfnjaaGreatDoor
