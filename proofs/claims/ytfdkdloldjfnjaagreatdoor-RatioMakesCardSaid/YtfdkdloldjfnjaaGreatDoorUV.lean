/-
  DERIVED. The reference's Decimal.
-/
import Derived.Test.YtfdkdloldjfnjaaGreatDoorYUAm
import Derived.Test.YtfdkdloldjfnjaaGreatDoorYUAm
import Derived.Test.YtfdkdloldjfnjaaGreatDoorYRJm
import Derived.Test.YtfdkdloldjfnjaaGreatDoorYTIm
import Derived.Test.YtfdkdloldjfnjaaGreatDoorYMIm
set_option linter.unusedVariables false
set_option linter.unusedSimpArgs false
namespace Go.Proofs.YtfdkdloldjfnjaaGreatDoor
open Go.RowKit
set_option maxRecDepth 100000

def InRel (w : World) (l : List Nat) (r iv : Value) (wr : World) : Prop :=
  ∃ (k rr : Nat) (v : List Nat), k ≤ l.length ∧ r = .int .u64 (rr : Int) ∧ iv = .int .i64 ((k : Int) - 1) ∧ rr < 10 ∧ v.length = l.length - k ∧ Lb v ∧ val (l.drop k) = 10 * val v + rr ∧ Row wr w.heap.size (List.replicate k 0 ++ v) ∧ Below w.heap.size w wr
theorem dec_step {l v : List Nat} {k rr x : Nat} (hk : k < l.length) (hx : l.getD k 0 = x) (hxl : x < BB) (hrr : rr < 10) (hv : val (l.drop (k + 1)) = 10 * val v + rr) (hlv : Lb v) :
    (rr * 4294967296 + x) / 10 < BB ∧ Lb ((rr * 4294967296 + x) / 10 :: v) ∧ (rr * 4294967296 + x) % 10 < 10 ∧ val (l.drop k) = 10 * val ((rr * 4294967296 + x) / 10 :: v) + (rr * 4294967296 + x) % 10 := by
  have hq : (rr * 4294967296 + x) / 10 < BB := by unfold BB at *; omega
  refine ⟨hq, lb_cons.2 ⟨hq, hlv⟩, Nat.mod_lt _ (by decide), ?_⟩
  have e : l.drop k = l[k] :: l.drop (k + 1) := List.drop_eq_getElem_cons hk
  have e2 : l[k] = x := by rw [← hx, List.getD_eq_getElem?_getD, List.getElem?_eq_getElem hk]; rfl
  rw [e, e2]
  unfold val
  rw [hv]
  have hd := Nat.div_add_mod (rr * 4294967296 + x) 10
  generalize (rr * 4294967296 + x) / 10 = q at *
  generalize (rr * 4294967296 + x) % 10 = m at *
  generalize val v = V at *
  unfold BB
  omega
theorem zeros_set {k z : Nat} {v : List Nat} : (List.replicate (k + 1) 0 ++ v).set k z = List.replicate k 0 ++ (z :: v) := by
  rw [List.replicate_succ', List.append_assoc, List.set_append_right _ _ (by simp), List.length_replicate, Nat.sub_self]
  rfl
theorem or_shl {rr x : Nat} (hr : rr < 10) (hx : x < 4294967296) : bits BinOp.or IntKind.u64 ((rr : Int) * 4294967296) (x : Int) = ((rr * 4294967296 + x : Nat) : Int) := by
  have e : (rr : Int) * 4294967296 = ((rr * 4294967296 : Nat) : Int) := by omega
  rw [e, or_word64 _ _ (by omega) (by omega), Nat.or_comm, or_add (d := 32) (by omega) (by omega)]
  congr 1
  omega
def DecR (w : World) (n0 : Nat) (a s : Value) (wr : World) : Prop :=
  ∃ (A : Nat) (S : List UInt8), s = .string (str S) ∧ dig0 n0 = dig0 A ++ S ∧ A ≤ n0 ∧ Ls wr a (nat A) ∧ Below w.heap.size w wr
theorem dec_word {rr x : Nat} (hr : rr < 10) (hx : x < 4294967296) :
    (bits BinOp.or IntKind.u64 ((rr : Int) * 4294967296) (IntKind.u64.wrap (x : Int))).tmod 10 = (((rr * 4294967296 + x) % 10 : Nat) : Int) ∧
    IntKind.u64.wrap ((bits BinOp.or IntKind.u64 ((rr : Int) * 4294967296) (IntKind.u64.wrap (x : Int))).tdiv 10) % 4294967296 = (((rr * 4294967296 + x) / 10 : Nat) : Int) := by
  rw [u64w (n := x) (by omega), or_shl hr hx]
  constructor
  · rw [Int.tmod_eq_emod_of_nonneg (by omega)]
    omega
  · rw [Int.tdiv_eq_ediv_of_nonneg (by omega)]
    have e : (((rr * 4294967296 + x : Nat) : Int) / 10) = (((rr * 4294967296 + x) / 10 : Nat) : Int) := by omega
    rw [e, u64w (by omega)]
    omega
theorem dig_slice (rr : Nat) (h : rr < 10) (W : World) : (Instr.slice 9 (.string ⟨#[48, 49, 50, 51, 52, 53, 54, 55, 56, 57]⟩) (some (.int .u64 (rr : Int))) (some (.int .u64 ((rr : Int) + 1))) none).run Tryz.prog W = .ok (.string (str [UInt8.ofNat (48 + rr)])) W := by
  have hs : (⟨#[48, 49, 50, 51, 52, 53, 54, 55, 56, 57]⟩ : ByteArray).size = 10 := rfl
  rw [run_slice_string W 9 _ .u64 .u64 (rr : Int) ((rr : Int) + 1) Tryz.underlying9 (by omega) (by omega) (by rw [hs]; omega)]
  have e1 : ((rr : Int)).toNat = rr := by omega
  have e2 : ((rr : Int) + 1).toNat = rr + 1 := by omega
  rw [e1, e2]
  congr 2
  apply ByteArray.ext
  match rr, h with
  | 0, _ | 1, _ | 2, _ | 3, _ | 4, _ | 5, _ | 6, _ | 7, _ | 8, _ | 9, _ => rfl
theorem in_done {A rr : Nat} {v : List Nat} (hr : rr < 10) (h : val (List.drop 0 (nat A)) = 10 * val v + rr) : val v = A / 10 ∧ rr = A % 10 := by
  rw [List.drop_zero, val_nat] at h
  omega
theorem dig_short {n A : Nat} {S : List UInt8} (hn : n < 10 ^ (9 * 40)) (h : dig0 n = dig0 A ++ S) : S.length ≤ 360 := by
  have h1 : (dig0 n).length ≤ 360 := by
    unfold dig0
    split
    · simp
    · exact dec_len hn
  rw [h, List.length_append] at h1
  omega
set_option maxHeartbeats 8000000 in
theorem c_eDecimal (n : Nat) (hl : (nat n).length ≤ 1000) (hn : n < 10 ^ (9 * 40)) (va : Value) (w : World) (ha : Ls w va (nat n)) :
    Calls Tryz.prog 62 #[va] w fun e w' => e = .returned (.string (str (Lib.decDigits n))) ∧ Below w.heap.size w w' := by
  obtain ⟨A0, ca, rfl⟩ := ha.1.shape
  have HA := Lib.hid ha
  have HN := Lib.hid hn
  clear ha hn
  go_enter Tryz.func62, Tryz.ntmps62
  go_wp2_with (fail)
  go_loopw [0, 3] (fun a s wr => DecR w n a s wr) (fun a _ wr => slVal wr a)
  case atStart => exact ⟨n, [], rfl, (List.append_nil _).symm, Nat.le_refl _, HA.out, Below.refl _ _⟩
  case round =>
    obtain ⟨A, S, rfl, hd, hle, hA, hnx⟩ := hrel
    obtain ⟨A1, c1, rfl⟩ := hA.1.shape
    have HAV := Lib.hid hA
    have HNX := Lib.hid hnx
    have HDG := Lib.hid hd
    have HSV := Lib.hid (slVal_fs hA.1)
    have hlA := len_le_of_le hle hl
    have HLE := Lib.hid hle
    clear hA hnx hd hle
    by_cases h0 : 0 < A
    · have hl0 : (0 : Int) < ((nat A).length : Nat) := Int.natCast_pos.2 (nat_len_pos.2 h0)
      go_wp2_with (at_make; refine wp_make _ rfl _ _ rfl _ _ (nat A).length rfl rfl (by omega) (by omega) (by omega) ?_; intro w4 hr4 hb4; have HR4 := Lib.hid hr4; have HB4 := Lib.hid hb4; have hsz := hr4.lt; clear hr4 hb4)
      go_loopw [5, 6] (fun r iv w3 => InRel wr (nat A) r iv w3) (fun r iv w3 => (intOf iv + 1).toNat)
      case atStart => exact ⟨(nat A).length, 0, [], Nat.le_refl _, rfl, rfl, by omega, by simp, lb_nil, by simp [val], by simpa using HR4.out, HB4.out⟩
      case round =>
        obtain ⟨k, rr, v, hk, rfl, rfl, hrr, hvl, hlv, hval, hrow, hbe⟩ := hrel
        have HROW := Lib.hid hrow
        have HBE := Lib.hid hbe
        have HVL := Lib.hid hvl
        have HLV := Lib.hid hlv
        have HVAL := Lib.hid hval
        clear hrow hbe hvl hlv hval
        by_cases hk0 : 0 < k
        · obtain ⟨j, rfl⟩ : ∃ j, k = j + 1 := ⟨k - 1, by omega⟩
          obtain ⟨b1, o1, c1', e1, hb1, q1⟩ := HAV.out.cellAt HBE.out (k := j) hk
          injection e1 with e1 _ e2
          subst e1 e2
          have q4 := HROW.out.frozen j
          have q3 := HROW.out.cell (i := j) (by simp; omega)
          have hx := lb_get HAV.out.2 j
          generalize hgx : (nat A).getD j 0 = x at *
          have HX := Lib.hid hgx
          have hjj : ((j : Nat) : Int).toNat = j := by omega
          have hjn : (j : Int) < ((nat A).length : Nat) := by omega
          have hj0 : (0 : Int) ≤ (j : Int) := by omega
          have ej : (((j + 1 : Nat) : Int) - 1) = (j : Int) := by omega
          rw [ej]
          have HQ := Lib.hid (dec_word hrr hx)
          clear hgx
          go_wp2_with (fail)
          rw [HQ.out.1, HQ.out.2]
          obtain ⟨s1, s2, s3, s4⟩ := dec_step hk HX.out hx hrr HVAL.out HLV.out
          refine ⟨⟨j, _, _ :: v, by omega, rfl, rfl, s3, by simp [HVL.out]; omega, s2, s4, ?_, HBE.out.setCell (Nat.le_refl _) _⟩, by simp [intOf]⟩
          have := HROW.out.set j ((rr * 4294967296 + x) / 10)
          rwa [zeros_set] at this
        · obtain rfl : k = 0 := by omega
          have ej : (((0 : Nat) : Int) - 1) = -1 := by omega
          rw [ej]
          obtain ⟨hv1, hv2⟩ := in_done hrr HVAL.out
          have HV1 := Lib.hid hv1
          have HV2 := Lib.hid hv2
          have hsl : S.length ≤ 360 := dig_short HN.out HDG.out
          have hS : (str S).size = S.length := str_size S
          have hP : (str [UInt8.ofNat (48 + rr)]).size = 1 := str_size _
          have hsf := dig_slice rr hrr
          obtain ⟨dc, hdc⟩ : ∃ dc, UInt8.ofNat (48 + rr) = dc := ⟨_, rfl⟩
          rw [hdc] at hsf hP
          have HDC := Lib.hid hdc
          clear hdc
          have hvl : v.length = (nat A).length := HVL.out
          have HTR := Lib.hid (c_eTrim v HLV.out _ _ wr (row_whole (n := (nat A).length) HROW.out hvl (by omega)))
          clear hv1 hv2 hvl
          go_wp2_with (fail)
          refine HTR.out.mono ?_
          rintro e w1 ⟨r, rfl, hr, rfl⟩
          rw [HV1.out] at hr
          have hlt := HROW.out.lt
          have HR := Lib.hid (hr.mono (ok' := fun i => i < wr.heap.size) (fun i hi => by subst hi; exact hlt))
          obtain ⟨A2, c2, rfl⟩ := hr.shape
          clear hr hlt
          go_wp2_with (fail)
          rw [str_append]
          have hdv := Nat.div_lt_self h0 (show 1 < 10 by decide)
          go_roundw
          case rel =>
            refine ⟨A / 10, dc :: S, rfl, ?_, Nat.le_trans (Nat.le_of_lt hdv) HLE.out, ⟨HR.out, lb_nat _⟩, ?_⟩
            · rw [HDG.out, dig0_pos h0, ← HV2.out, HDC.out, List.append_assoc]
              rfl
            · exact below_join HNX.out HBE.out HNX.out.size
          case measure =>
            rw [slVal_fs HR.out, HSV.out]
            exact hdv
    · obtain rfl : A = 0 := by omega
      have hl0 : (nat 0).length = 0 := by rw [nat_zero]; rfl
      have hl1 : ¬ (0 : Int) < ((nat 0).length : Nat) := by omega
      have HSE := Lib.hid (show S = dig0 n from HDG.out.symm)
      by_cases hn0 : n = 0
      · have h1 : (str S).toList = [] := by rw [str_list, HSE.out, hn0]; rfl
        have h2 : (str S).toList.isEmpty = true := by rw [h1]; rfl
        have hfin : Ending.returned (.string ⟨#[48]⟩) = .returned (.string (str (Lib.decDigits n))) := by rw [hn0, Lib.decDigits, dif_pos (by decide)]; rfl
        have HFIN := Lib.hid hfin
        clear hn0 hfin
        go_wp2_with (fail)
        go_ret
        exact ⟨HFIN.out, HNX.out⟩
      · have e0 : dig0 n = Lib.decDigits n := if_neg hn0
        have h1 : ¬ (str S).toList = [] := by rw [str_list, HSE.out]; exact dig0_ne (by omega)
        have h2 : (str S).toList.isEmpty = false := by rw [List.isEmpty_eq_false_iff]; exact h1
        have HE := Lib.hid (HSE.out.trans e0)
        clear hn0 e0
        go_wp2_with (fail)
        go_ret
        rw [HE.out]
        exact ⟨rfl, HNX.out⟩
end Go.Proofs.YtfdkdloldjfnjaaGreatDoor
