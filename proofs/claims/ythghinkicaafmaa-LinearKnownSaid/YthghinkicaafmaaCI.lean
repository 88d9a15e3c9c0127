/-
  DERIVED. Plain facts for LinearKnown (stage 6).
-/
import Derived.Test.YthghinkicaafmaaCF
import Derived.Test.YthghinkicaafmaaBG
import Derived.Test.YthghinkicaafmaaBW
namespace Go.Proofs.Ythghinkicaafmaa
open Go.RowKit
set_option maxRecDepth 100000

theorem arr_k (k : Nat) (h : k < 5) : fltL 10 smP 0 [[7], [5, 6]] (k : Int) = 0 := by
  match k, h with
  | 0, _ => decide +kernel
  | 1, _ => decide +kernel
  | 2, _ => decide +kernel
  | 3, _ => decide +kernel
  | 4, _ => decide +kernel
theorem want_at {X : World} {b : Nat} {T : TypeId} (h : X.heap[b]? = some (.cells #[.int .i64 7, .int .i64 0, .int .i64 10, .int .i64 12, .int .i64 0] T (0, 0))) (k : Nat) (hk : k < 5) :
    X.cell? ⟨b, k, none⟩ = some (.int .i64 (arr smP [[7], [5, 6]] (k : Int))) := by
  match k, hk with
  | 0, _ => rw [show arr smP [[7], [5, 6]] ((0 : Nat) : Int) = 7 by decide +kernel]; simp [World.cell?, h]
  | 1, _ => rw [show arr smP [[7], [5, 6]] ((1 : Nat) : Int) = 0 by decide +kernel]; simp [World.cell?, h]
  | 2, _ => rw [show arr smP [[7], [5, 6]] ((2 : Nat) : Int) = 10 by decide +kernel]; simp [World.cell?, h]
  | 3, _ => rw [show arr smP [[7], [5, 6]] ((3 : Nat) : Int) = 12 by decide +kernel]; simp [World.cell?, h]
  | 4, _ => rw [show arr smP [[7], [5, 6]] ((4 : Nat) : Int) = 0 by decide +kernel]; simp [World.cell?, h]
theorem fltL_bad {C : Int} {ps : List (Int × Int × Int)} {s : Int} {ins : List (List Int)} {n : Int} (h : lnOk C ps = false) : fltL C ps s ins n = 1 := flt_arg h
theorem PtSl.nil (w : World) : PtSl w (.slice none 0 0) [] := ⟨none, 0, rfl, Nat.le_refl _, Nat.zero_le _, fun h => absurd h (Nat.lt_irrefl _)⟩
theorem LiSl.nil (w : World) : LiSl w (.slice none 0 0) [] := ⟨none, 0, rfl, Nat.le_refl _, Nat.zero_le _, fun h => absurd h (Nat.lt_irrefl _)⟩
def zp17 : Array Value := madeCells (Value.agg #[.int .i64 0, .int .i64 0, .int .i64 0]).cells (17 * 3)
def zp16 : Array Value := madeCells (Value.agg #[.int .i64 0, .int .i64 0, .int .i64 0]).cells (16 * 3)
theorem zp17_list : zp17.toList = cellsP (List.replicate 17 (0, 0, 0)) := by kernel_rfl
theorem zp16_list : zp16.toList = cellsP (List.replicate 16 (0, 0, 0)) := by kernel_rfl
theorem pt_info' : (Try.prog.info? 41).map (fun i => (i.zero, i.size, i.bytes)) = some (some (.agg #[.int .i64 0, .int .i64 0, .int .i64 0]), 3, 24) := by kernel_rfl
theorem mkp17 : ∀ w : World, (Instr.makeSlice 22 (.int .i64 17) (.int .i64 17)).run Try.prog w = .ok (.slice (some ⟨w.heap.size, 0, none⟩) 17 17) (w.alloc (.cells zp17 41)) := by
  obtain ⟨i0, hi0, hz0, hz1, hz2⟩ := info_parts pt_info'
  intro w
  have h := run_make (P := Try.prog) w 22 41 i0 (.agg #[.int .i64 0, .int .i64 0, .int .i64 0]) Try.underlying22 hi0 hz0 .i64 .i64 17 17 (by omega) (by omega) (by rw [hz2]; omega) (by omega)
  rw [hz1] at h
  exact h
theorem mkp16 : ∀ w : World, (Instr.makeSlice 22 (.int .i64 16) (.int .i64 16)).run Try.prog w = .ok (.slice (some ⟨w.heap.size, 0, none⟩) 16 16) (w.alloc (.cells zp16 41)) := by
  obtain ⟨i0, hi0, hz0, hz1, hz2⟩ := info_parts pt_info'
  intro w
  have h := run_make (P := Try.prog) w 22 41 i0 (.agg #[.int .i64 0, .int .i64 0, .int .i64 0]) Try.underlying22 hi0 hz0 .i64 .i64 16 16 (by omega) (by omega) (by rw [hz2]; omega) (by omega)
  rw [hz1] at h
  exact h
/-- The lines that are not valid. -/
theorem odd_line {X : World} {b o : Nat} {T : TypeId} (h : X.heap[b]? = some (.cells #[.int .i64 (-1), .slice none 0 0, .int .i64 100000001, .slice none 0 0, .int .i64 0, .slice (some ⟨o, 0, none⟩) 17 17, .int .i64 0, .slice (some ⟨o + 1, 0, none⟩) 1 1, .int .i64 0, .slice (some ⟨o + 2, 0, none⟩) 1 1, .int .i64 0, .slice (some ⟨o + 3, 0, none⟩) 1 1, .int .i64 0, .slice (some ⟨o + 4, 0, none⟩) 1 1, .int .i64 0, .slice (some ⟨o + 5, 0, none⟩) 1 1, .int .i64 0, .slice (some ⟨o + 6, 0, none⟩) 1 1] T (0, 0)))
    (h0 : X.heap[o]? = some (.cells zp17 41 (0, 0)))
    (h1 : X.heap[o + 1]? = some (.cells #[.int .i64 (-1), .int .i64 0, .int .i64 0] 41 (0, 0)))
    (h2 : X.heap[o + 2]? = some (.cells #[.int .i64 16, .int .i64 0, .int .i64 0] 41 (0, 0)))
    (h3 : X.heap[o + 3]? = some (.cells #[.int .i64 0, .int .i64 (-1), .int .i64 0] 41 (0, 0)))
    (h4 : X.heap[o + 4]? = some (.cells #[.int .i64 0, .int .i64 1001, .int .i64 0] 41 (0, 0)))
    (h5 : X.heap[o + 5]? = some (.cells #[.int .i64 0, .int .i64 0, .int .i64 (-1)] 41 (0, 0)))
    (h6 : X.heap[o + 6]? = some (.cells #[.int .i64 0, .int .i64 0, .int .i64 1001] 41 (0, 0))) (k : Nat) (hk : k < 9) :
    ∃ (C : Int) (A : Option Addr) (m c : Nat) (ps : List (Int × Int × Int)), lnOk C ps = false ∧ X.cell? ⟨b, k * 2, none⟩ = some (.int .i64 C) ∧ X.cell? ⟨b, k * 2 + 1, none⟩ = some (.slice A m c) ∧ PtSl X (.slice A m c) ps := by
  match k, hk with
  | 0, _ => exact ⟨-1, none, 0, 0, [], by decide, by simp [World.cell?, h], by simp [World.cell?, h], PtSl.nil _⟩
  | 1, _ => exact ⟨100000001, none, 0, 0, [], by decide, by simp [World.cell?, h], by simp [World.cell?, h], PtSl.nil _⟩
  | 2, _ => exact ⟨0, _, _, _, List.replicate 17 (0, 0, 0), by decide +kernel, by simp [World.cell?, h], by simp [World.cell?, h]; exact ⟨rfl, rfl, rfl⟩, by have := ptSl_lit (List.replicate 17 (0, 0, 0)) h0 zp17_list (by simp); rw [List.length_replicate] at this; exact this⟩
  | 3, _ => exact ⟨0, _, _, _, [(-1, 0, 0)], by decide +kernel, by simp [World.cell?, h], by simp [World.cell?, h], ptSl_lit [(-1, 0, 0)] h1 rfl (by simp)⟩
  | 4, _ => exact ⟨0, _, _, _, [(16, 0, 0)], by decide +kernel, by simp [World.cell?, h], by simp [World.cell?, h], ptSl_lit [(16, 0, 0)] h2 rfl (by simp)⟩
  | 5, _ => exact ⟨0, _, _, _, [(0, -1, 0)], by decide +kernel, by simp [World.cell?, h], by simp [World.cell?, h], ptSl_lit [(0, -1, 0)] h3 rfl (by simp)⟩
  | 6, _ => exact ⟨0, _, _, _, [(0, 1001, 0)], by decide +kernel, by simp [World.cell?, h], by simp [World.cell?, h], ptSl_lit [(0, 1001, 0)] h4 rfl (by simp)⟩
  | 7, _ => exact ⟨0, _, _, _, [(0, 0, -1)], by decide +kernel, by simp [World.cell?, h], by simp [World.cell?, h], ptSl_lit [(0, 0, -1)] h5 rfl (by simp)⟩
  | 8, _ => exact ⟨0, _, _, _, [(0, 0, 1001)], by decide +kernel, by simp [World.cell?, h], by simp [World.cell?, h], ptSl_lit [(0, 0, 1001)] h6 rfl (by simp)⟩
/-- The arguments that are out of range: a start, inputs, a number of ticks. -/
theorem wrong_line {X : World} {b xa xb2 xc2 xd2 : Nat} {T : TypeId}
    (h : X.heap[b]? = some (.cells #[.int .i64 0, .slice none 0 0, .int .i64 (-1), .slice none 0 0, .int .i64 0, .int .i64 0, .int .i64 0, .int .i64 0, .slice none 0 0, .int .i64 100000001, .slice none 0 0, .int .i64 0, .int .i64 0, .int .i64 0, .int .i64 0, .slice none 0 0, .int .i64 0, .slice none 0 0, .int .i64 (-1), .int .i64 0, .int .i64 0, .int .i64 0, .slice none 0 0, .int .i64 0, .slice none 0 0, .int .i64 1001, .int .i64 0, .int .i64 0, .int .i64 0, .slice none 0 0, .int .i64 0, .slice (some ⟨xa, 0, none⟩) 17 17, .int .i64 0, .int .i64 0, .int .i64 0, .int .i64 0, .slice none 0 0, .int .i64 0, .slice (some ⟨xb2, 0, none⟩) 1 1, .int .i64 0, .int .i64 0, .int .i64 0, .int .i64 0, .slice none 0 0, .int .i64 0, .slice (some ⟨xc2, 0, none⟩) 2 2, .int .i64 0, .int .i64 0, .int .i64 0, .int .i64 0, .slice none 0 0, .int .i64 0, .slice (some ⟨xd2, 0, none⟩) 1 1, .int .i64 0, .int .i64 0, .int .i64 0] T (0, 0)))
    (fa : LiSl X (.slice (some ⟨xa, 0, none⟩) 17 17) (List.replicate 17 [])) (fb : LiSl X (.slice (some ⟨xb2, 0, none⟩) 1 1) [List.replicate 1001 0]) (fc : LiSl X (.slice (some ⟨xc2, 0, none⟩) 2 2) [[], [-1]]) (fd : LiSl X (.slice (some ⟨xd2, 0, none⟩) 1 1) [[100000001]]) (k : Nat) (hk : k < 8) :
    ∃ (s n : Int) (A : Option Addr) (m c : Nat) (ins : List (List Int)), fltL 10 smP s ins n = 2 ∧ LiSl X (.slice A m c) ins ∧
      X.cell? ⟨b, k * 7, none⟩ = some (.int .i64 0) ∧ X.cell? ⟨b, k * 7 + 1, none⟩ = some (.slice none 0 0) ∧ X.cell? ⟨b, k * 7 + 2, none⟩ = some (.int .i64 s) ∧ X.cell? ⟨b, k * 7 + 3, none⟩ = some (.slice A m c) ∧ X.cell? ⟨b, k * 7 + 4, none⟩ = some (.int .i64 n) ∧ X.cell? ⟨b, k * 7 + 5, none⟩ = some (.int .i64 0) ∧ X.cell? ⟨b, k * 7 + 6, none⟩ = some (.int .i64 0) := by
  match k, hk with
  | 0, _ => exact ⟨-1, 0, none, 0, 0, [], by decide +kernel, LiSl.nil _, by simp [World.cell?, h], by simp [World.cell?, h], by simp [World.cell?, h], by simp [World.cell?, h], by simp [World.cell?, h], by simp [World.cell?, h], by simp [World.cell?, h]⟩
  | 1, _ => exact ⟨100000001, 0, none, 0, 0, [], by decide +kernel, LiSl.nil _, by simp [World.cell?, h], by simp [World.cell?, h], by simp [World.cell?, h], by simp [World.cell?, h], by simp [World.cell?, h], by simp [World.cell?, h], by simp [World.cell?, h]⟩
  | 2, _ => exact ⟨0, -1, none, 0, 0, [], by decide +kernel, LiSl.nil _, by simp [World.cell?, h], by simp [World.cell?, h], by simp [World.cell?, h], by simp [World.cell?, h], by simp [World.cell?, h], by simp [World.cell?, h], by simp [World.cell?, h]⟩
  | 3, _ => exact ⟨0, 1001, none, 0, 0, [], by decide +kernel, LiSl.nil _, by simp [World.cell?, h], by simp [World.cell?, h], by simp [World.cell?, h], by simp [World.cell?, h], by simp [World.cell?, h], by simp [World.cell?, h], by simp [World.cell?, h]⟩
  | 4, _ => exact ⟨0, 0, _, _, _, _, by decide +kernel, fa, by simp [World.cell?, h], by simp [World.cell?, h], by simp [World.cell?, h], by simp [World.cell?, h], by simp [World.cell?, h], by simp [World.cell?, h], by simp [World.cell?, h]⟩
  | 5, _ => exact ⟨0, 0, _, _, _, _, by decide +kernel, fb, by simp [World.cell?, h], by simp [World.cell?, h], by simp [World.cell?, h], by simp [World.cell?, h], by simp [World.cell?, h], by simp [World.cell?, h], by simp [World.cell?, h]⟩
  | 6, _ => exact ⟨0, 0, _, _, _, _, by decide +kernel, fc, by simp [World.cell?, h], by simp [World.cell?, h], by simp [World.cell?, h], by simp [World.cell?, h], by simp [World.cell?, h], by simp [World.cell?, h], by simp [World.cell?, h]⟩
  | 7, _ => exact ⟨0, 0, _, _, _, _, by decide +kernel, fd, by simp [World.cell?, h], by simp [World.cell?, h], by simp [World.cell?, h], by simp [World.cell?, h], by simp [World.cell?, h], by simp [World.cell?, h], by simp [World.cell?, h]⟩
/-- The greatest line and inputs. -/
def bgP : List (Int × Int × Int) := (List.range 16).map fun i : Nat => ((i : Int), 1000, 0)
def bgI : List (List Int) := List.replicate 16 (List.replicate 1000 100000000)
theorem bg_flt : fltL 0 bgP 100000000 bgI 1000 = 0 := by decide +kernel
theorem bg_giv (s : Nat) (hs : s < 16) (t : Nat) (ht : t < 1000) : giv bgI (s : Int) ((t : Int) - 0) = 100000000 := by
  unfold giv
  rw [if_neg (by omega), Int.toNat_natCast, show ((t : Int) - 0).toNat = t by omega]
  unfold bgI
  rw [List.getElem?_replicate, if_pos hs]
  show ((List.replicate 1000 (100000000 : Int))[t]?).getD 0 = _
  rw [List.getElem?_replicate, if_pos ht]; rfl
theorem bg_arr (t : Nat) (ht : t < 1000) : arr bgP bgI (t : Int) = 1600000000000 := by
  unfold arr
  have h : bgP.map (brg bgI (t : Int)) = List.replicate 16 100000000000 := by
    unfold bgP
    rw [List.map_map]
    apply List.ext_getElem?
    intro i
    rw [List.getElem?_map, List.getElem?_replicate]
    by_cases hi : i < 16
    · rw [List.getElem?_range hi, if_pos hi]
      show some (brg bgI (t : Int) ((i : Int), 1000, 0)) = _
      unfold brg
      rw [bg_giv i hi t ht]; rfl
    · rw [if_neg hi, List.getElem?_eq_none (by simp; omega)]; rfl
  rw [h]; decide
theorem bg_amts : amts bgP bgI 1000 = List.replicate 1000 1600000000000 := by
  apply List.ext_getElem?
  intro i
  rw [List.getElem?_replicate]
  by_cases hi : i < 1000
  · rw [amts_get bgP bgI hi, bg_arr i hi, if_pos hi]
  · rw [if_neg hi, List.getElem?_eq_none (by rw [amts_len]; omega)]
theorem lvE_same {a : Int} (ha : 0 ≤ a) : ∀ (n : Nat) (s : Int), 0 ≤ s → lvE 0 s (List.replicate n a) = s + n * a := by
  intro n
  induction n with
  | zero => intro s _; show s = _; simp
  | succ n ih =>
    intro s hs
    rw [List.replicate_succ]
    show lvE 0 (lv1 0 s a) (List.replicate n a) = _
    rw [ih _ (by unfold lv1; omega)]
    have : lv1 0 s a = s + a := by unfold lv1; omega
    rw [this, show ((n + 1 : Nat) : Int) = (n : Int) + 1 by omega, Int.add_mul]; omega
theorem bg_len : (crsP 0 bgP 100000000 bgI 1000).length = 1001 := by
  unfold crsP
  rw [List.length_cons, lvs_len, amts_len]; rfl
theorem bg_last : (crsP 0 bgP 100000000 bgI 1000)[1000]? = some 1600000100000000 := by
  unfold crsP
  rw [lvs_get 0 _ _ 1000 (by rw [amts_len]; exact Nat.le_refl _), show (1000 : Int).toNat = 1000 by rfl, bg_amts, List.take_of_length_le (by simp), lvE_same (by omega) 1000 _ (by omega)]; rfl
theorem bg_none : lstP 0 bgP 100000000 bgI 1000 100000000 = (0, 7) := by
  have hl : lstN 100000000 100000000 (amts bgP bgI (1000 : Int).toNat) = 100000001 := by
    refine lstN_eq (by omega) (fun _ => ?_) (fun h => absurd h (by omega))
    rw [show (1000 : Int).toNat = 1000 by rfl, bg_amts]
    rcases he : enP 100000000 100000000 (List.replicate 1000 1600000000000) (((100000001 - 1 : Nat)) : Int) with _ | _
    · rfl
    · exfalso
      have := enP_iff.1 he 1 (by simp)
      rw [show (List.replicate 1000 (1600000000000 : Int)).take 1 = [1600000000000] by rfl] at this
      exact absurd this (by decide)
  unfold lstP
  rw [if_pos bg_flt, hl, if_neg (by omega)]
theorem lst_a : lstP 10 smP 5 [] 4 4 = (0, 7) := by
  have hl : lstN 5 4 (amts smP [] (4 : Int).toNat) = 100000001 := by
    refine lstN_eq (by omega) (fun _ => ?_) (fun h => absurd h (by omega))
    decide +kernel
  unfold lstP
  rw [if_pos (by decide +kernel), hl, if_neg (by omega)]
theorem lst_b : lstP 10 smP 5 [] 4 5 = (0, 0) := by
  have hl : lstN 5 5 (amts smP [] (4 : Int).toNat) = 0 := lstN_eq (by omega) (fun h => absurd h (by omega)) (fun _ => by decide +kernel)
  unfold lstP
  rw [if_pos (by decide +kernel), hl, if_pos (by omega)]; rfl
theorem lst_c : lstP 10 smP 0 [] 0 (-1) = (0, 7) := by
  have hl : lstN 0 (-1) (amts smP [] (0 : Int).toNat) = 100000001 := by
    refine lstN_eq (by omega) (fun _ => ?_) (fun h => absurd h (by omega))
    decide +kernel
  unfold lstP
  rw [if_pos (by decide +kernel), hl, if_neg (by omega)]
end Go.Proofs.Ythghinkicaafmaa
