/-
  DERIVED. The reference's arrives (stage 6).
-/
import Derived.Test.YthghinkicaafmaaAE
import Derived.Deep.RegionHeld3
namespace Go.Proofs.Ythghinkicaafmaa
open Go.RowKit
set_option maxRecDepth 100000

theorem arr_take_succ {ps : List (Int × Int × Int)} {k : Nat} {p : Int × Int × Int} (h : ps[k]? = some p) (ins : List (List Int)) (t : Int) : arr (ps.take (k + 1)) ins t = arr (ps.take k) ins t + p.2.1 * giv ins p.1 (t - p.2.2) := by
  obtain ⟨hk, e⟩ := List.getElem?_eq_some_iff.1 h
  unfold arr
  rw [List.take_succ_eq_append_getElem hk, List.map_append, List.sum_append, e]
  show _ + (brg ins t p + 0) = _
  rw [Int.add_zero]; rfl
/-- A line, as a value. -/
def lnV (C : Int) (P : Value) : Value := .agg #[.int .i64 C, P]
theorem all_take {α : Type} {f : α → Bool} {l : List α} (h : l.all f = true) (k : Nat) : (l.take k).all f = true := by
  rw [List.all_eq_true] at h ⊢
  exact fun x hx => h x (List.mem_of_mem_take hx)
set_option maxHeartbeats 8000000 in
theorem d_arrives (C : Int) (ps : List (Int × Int × Int)) (ins : List (List Int)) (t : Int) (hp : ps.all ptOk = true) (hl : ps.length ≤ 16) (hi : inOk ins = true) (ht : 0 ≤ t ∧ t ≤ 100000) (P I : Value) (w : World) (hP : PtSl w P ps) (hI : LiSl w I ins) :
    Calls Try.prog 33 #[lnV C P, I, .int .i64 t] w fun e w' => e = .returned (.int .i64 (arr ps ins t)) ∧ Below w.heap.size w w' := by
  unfold lnV
  obtain ⟨A, c, rfl, hc1, hc2⟩ := hP.shape
  unfold maxLen at hc2
  obtain ⟨W, hW⟩ : ∃ W, W = w.alloc (.cells #[.int .i64 C, .slice A ps.length c] 24) := ⟨_, rfl⟩
  have B0 : Below w.heap.size w W := by subst hW; exact (Below.refl _ _).alloc (Nat.le_refl _) _
  have HB := Lib.hid B0
  have HP := Lib.hid (hP.on B0 (Nat.le_refl _))
  have HI := Lib.hid (hI.on B0 (Nat.le_refl _))
  have HALL := Lib.hid hp
  have HIN := Lib.hid hi
  clear hP hI B0 hp hi
  go_enter Try.func33, Try.ntmps33
  go_wp2_with (fail)
  rw [← hW]
  clear hW
  go_loopw [7, 13] (fun v i wr => ∃ k : Nat, k ≤ ps.length ∧ v = .int .i64 (arr (ps.take k) ins t) ∧ i = .int .i64 (k : Int) ∧ Hid (Below W.heap.size W wr)) (fun _ i _ => ps.length - (intOf i).toNat)
  case atStart => exact ⟨0, Nat.zero_le _, rfl, rfl, Lib.hid (Below.refl _ _)⟩
  case round =>
    obtain ⟨k, hk, rfl, rfl, hB⟩ := hrel
    have hki : ((k : Nat) : Int).toNat = k := by omega
    by_cases hlt : k < ps.length
    · obtain ⟨⟨s, m, d⟩, hx⟩ : ∃ p, ps[k]? = some p := ⟨_, List.getElem?_eq_getElem hlt⟩
      obtain ⟨h1, h2, h3, h4, h5, h6⟩ := ptOk_iff.1 (List.all_eq_true.1 HALL.out _ (List.mem_of_getElem? hx))
      have h1 : 0 ≤ s := h1
      have h2 : s ≤ 15 := h2
      have h3 : 0 ≤ m := h3
      have h4 : m ≤ 1000 := h4
      have h5 : 0 ≤ d := h5
      have h6 : d ≤ 1000 := h6
      obtain ⟨b, o, c', e, hb, -, -, q0, q1, q2⟩ := HP.out.at_ hx
      injection e with e1 e2 e3
      clear e2
      subst e1 e3
      have y0 := (hB.out.cell (p := ⟨b, o + k * 3, none⟩) hb).trans q0
      have y1 := (hB.out.cell (p := ⟨b, o + k * 3 + 1, none⟩) hb).trans q1
      have y2 := (hB.out.cell (p := ⟨b, o + k * 3 + 2, none⟩) hb).trans q2
      obtain ⟨z, hz⟩ : ∃ z, z = arr (ps.take k) ins t := ⟨_, rfl⟩
      obtain ⟨g, hg⟩ : ∃ g, g = giv ins s (t - d) := ⟨_, rfl⟩
      have hs := arr_take_succ hx ins t
      have hz2 := arr_bounds HIN.out (all_take HALL.out k) t
      have hg2 := giv_bounds HIN.out s (t - d)
      rw [← hz] at hz2
      rw [← hg] at hg2
      have hmg : 0 ≤ m * g ∧ m * g ≤ 100000000000 := by
        refine ⟨Int.mul_nonneg h3 hg2.1, ?_⟩
        have := Int.mul_le_mul h4 hg2.2 hg2.1 (by omega : (0 : Int) ≤ 1000)
        omega
      have hlen : ((ps.take k).length : Int) ≤ 16 := by rw [List.length_take]; omega
      have hw1 : IntKind.i64.wrap (m * g) = m * g := by rw [IntKind.wrap_i64]; omega
      have hw2 : IntKind.i64.wrap (z + m * g) = z + m * g := by rw [IntKind.wrap_i64]; omega
      obtain ⟨sn, hsn⟩ : ∃ n : Nat, s = (n : Int) := ⟨s.toNat, by omega⟩
      have HS := Lib.hid (show arr (ps.take (k + 1)) ins t = z + m * g by rw [hs, ← hz, hg])
      subst hsn
      have HX := Lib.hid (hB.out.alloc hB.out.size (.cells #[.int .i64 (sn : Int), .int .i64 m, .int .i64 d] 41))
      have HG := Lib.hid (fun n : Nat => d_given sn (t - d) (by omega) ins I ((wr.alloc (.cells #[.int .i64 (sn : Int), .int .i64 m, .int .i64 d] 41)).drewN n) (HI.out.on (drew_below HX.out ⟨n, rfl⟩) (Nat.le_refl _)) g hg.symm)
      have hz0 := hB.out.size
      rw [← hz]
      clear hx q0 q1 q2 hz hg hs hz2 hg2 hb
      go_wp2_with (fail)
      go_quiet ((go_at_call 47; exact calm_once HG.out))
      go_wp2_with (fail)
      go_roundw
      case rel => exact ⟨k + 1, by omega, by rw [HS.out], by go_num, Lib.hid (drew_below HX.out ⟨_, rfl⟩)⟩
      case measure => simp only [intOf]; omega
    · obtain rfl : k = ps.length := by omega
      rw [List.take_length]
      go_wp2_with (fail)
      go_ret
      exact ⟨rfl, below_join HB.out hB.out HB.out.size⟩
end Go.Proofs.Ythghinkicaafmaa
