/-
  DERIVED. fits, Check of the landed package (stage 5).
-/
import Derived.Test.YtglpaihadongkaaBS
import Derived.Test.YtglpaihadongkaaAJ
import Derived.Deep.QuietTactic
namespace Go.Proofs.Ytglpaihadongkaa
open Go.RowKit Go.Shelf
set_option maxRecDepth 100000
set_option linter.unusedSimpArgs false
set_option linter.unusedVariables false

def chkV (N : Int) (l : List (Int × Int × Int)) (s t : Int) (xs : List Int) : Int × Int :=
  if nfault N l s t = 0 then (if fitB l xs = true then (if (List.range N.toNat).all (evenAt (zipX l xs) s t) = true then (gain (zipX l xs) s.toNat, 0) else (0, 13)) else (0, 13)) else (0, nfault N l s t)
theorem below_drewN {B n : Nat} {a w : World} (h : Below B a w) : Below B a (w.drewN n) := ⟨h.os, h.tape, h.output, h.size, h.block⟩
set_option maxHeartbeats 8000000 in
theorem c_fits (N : Int) (L Xv : Value) (l : List (Int × Int × Int)) (xs : List Int) (w : World) (hL : PtSl w L l) (hS : IntSl w Xv xs) (hl : l.length ≤ 128) (r : Bool) (hr : fitB l xs = r) :
    Calls Try.prog 32 #[ntV N L, Xv] w fun e w' => e = .returned (.bool r) ∧ Below w.heap.size w w' := by
  obtain ⟨A, c, rfl, hc1, hc2⟩ := hL.shape
  obtain ⟨A2, c2, rfl, hd1, hd2⟩ := hS.shape
  unfold maxLen at hc2 hd2
  obtain ⟨W, hW⟩ : ∃ W, W = w.alloc (.cells #[.int .i64 N, .slice A l.length c] 24) := ⟨_, rfl⟩
  have B0 : Below w.heap.size w W := by subst hW; exact (Below.refl _ _).alloc (Nat.le_refl _) _
  have HB0 := Lib.hid B0
  have HX := Lib.hid (show W.heap[w.heap.size]? = some (.cells #[.int .i64 N, .slice A l.length c] 24 (0, 0)) by subst hW; exact heap_alloc_new _ _)
  have x1 : W.cell? ⟨w.heap.size, 1, none⟩ = some (.slice A l.length c) := cell_of HX.out rfl
  have HL := Lib.hid (hL.on B0 (Nat.le_refl _))
  have HS := Lib.hid (hS.on B0 (Nat.le_refl _))
  unfold ntV
  clear B0 hL hS
  rw [hW] at x1
  by_cases hlen : xs.length = l.length
  · have hne : ((xs.length : Int) != (l.length : Int)) = false := by rw [hlen]; simp
    have HR := Lib.hid (show (List.range l.length).all (fitAt l xs) = r by rw [← hr]; unfold fitB; rw [decide_eq_true hlen]; rfl)
    have HLEN := Lib.hid hlen
    clear hr hlen
    go_enter Try.func32, Try.ntmps32
    go_wp2_with (fail)
    rw [← hW]
    clear hW x1
    go_loopw [16] (fun i wr => ∃ k : Nat, k ≤ l.length ∧ i = .int .i64 (k : Int) ∧ Hid (Below W.heap.size W wr) ∧ Hid ((List.range k).all (fitAt l xs) = true)) (fun i _ => l.length - (intOf i).toNat)
    case atStart => exact ⟨0, Nat.zero_le _, rfl, Lib.hid (Below.refl _ _), Lib.hid rfl⟩
    case round =>
      obtain ⟨k, hk, rfl, hB, hok⟩ := hrel
      have hki : ((k : Nat) : Int).toNat = k := by omega
      by_cases hlt : k < l.length
      · obtain ⟨⟨u, v, cp⟩, hx⟩ : ∃ p, l[k]? = some p := ⟨_, List.getElem?_eq_getElem hlt⟩
        obtain ⟨z, hz⟩ : ∃ z, xs[k]? = some z := ⟨_, List.getElem?_eq_getElem (by rw [HLEN.out]; exact hlt)⟩
        obtain ⟨b, o, c', e, hbb, -, -, y0, y1, y2⟩ := (HL.out.on hB.out (Nat.le_refl _)).at_ hx
        injection e with e1 hle e2
        clear hle
        subst e1 e2
        obtain ⟨V, hV⟩ : ∃ V, V = wr.alloc (.cells #[.int .i64 u, .int .i64 v, .int .i64 cp] 39) := ⟨_, rfl⟩
        have hBV : Below W.heap.size W V := by subst hV; exact hB.out.alloc hB.out.size _
        have HBV := Lib.hid hBV
        have HVA := Lib.hid (show V.heap[wr.heap.size]? = some (.cells #[.int .i64 u, .int .i64 v, .int .i64 cp] 39 (0, 0)) by subst hV; exact heap_alloc_new _ _)
        obtain ⟨b', o', c'', e, -, -, -, z0⟩ := (HS.out.on hBV (Nat.le_refl _)).at_ hz
        injection e with e1 hle e2
        clear hle
        subst e1 e2
        have a2 := (three_cells HVA.out).2.2
        have hkx : (k : Int) < (xs.length : Int) := by rw [HLEN.out]; omega
        have hgx : fitAt l xs k = (!decide (z < 0) && !decide (cp < z)) := by unfold fitAt; simp [hx, hz]
        have HGX := Lib.hid hgx
        clear hx hbb hz hgx hBV
        go_wp2_with (fail)
        rw [← hV]
        clear hV y0 y1 y2
        rcases h1 : decide (z < 0) with _ | _
        · rcases h2 : decide (cp < z) with _ | _
          · have HOK := Lib.hid (range_all k hok.out (show fitAt l xs k = true by rw [HGX.out, h1, h2]; rfl))
            go_wp2_with (fail)
            go_quiet (fail)
            go_wp2_with (fail)
            go_roundw
            case rel => exact ⟨k + 1, by omega, by go_num, Lib.hid (below_drewN HBV.out), HOK⟩
            case measure => simp only [intOf]; omega
          · have hno := range_not (f := fitAt l xs) hlt (by rw [HGX.out, h1, h2]; rfl)
            obtain rfl : false = r := by rw [← HR.out, hno]
            go_wp2_with (fail)
            go_quiet (fail)
            go_wp2_with (fail)
            go_ret
            exact ⟨rfl, below_join HB0.out (below_drewN HBV.out) HB0.out.size⟩
        · have hno := range_not (f := fitAt l xs) hlt (by rw [HGX.out, h1]; rfl)
          obtain rfl : false = r := by rw [← HR.out, hno]
          go_wp2_with (fail)
          go_quiet (fail)
          go_wp2_with (fail)
          go_ret
          exact ⟨rfl, below_join HB0.out (below_drewN HBV.out) HB0.out.size⟩
      · obtain rfl : k = l.length := by omega
        obtain rfl : true = r := by rw [← HR.out, hok.out]
        go_wp2_with (fail)
        go_ret
        exact ⟨rfl, below_join HB0.out hB.out HB0.out.size⟩
  · have hne : ((xs.length : Int) != (l.length : Int)) = true := by rw [bne_iff_ne]; omega
    obtain rfl : false = r := by rw [← hr]; unfold fitB; rw [decide_eq_false hlen]; rfl
    clear hlen hr
    go_enter Try.func32, Try.ntmps32
    go_wp2_with (fail)
    go_ret
    rw [← hW]
    exact ⟨rfl, HB0.out⟩
end Go.Proofs.Ytglpaihadongkaa
