/-
  DERIVED. The program's Valid (stage 6). (Written by gen/genAH.py.)
-/
import Derived.Test.YthghinkicaafmaaAG
namespace Go.Proofs.Ythghinkicaafmaa
open Go.RowKit
set_option maxRecDepth 100000

theorem upTo {x m : Int} {b : Bool} (h : (decide (0 ≤ x) && decide (x ≤ m)) = b) : Hid ((decide (0 ≤ x) && decide (x ≤ m)) = b) := Lib.hid h
set_option maxHeartbeats 8000000 in
theorem c_Valid (C : Int) (ps : List (Int × Int × Int)) (P : Value) (w : World) (hP : PtSl w P ps) (r : Bool) (hr : lnOk C ps = r) :
    Calls Try.prog 16 #[lnV C P] w fun e w' => e = .returned (.bool r) ∧ Below w.heap.size w w' := by
  unfold lnV
  obtain ⟨A, c, rfl, hc1, hc2⟩ := hP.shape
  unfold maxLen at hc2
  obtain ⟨W, hW⟩ : ∃ W, W = w.alloc (.cells #[.int .i64 C, .slice A ps.length c] 24) := ⟨_, rfl⟩
  have B0 : Below w.heap.size w W := by subst hW; exact (Below.refl _ _).alloc (Nat.le_refl _) _
  have HB := Lib.hid B0
  have HC := Lib.hid (show W.cell? ⟨w.heap.size, 0, none⟩ = some (.int .i64 C) ∧ W.cell? ⟨w.heap.size, 1, none⟩ = some (.slice A ps.length c) by subst hW; have h := heap_alloc_new w (.cells #[.int .i64 C, .slice A ps.length c] 24); constructor <;> simp only [World.cell?, h] <;> rfl)
  have HP := Lib.hid (hP.on B0 (Nat.le_refl _))
  have HR := Lib.hid (show ((decide (0 ≤ C) && decide (C ≤ 100000000)) && (decide (ps.length ≤ 16) && ps.all ptOk)) = r from hr)
  clear hP B0 hr
  rcases h1 : (decide (0 ≤ C) && decide (C ≤ 100000000)) with _ | _
  · have H1 := upTo h1
    obtain rfl : false = r := by rw [← HR.out, h1]; rfl
    clear h1
    go_enter Try.func16, Try.ntmps16
    go_wp2_with (fail)
    rw [← hW]
    clear hW
    go_at_call 36
    refine (c_isUpTo _ _ _ H1.out _).mono ?_
    rintro e w1 ⟨rfl, rfl⟩
    go_wp2_with (fail)
    go_ret
    exact ⟨rfl, HB.out⟩
  · have H1 := upTo h1
    by_cases g : ps.length ≤ 16
    · have HR2 := Lib.hid (show ps.all ptOk = r by rw [← HR.out, h1, decide_eq_true g]; rfl)
      clear h1
      obtain ⟨x0, x1⟩ := HC.out
      go_enter Try.func16, Try.ntmps16
      go_wp2_with (fail)
      rw [← hW]
      clear hW
      go_at_call 36
      refine (c_isUpTo _ _ _ H1.out _).mono ?_
      rintro e w1 ⟨rfl, rfl⟩
      go_wp2_with (fail)
      go_loopw [18] (fun i wr => ∃ k : Nat, k ≤ ps.length ∧ i = .int .i64 (k : Int) ∧ Hid ((ps.take k).all ptOk = true) ∧ Hid (Below W.heap.size W wr)) (fun i _ => ps.length - (intOf i).toNat)
      case atStart => exact ⟨0, Nat.zero_le _, rfl, Lib.hid rfl, Lib.hid (Below.refl _ _)⟩
      case round =>
        clear x0 x1
        obtain ⟨k, hk, rfl, hA, hB⟩ := hrel
        have hki : ((k : Nat) : Int).toNat = k := by omega
        by_cases hlt : k < ps.length
        · obtain ⟨⟨s, m, d⟩, hx⟩ : ∃ p, ps[k]? = some p := ⟨_, List.getElem?_eq_getElem hlt⟩
          obtain ⟨b, o, c', e, hb, -, -, q0, q1, q2⟩ := HP.out.at_ hx
          injection e with e1 e2 e3
          clear e2
          subst e1 e3
          have y0 := (hB.out.cell (p := ⟨b, o + k * 3, none⟩) hb).trans q0
          have y1 := (hB.out.cell (p := ⟨b, o + k * 3 + 1, none⟩) hb).trans q1
          have y2 := (hB.out.cell (p := ⟨b, o + k * 3 + 2, none⟩) hb).trans q2
          have HX := Lib.hid (hB.out.alloc hB.out.size (.cells #[.int .i64 s, .int .i64 m, .int .i64 d] 41))
          have HIX := Lib.hid hx
          clear hx q0 q1 q2 hb
          have hpe : ptOk (s, m, d) = ((decide (0 ≤ s) && decide (s ≤ 15)) && ((decide (0 ≤ m) && decide (m ≤ 1000)) && (decide (0 ≤ d) && decide (d ≤ 1000)))) := rfl
          rcases k1 : (decide (0 ≤ s) && decide (s ≤ 15)) with _ | _
          · have K1 := upTo k1
            obtain rfl : false = r := by rw [← HR2.out]; exact (List.all_eq_false.2 ⟨_, List.mem_of_getElem? HIX.out, by rw [hpe, k1]; simp⟩).symm
            clear hpe k1
            go_wp2_with (fail)
            go_at_call 36
            refine (c_isUpTo _ _ _ K1.out _).mono ?_
            rintro e w1 ⟨rfl, rfl⟩
            go_wp2_with (fail)
            go_ret
            exact ⟨rfl, below_join HB.out HX.out HB.out.size⟩
          · have K1 := upTo k1
            rcases k2 : (decide (0 ≤ m) && decide (m ≤ 1000)) with _ | _
            · have K2 := upTo k2
              obtain rfl : false = r := by rw [← HR2.out]; exact (List.all_eq_false.2 ⟨_, List.mem_of_getElem? HIX.out, by rw [hpe, k1, k2]; simp⟩).symm
              clear hpe k1 k2
              go_wp2_with (fail)
              go_at_call 36
              refine (c_isUpTo _ _ _ K1.out _).mono ?_
              rintro e w1 ⟨rfl, rfl⟩
              go_wp2_with (fail)
              go_at_call 36
              refine (c_isUpTo _ _ _ K2.out _).mono ?_
              rintro e w1 ⟨rfl, rfl⟩
              go_wp2_with (fail)
              go_ret
              exact ⟨rfl, below_join HB.out HX.out HB.out.size⟩
            · have K2 := upTo k2
              rcases k3 : (decide (0 ≤ d) && decide (d ≤ 1000)) with _ | _
              · have K3 := upTo k3
                obtain rfl : false = r := by rw [← HR2.out]; exact (List.all_eq_false.2 ⟨_, List.mem_of_getElem? HIX.out, by rw [hpe, k1, k2, k3]; simp⟩).symm
                clear hpe k1 k2 k3
                go_wp2_with (fail)
                go_at_call 36
                refine (c_isUpTo _ _ _ K1.out _).mono ?_
                rintro e w1 ⟨rfl, rfl⟩
                go_wp2_with (fail)
                go_at_call 36
                refine (c_isUpTo _ _ _ K2.out _).mono ?_
                rintro e w1 ⟨rfl, rfl⟩
                go_wp2_with (fail)
                go_at_call 36
                refine (c_isUpTo _ _ _ K3.out _).mono ?_
                rintro e w1 ⟨rfl, rfl⟩
                go_wp2_with (fail)
                go_ret
                exact ⟨rfl, below_join HB.out HX.out HB.out.size⟩
              · have K3 := upTo k3
                have HN := Lib.hid (all_take_succ hA.out HIX.out (by rw [hpe, k1, k2, k3]; rfl))
                clear hpe k1 k2 k3
                go_wp2_with (fail)
                go_at_call 36
                refine (c_isUpTo _ _ _ K1.out _).mono ?_
                rintro e w1 ⟨rfl, rfl⟩
                go_wp2_with (fail)
                go_at_call 36
                refine (c_isUpTo _ _ _ K2.out _).mono ?_
                rintro e w1 ⟨rfl, rfl⟩
                go_wp2_with (fail)
                go_at_call 36
                refine (c_isUpTo _ _ _ K3.out _).mono ?_
                rintro e w1 ⟨rfl, rfl⟩
                go_wp2_with (fail)
                go_roundw
                case rel => exact ⟨k + 1, by omega, by go_num, HN, HX⟩
                case measure => simp only [intOf]; omega
        · obtain rfl : k = ps.length := by omega
          have hrr : r = true := by
            rw [← HR2.out]
            have := hA.out
            rw [List.take_length] at this
            exact this
          subst hrr
          go_wp2_with (fail)
          go_ret
          exact ⟨rfl, below_join HB.out hB.out HB.out.size⟩
    · obtain rfl : false = r := by rw [← HR.out, h1, decide_eq_false g]; rfl
      clear h1
      obtain ⟨x0, x1⟩ := HC.out
      go_enter Try.func16, Try.ntmps16
      go_wp2_with (fail)
      rw [← hW]
      clear hW
      go_at_call 36
      refine (c_isUpTo _ _ _ H1.out _).mono ?_
      rintro e w1 ⟨rfl, rfl⟩
      go_wp2_with (fail)
      go_ret
      exact ⟨rfl, HB.out⟩
end Go.Proofs.Ythghinkicaafmaa
