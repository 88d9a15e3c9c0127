/-
  DERIVED. slices.Equal of host states and of replicas, Same; slices.Contains, Has (written by gen/world_EI.py).
-/
import Derived.Test.YtplncglgolhfaaaEH
namespace Go.Proofs.Ytplncglgolhfaaa
open Go.RowKit
set_option maxRecDepth 100000
set_option linter.unusedVariables false
set_option linter.unusedSimpArgs false

set_option maxHeartbeats 4000000 in
theorem c_eqHosts (A B : Option Addr) (c d : Nat) (l m : List Hst) (r : Bool) (hr : decide (l = m) = r) (w : World) (hv : Rv 2 hstV w A c l) (hu : Rv 2 hstV w B d m) :
    Calls Try.prog 56 #[.slice A l.length c, .slice B m.length d] w fun e w' => e = .returned (.bool r) ∧ Below w.heap.size w w' := by
  have HV := Lib.hid hv
  have HU := Lib.hid hu
  have HR := Lib.hid hr
  have hc1 := hv.1; have hc2 := hv.2.1; have hd1 := hu.1; have hd2 := hu.2.1
  unfold maxLen at hc2 hd2
  clear hv hu hr
  by_cases hl : l.length = m.length
  · have hne : (((l.length : Nat) : Int) != ((m.length : Nat) : Int)) = false := by rw [bne_eq_false_iff_eq]; omega
    have HL := Lib.hid hl
    clear hl
    go_enter Try.func56, Try.ntmps56
    go_wp2_with (fail)
    go_loopw [13] (fun i wr => ∃ k : Nat, k ≤ l.length ∧ i = .int .i64 (k : Int) ∧ Hid (l.take k = m.take k) ∧ Hid (Below w.heap.size w wr)) (fun i wr => l.length - (intOf i).toNat)
    case atStart => exact ⟨0, Nat.zero_le _, rfl, Lib.hid rfl, Lib.hid (Below.refl _ _)⟩
    case round =>
      obtain ⟨k, hk, rfl, htk, hB⟩ := hrel
      by_cases hlt : k < l.length
      · obtain ⟨x, hx⟩ : ∃ x, l[k]? = some x := ⟨_, List.getElem?_eq_getElem hlt⟩
        obtain ⟨y, hy⟩ : ∃ y, m[k]? = some y := ⟨_, List.getElem?_eq_getElem (by have := HL.out; omega)⟩
        have HVK := HV.out.on hB.out (Nat.le_refl _)
        have HUK := HU.out.on hB.out (Nat.le_refl _)
        obtain ⟨b1, o1, rfl, -, -⟩ := HVK.at_ hx
        obtain ⟨b2, o2, rfl, -, -⟩ := HUK.at_ hy
        obtain ⟨p1, p2⟩ := hst_at HVK hx
        obtain ⟨q1, q2⟩ := hst_at HUK hy
        have HX := Lib.hid hx
        have HY := Lib.hid hy
        have hk1 : (k : Int) < ((l.length : Nat) : Int) := by omega
        have hk2 : (k : Int) < ((m.length : Nat) : Int) := by have := HL.out; omega
        have hki : ((k : Nat) : Int).toNat = k := by omega
        clear hx hy HVK HUK
        have g1 := guardHo
        have g2 := neqHo
        rcases hxy : (((x.phase : Int) == (y.phase : Int)) && (x.fw == y.fw)) with _ | _
        · have hrr : r = false := by
            rw [← HR.out]
            refine decide_eq_false fun h => ?_
            have h1 := HX.out
            have h2 := HY.out
            rw [h, h2] at h1
            injection h1 with h1
            subst h1
            rw [hst_beq] at hxy
            simp at hxy
          subst hrr
          go_wp2_with (fail)
          go_quiet (fail)
          go_wp2_with (fail)
          go_ret
          exact ⟨rfl, below_drewN hB.out⟩
        · have HXY := Lib.hid (show x = y by rw [hst_beq] at hxy; exact of_decide_eq_true hxy)
          go_wp2_with (fail)
          go_quiet (fail)
          go_wp2_with (fail)
          go_roundw
          case rel => exact ⟨k + 1, by omega, by go_num, Lib.hid (take_snoc htk.out HX.out (by rw [HY.out, HXY.out])), Lib.hid (below_drewN hB.out)⟩
          case measure => simp only [intOf]; omega
      · obtain rfl : k = l.length := by omega
        have hrr : r = true := by
          rw [← HR.out, decide_eq_true]
          have := htk.out
          rw [List.take_of_length_le (Nat.le_refl _), HL.out, List.take_of_length_le (Nat.le_refl _)] at this
          exact this
        subst hrr
        go_wp2_with (fail)
        go_ret
        exact ⟨rfl, hB.out⟩
  · have hne : (((l.length : Nat) : Int) != ((m.length : Nat) : Int)) = true := by rw [bne_iff_ne]; omega
    have hrr : r = false := by rw [← HR.out]; exact decide_eq_false (fun h => hl (by rw [h]))
    subst hrr
    clear hl
    go_enter Try.func56, Try.ntmps56
    go_wp2_with (fail)
    go_ret
    exact ⟨rfl, Below.refl _ _⟩
set_option maxHeartbeats 4000000 in
theorem c_eqReps (A B : Option Addr) (c d : Nat) (l m : List Rep) (r : Bool) (hr : decide (l = m) = r) (w : World) (hv : Rv 2 repV w A c l) (hu : Rv 2 repV w B d m) :
    Calls Try.prog 57 #[.slice A l.length c, .slice B m.length d] w fun e w' => e = .returned (.bool r) ∧ Below w.heap.size w w' := by
  have HV := Lib.hid hv
  have HU := Lib.hid hu
  have HR := Lib.hid hr
  have hc1 := hv.1; have hc2 := hv.2.1; have hd1 := hu.1; have hd2 := hu.2.1
  unfold maxLen at hc2 hd2
  clear hv hu hr
  by_cases hl : l.length = m.length
  · have hne : (((l.length : Nat) : Int) != ((m.length : Nat) : Int)) = false := by rw [bne_eq_false_iff_eq]; omega
    have HL := Lib.hid hl
    clear hl
    go_enter Try.func57, Try.ntmps57
    go_wp2_with (fail)
    go_loopw [13] (fun i wr => ∃ k : Nat, k ≤ l.length ∧ i = .int .i64 (k : Int) ∧ Hid (l.take k = m.take k) ∧ Hid (Below w.heap.size w wr)) (fun i wr => l.length - (intOf i).toNat)
    case atStart => exact ⟨0, Nat.zero_le _, rfl, Lib.hid rfl, Lib.hid (Below.refl _ _)⟩
    case round =>
      obtain ⟨k, hk, rfl, htk, hB⟩ := hrel
      by_cases hlt : k < l.length
      · obtain ⟨x, hx⟩ : ∃ x, l[k]? = some x := ⟨_, List.getElem?_eq_getElem hlt⟩
        obtain ⟨y, hy⟩ : ∃ y, m[k]? = some y := ⟨_, List.getElem?_eq_getElem (by have := HL.out; omega)⟩
        have HVK := HV.out.on hB.out (Nat.le_refl _)
        have HUK := HU.out.on hB.out (Nat.le_refl _)
        obtain ⟨b1, o1, rfl, -, -⟩ := HVK.at_ hx
        obtain ⟨b2, o2, rfl, -, -⟩ := HUK.at_ hy
        obtain ⟨p1, p2⟩ := rep_at HVK hx
        obtain ⟨q1, q2⟩ := rep_at HUK hy
        have HX := Lib.hid hx
        have HY := Lib.hid hy
        have hk1 : (k : Int) < ((l.length : Nat) : Int) := by omega
        have hk2 : (k : Int) < ((m.length : Nat) : Int) := by have := HL.out; omega
        have hki : ((k : Nat) : Int).toNat = k := by omega
        clear hx hy HVK HUK
        have g1 := guardRp
        have g2 := neqRp
        rcases hxy : ((x.svc == y.svc) && (x.host == y.host)) with _ | _
        · have hrr : r = false := by
            rw [← HR.out]
            refine decide_eq_false fun h => ?_
            have h1 := HX.out
            have h2 := HY.out
            rw [h, h2] at h1
            injection h1 with h1
            subst h1
            rw [rep_beq] at hxy
            simp at hxy
          subst hrr
          go_wp2_with (fail)
          go_quiet (fail)
          go_wp2_with (fail)
          go_ret
          exact ⟨rfl, below_drewN hB.out⟩
        · have HXY := Lib.hid (show x = y by rw [rep_beq] at hxy; exact of_decide_eq_true hxy)
          go_wp2_with (fail)
          go_quiet (fail)
          go_wp2_with (fail)
          go_roundw
          case rel => exact ⟨k + 1, by omega, by go_num, Lib.hid (take_snoc htk.out HX.out (by rw [HY.out, HXY.out])), Lib.hid (below_drewN hB.out)⟩
          case measure => simp only [intOf]; omega
      · obtain rfl : k = l.length := by omega
        have hrr : r = true := by
          rw [← HR.out, decide_eq_true]
          have := htk.out
          rw [List.take_of_length_le (Nat.le_refl _), HL.out, List.take_of_length_le (Nat.le_refl _)] at this
          exact this
        subst hrr
        go_wp2_with (fail)
        go_ret
        exact ⟨rfl, hB.out⟩
  · have hne : (((l.length : Nat) : Int) != ((m.length : Nat) : Int)) = true := by rw [bne_iff_ne]; omega
    have hrr : r = false := by rw [← HR.out]; exact decide_eq_false (fun h => hl (by rw [h]))
    subst hrr
    clear hl
    go_enter Try.func57, Try.ntmps57
    go_wp2_with (fail)
    go_ret
    exact ⟨rfl, Below.refl _ _⟩
/-- Two worlds are the same. -/
def sameB (d e : WorldD) : Bool := decide (d.hosts = e.hosts) && decide (d.reps = e.reps)
theorem sameB_iff {d e : WorldD} : sameB d e = true ↔ d = e := by
  cases d; cases e
  simp [sameB]
theorem two_boxes {w : World} {c1 c2 : Array Value} {T1 T2 : TypeId} {W1 W : World} (h1 : W1 = w.alloc (.cells c1 T1)) (h2 : W = W1.alloc (.cells c2 T2)) :
    Below w.heap.size w W ∧ W.heap[w.heap.size]? = some (.cells c1 T1 (0, 0)) ∧ W.heap[w.heap.size + 1]? = some (.cells c2 T2 (0, 0)) ∧ W.heap.size = w.heap.size + 1 + 1 := by
  have s1 : W1.heap.size = w.heap.size + 1 := by rw [h1, World.size_alloc]
  have e1 : Below w.heap.size w W1 := by rw [h1]; exact (Below.refl _ _).alloc (Nat.le_refl _) _
  have b1 : W1.heap[w.heap.size]? = some (.cells c1 T1 (0, 0)) := by rw [h1]; exact box_new _ _ _
  refine ⟨by rw [h2]; exact e1.alloc (by omega) _, by rw [h2]; exact old_heap _ b1, by rw [h2, ← s1]; exact box_new _ _ _, by rw [h2, World.size_alloc, s1]⟩
set_option maxHeartbeats 8000000 in
theorem c_woSame (p q : WP) (d e : WorldD) (r : Bool) (hr : sameB d e = r) (w : World) (hd : WoAt w p d) (he : WoAt w q e) :
    Calls Try.prog 31 #[.agg (woA p d), .agg (woA q e)] w fun e w' => e = .returned (.bool r) ∧ Below w.heap.size w w' := by
  unfold woA
  obtain ⟨W1, h1⟩ : ∃ W, W = w.alloc (.cells (woA p d) 36) := ⟨_, rfl⟩
  obtain ⟨W, h2⟩ : ∃ W, W = W1.alloc (.cells (woA q e) 36) := ⟨_, rfl⟩
  obtain ⟨B0, b1, b2, -⟩ := two_boxes h1 h2
  have HB := Lib.hid B0
  have HF := Lib.hid (fun (X : World) (hX : Below W.heap.size W X) => (⟨cell_of (box_on b1 hX (Nat.le_refl _)) rfl, cell_of (box_on b1 hX (Nat.le_refl _)) rfl, cell_of (box_on b2 hX (Nat.le_refl _)) rfl, cell_of (box_on b2 hX (Nat.le_refl _)) rfl⟩ : X.cell? ⟨w.heap.size, 0, none⟩ = some (.slice p.a1 d.hosts.length p.c1) ∧ X.cell? ⟨w.heap.size, 1, none⟩ = some (.slice p.a2 d.reps.length p.c2) ∧ X.cell? ⟨w.heap.size + 1, 0, none⟩ = some (.slice q.a1 e.hosts.length q.c1) ∧ X.cell? ⟨w.heap.size + 1, 1, none⟩ = some (.slice q.a2 e.reps.length q.c2)))
  have HD := Lib.hid (hd.on B0 (Nat.le_refl _))
  have HE := Lib.hid (he.on B0 (Nat.le_refl _))
  have HR := Lib.hid (show (decide (d.hosts = e.hosts) && decide (d.reps = e.reps)) = r from hr)
  have hle := B0.size
  obtain ⟨x0, x1, x2, x3⟩ := HF.out W (Below.refl _ _)
  clear hr hd he B0 b1 b2
  unfold woA at h1 h2
  rw [h2, h1] at x0 x1 x2 x3
  generalize hA : w.heap.size = A at *
  obtain ⟨r1, hr1⟩ : ∃ b, decide (d.hosts = e.hosts) = b := ⟨_, rfl⟩
  have Q1 := Lib.hid hr1
  clear hr1
  go_enter Try.func31, Try.ntmps31
  go_wp2_with (fail)
  rw [← h1, ← h2] at x0 x1 x2 x3 ⊢
  clear h1 h2
  go_at_call 56
  refine (c_eqHosts p.a1 q.a1 p.c1 q.c1 d.hosts e.hosts r1 Q1.out W HD.out.hosts HE.out.hosts).mono ?_
  rintro e1 w1 ⟨rfl, b1⟩
  have K1 := Lib.hid b1
  clear b1 x0 x1 x2 x3
  obtain ⟨x0, x1, x2, x3⟩ := HF.out w1 K1.out
  cases r1
  · obtain rfl : false = r := by have h := HR.out; rw [Q1.out] at h; exact h
    go_wp2_with (fail)
    go_ret
    exact ⟨rfl, below_join HB.out K1.out hle⟩
  · obtain ⟨r2, hr2⟩ : ∃ b, decide (d.reps = e.reps) = b := ⟨_, rfl⟩
    have Q2 := Lib.hid hr2
    clear hr2
    have HE2 := Lib.hid (show r2 = r by have h := HR.out; rw [Q1.out, Q2.out] at h; exact h)
    go_wp2_with (fail)
    go_at_call 57
    refine (c_eqReps p.a2 q.a2 p.c2 q.c2 d.reps e.reps r2 Q2.out w1 (HD.out.on K1.out (Nat.le_refl _)).reps (HE.out.on K1.out (Nat.le_refl _)).reps).mono ?_
    rintro e2 w2 ⟨rfl, b2⟩
    have K2 := Lib.hid (below_join K1.out b2 K1.out.size)
    clear b2
    go_wp2_with (fail)
    go_ret
    exact ⟨(show Ending.returned (.bool r2) = .returned (.bool r) by rw [HE2.out]), below_join HB.out K2.out hle⟩
set_option maxHeartbeats 4000000 in
theorem c_IndexR (A : Option Addr) (c : Nat) (l : List Rep) (x : Rep) (w : World) (h : Rv 2 repV w A c l) :
    Calls Try.prog 85 #[.slice A l.length c, .agg #[.int .i64 x.svc, .int .i64 x.host]] w fun e w' => ∃ i : Int, e = .returned (.int .i64 i) ∧ decide (0 ≤ i) = hasB l x ∧ Below w.heap.size w w' := by
  obtain ⟨W, hW⟩ : ∃ W, W = w.alloc (.cells #[.int .i64 x.svc, .int .i64 x.host] 41) := ⟨_, rfl⟩
  have B0 : Below w.heap.size w W := by subst hW; exact (Below.refl _ _).alloc (Nat.le_refl _) _
  have HB := Lib.hid B0
  have HX := Lib.hid (show W.heap[w.heap.size]? = some (.cells #[.int .i64 x.svc, .int .i64 x.host] 41 (0, 0)) by subst hW; exact box_new _ _ _)
  have H := Lib.hid (h.on B0 (Nat.le_refl _))
  have hc1 := h.1; have hc2 := h.2.1
  unfold maxLen at hc2
  have hle := B0.size
  clear h B0
  generalize hA : w.heap.size = B at *
  go_enter Try.func85, Try.ntmps85
  go_wp2_with (fail)
  rw [← hW]
  clear hW
  go_loopw [8] (fun i wr => ∃ k : Nat, k ≤ l.length ∧ i = .int .i64 (k : Int) ∧ Hid (x ∉ l.take k) ∧ Hid (Below W.heap.size W wr)) (fun i _ => l.length - (intOf i).toNat)
  case atStart => exact ⟨0, Nat.zero_le _, rfl, Lib.hid (by simp), Lib.hid (Below.refl _ _)⟩
  case round =>
    obtain ⟨k, hk, rfl, hno, hK⟩ := hrel
    have hki : ((k : Nat) : Int).toNat = k := by omega
    by_cases hlt : k < l.length
    · obtain ⟨z, hz⟩ : ∃ z, l[k]? = some z := ⟨_, List.getElem?_eq_getElem hlt⟩
      have HK := H.out.on hK.out (Nat.le_refl _)
      obtain ⟨b, o, rfl, -, -⟩ := HK.at_ hz
      obtain ⟨y0, y1⟩ := rep_at HK hz
      have x0 : wr.cell? ⟨B, 0, none⟩ = some (.int .i64 x.svc) := cell_of (box_on HX.out hK.out (Nat.le_refl _)) rfl
      have x1 : wr.cell? ⟨B, 1, none⟩ = some (.int .i64 x.host) := cell_of (box_on HX.out hK.out (Nat.le_refl _)) rfl
      have HZ := Lib.hid hz
      have hk1 : (k : Int) < ((l.length : Nat) : Int) := by omega
      clear hz HK
      have g1 := guardRp
      have g2 := eqlRp
      rcases hxz : ((x.svc == z.svc) && (x.host == z.host)) with _ | _
      · have hno2 := Lib.hid (show x ∉ l.take (k + 1) by
          rw [List.take_add_one, HZ.out, List.mem_append]
          rintro (h | h)
          · exact hno.out h
          · simp at h; rw [h] at hxz; simp at hxz)
        go_wp2_with (fail)
        go_quiet (fail)
        go_wp2_with (fail)
        go_roundw
        case rel => exact ⟨k + 1, by omega, by go_num, hno2, Lib.hid (below_drewN hK.out)⟩
        case measure => simp only [intOf]; omega
      · have HM := Lib.hid (show hasB l x = true by unfold hasB; rw [decide_eq_true_eq, show x = z by rw [rep_beq] at hxz; exact of_decide_eq_true hxz]; exact List.mem_of_getElem? HZ.out)
        go_wp2_with (fail)
        go_quiet (fail)
        go_wp2_with (fail)
        go_ret
        exact ⟨_, rfl, by rw [HM.out]; exact decide_eq_true (by omega), below_drewN (below_join HB.out hK.out hle)⟩
    · obtain rfl : k = l.length := by omega
      have HM := Lib.hid (show hasB l x = false by
        have h := hno.out
        rw [List.take_length] at h
        unfold hasB; exact decide_eq_false h)
      go_wp2_with (fail)
      go_ret
      exact ⟨_, rfl, by rw [HM.out]; decide, below_join HB.out hK.out hle⟩
set_option maxHeartbeats 4000000 in
theorem c_ContainsR (A : Option Addr) (c : Nat) (l : List Rep) (x : Rep) (r : Bool) (hr : hasB l x = r) (w : World) (h : Rv 2 repV w A c l) :
    Calls Try.prog 51 #[.slice A l.length c, .agg #[.int .i64 x.svc, .int .i64 x.host]] w fun e w' => e = .returned (.bool r) ∧ Below w.heap.size w w' := by
  obtain ⟨W, hW⟩ : ∃ W, W = w.alloc (.cells #[.int .i64 x.svc, .int .i64 x.host] 41) := ⟨_, rfl⟩
  have B0 : Below w.heap.size w W := by subst hW; exact (Below.refl _ _).alloc (Nat.le_refl _) _
  have HB := Lib.hid B0
  have hle := B0.size
  have x0 : W.cell? ⟨w.heap.size, 0, none⟩ = some (.int .i64 x.svc) := by subst hW; exact cell_of (box_new _ _ _) rfl
  have x1 : W.cell? ⟨w.heap.size, 1, none⟩ = some (.int .i64 x.host) := by subst hW; exact cell_of (box_new _ _ _) rfl
  have HC := Lib.hid (c_IndexR A c l x W (h.on B0 (Nat.le_refl _)))
  have HR := Lib.hid hr
  clear hr h B0
  rw [hW] at x0 x1
  generalize hA : w.heap.size = B at *
  go_enter Try.func51, Try.ntmps51
  go_wp2_with (fail)
  rw [← hW]
  clear hW
  go_at_call 85
  refine HC.out.mono ?_
  rintro e w1 ⟨i, rfl, hi, b1⟩
  have K1 := Lib.hid b1
  have HI := Lib.hid (show decide (0 ≤ i) = r by rw [hi, HR.out])
  clear b1 hi
  go_wp2_with (fail)
  go_ret
  exact ⟨(show Ending.returned (.bool (decide (0 ≤ i))) = .returned (.bool r) by rw [HI.out]), below_join HB.out K1.out hle⟩
set_option maxHeartbeats 4000000 in
theorem c_woHas (p : WP) (d : WorldD) (x : Rep) (r : Bool) (hr : hasB d.reps x = r) (w : World) (hd : WoAt w p d) :
    Calls Try.prog 21 #[.agg (woA p d), .agg #[.int .i64 x.svc, .int .i64 x.host]] w fun e w' => e = .returned (.bool r) ∧ Below w.heap.size w w' := by
  unfold woA
  obtain ⟨W1, h1⟩ : ∃ W, W = w.alloc (.cells (woA p d) 36) := ⟨_, rfl⟩
  obtain ⟨W, h2⟩ : ∃ W, W = W1.alloc (.cells #[.int .i64 x.svc, .int .i64 x.host] 41) := ⟨_, rfl⟩
  obtain ⟨B0, b1, b2, -⟩ := two_boxes h1 h2
  have HB := Lib.hid B0
  have hle := B0.size
  have x1 : W.cell? ⟨w.heap.size, 1, none⟩ = some (.slice p.a2 d.reps.length p.c2) := cell_of b1 rfl
  have y0 : W.cell? ⟨w.heap.size + 1, 0, none⟩ = some (.int .i64 x.svc) := cell_of b2 rfl
  have y1 : W.cell? ⟨w.heap.size + 1, 1, none⟩ = some (.int .i64 x.host) := cell_of b2 rfl
  have HC := Lib.hid (c_ContainsR p.a2 p.c2 d.reps x r hr W (hd.on B0 (Nat.le_refl _)).reps)
  clear hr hd B0 b1 b2
  unfold woA at h1
  rw [h2, h1] at x1 y0 y1
  generalize hA : w.heap.size = B at *
  go_enter Try.func21, Try.ntmps21
  go_wp2_with (fail)
  rw [← h1, ← h2]
  clear h1 h2
  go_at_call 51
  refine HC.out.mono ?_
  rintro e w1 ⟨rfl, b1⟩
  have K1 := Lib.hid b1
  clear b1 x1 y0 y1
  go_wp2_with (fail)
  go_ret
  exact ⟨rfl, below_join HB.out K1.out hle⟩
end Go.Proofs.Ytplncglgolhfaaa
