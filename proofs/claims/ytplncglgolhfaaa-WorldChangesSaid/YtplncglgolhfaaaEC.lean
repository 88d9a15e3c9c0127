/-
  DERIVED. Bad nears, host states and replicas: the closures and the library's searches (written by gen/world_EC.py).
-/
import Derived.Test.YtplncglgolhfaaaEB
namespace Go.Proofs.Ytplncglgolhfaaa
open Go.RowKit
set_option maxRecDepth 100000
set_option linter.unusedVariables false
set_option linter.unusedSimpArgs false

set_option maxHeartbeats 4000000 in
theorem c_badNear (x : Nr) (r : Bool) (hr : nearBad x = r) (w : World) : Calls Try.prog 59 #[.agg #[.int .i64 x.svc, .int .i64 x.lat]] w fun e w' => e = .returned (.bool r) ∧ Below w.heap.size w w' := by
  obtain ⟨W, hW⟩ : ∃ W, W = w.alloc (.cells #[.int .i64 x.svc, .int .i64 x.lat] 100) := ⟨_, rfl⟩
  have HB := Lib.hid (show Below w.heap.size w W by subst hW; exact (Below.refl _ _).alloc (Nat.le_refl _) _)
  have x1 : W.cell? ⟨w.heap.size, 1, none⟩ = some (.int .i64 x.lat) := by subst hW; exact cell_of (box_new _ _ _) rfl
  obtain ⟨q, hq⟩ : ∃ q, inB x.lat 0 1000000 = q := ⟨_, rfl⟩
  have HQ := Lib.hid hq
  have HR := Lib.hid (show (!q) = r by rw [← hq]; exact hr)
  clear hr hq
  generalize hA : w.heap.size = A at *
  go_enter Try.func59, Try.ntmps59
  go_wp2_with (fail)
  rw [← hW]
  clear hW
  go_wp2_with (go_at_call 42; refine (c_woIsFrom _ _ _ q HQ.out _).mono ?_; rintro e w1 ⟨rfl, rfl⟩)
  go_ret
  exact ⟨(show Ending.returned (.bool (!q)) = .returned (.bool r) by rw [HR.out]), HB.out⟩
set_option maxHeartbeats 4000000 in
theorem c_badHst (x : Hst) (r : Bool) (hr : (!hstOk x) = r) (w : World) : Calls Try.prog 41 #[.agg #[.int .u8 (x.phase : Int), .int .i64 x.fw]] w fun e w' => e = .returned (.bool r) ∧ Below w.heap.size w w' := by
  obtain ⟨W, hW⟩ : ∃ W, W = w.alloc (.cells #[.int .u8 (x.phase : Int), .int .i64 x.fw] 51) := ⟨_, rfl⟩
  have HB := Lib.hid (show Below w.heap.size w W by subst hW; exact (Below.refl _ _).alloc (Nat.le_refl _) _)
  have x0 : W.cell? ⟨w.heap.size, 0, none⟩ = some (.int .u8 (x.phase : Int)) := by subst hW; exact cell_of (box_new _ _ _) rfl
  have x1 : W.cell? ⟨w.heap.size, 1, none⟩ = some (.int .i64 x.fw) := by subst hW; exact cell_of (box_new _ _ _) rfl
  obtain ⟨q, hq⟩ : ∃ q, inB x.fw 0 1000000 = q := ⟨_, rfl⟩
  have HQ := Lib.hid hq
  have HR := Lib.hid (show (!(decide (x.phase ≤ 4) && q)) = r by rw [← hq]; exact hr)
  clear hr hq
  generalize hA : w.heap.size = A at *
  by_cases hp : x.phase ≤ 4
  · have hd : decide ((4 : Int) < (x.phase : Int)) = false := decide_eq_false (by omega)
    have HE := Lib.hid (show (!q) = r by have h := HR.out; rw [decide_eq_true hp] at h; exact h)
    clear hp
    go_enter Try.func41, Try.ntmps41
    go_wp2_with (fail)
    rw [← hW]
    clear hW
    go_wp2_with (go_at_call 42; refine (c_woIsFrom _ _ _ q HQ.out _).mono ?_; rintro e w1 ⟨rfl, rfl⟩)
    go_ret
    exact ⟨(show Ending.returned (.bool (!q)) = .returned (.bool r) by rw [HE.out]), HB.out⟩
  · have hd : decide ((4 : Int) < (x.phase : Int)) = true := decide_eq_true (by omega)
    obtain rfl : true = r := by have h := HR.out; rw [decide_eq_false hp] at h; exact h
    clear hp
    go_enter Try.func41, Try.ntmps41
    go_wp2_with (fail)
    rw [← hW]
    clear hW
    go_wp2_with (fail)
    go_ret
    exact ⟨rfl, HB.out⟩
set_option maxHeartbeats 4000000 in
theorem c_badRep (wb sb : Nat) (p : SP) (s : SiteD) (WA : Option Addr) (n wc : Nat) (x : Rep) (r : Bool) (hr : (!repOk n s.hosts.length x) = r) (w : World) (hw : WiBox w wb WA n wc) (hs : SiBox w sb p s) :
    Calls Try.prog 43 #[.agg #[.int .i64 x.svc, .int .i64 x.host], .pointer (some ⟨wb, 0, none⟩), .pointer (some ⟨sb, 0, none⟩)] w fun e w' => e = .returned (.bool r) ∧ Below w.heap.size w w' := by
  obtain ⟨W, hW⟩ : ∃ W, W = w.alloc (.cells #[.int .i64 x.svc, .int .i64 x.host] 41) := ⟨_, rfl⟩
  have B0 : Below w.heap.size w W := by subst hW; exact (Below.refl _ _).alloc (Nat.le_refl _) _
  have HB := Lib.hid B0
  have x0 : W.cell? ⟨w.heap.size, 0, none⟩ = some (.int .i64 x.svc) := by subst hW; exact cell_of (box_new _ _ _) rfl
  have x1 : W.cell? ⟨w.heap.size, 1, none⟩ = some (.int .i64 x.host) := by subst hW; exact cell_of (box_new _ _ _) rfl
  have y0 := (hw.on B0 (Nat.le_refl _)).c0
  have y1 := (hs.on B0 (Nat.le_refl _)).c6
  obtain ⟨q1, hq1⟩ : ∃ q, ixB x.svc (n : Int) = q := ⟨_, rfl⟩
  obtain ⟨q2, hq2⟩ : ∃ q, ixB x.host (s.hosts.length : Int) = q := ⟨_, rfl⟩
  have HQ1 := Lib.hid hq1
  have HQ2 := Lib.hid hq2
  have HR := Lib.hid (show (!(q1 && q2)) = r by rw [← hq1, ← hq2]; exact hr)
  clear hr hq1 hq2 hw hs B0
  generalize hA : w.heap.size = A at *
  cases q1
  · obtain rfl : true = r := by have h := HR.out; exact h
    rw [hW] at x0 x1 y0 y1
    go_enter Try.func43, Try.ntmps43
    go_wp2_with (fail)
    rw [← hW] at x0 x1 y0 y1 ⊢
    clear hW
    go_at_call 44
    refine (c_woIsIndex _ _ false HQ1.out _).mono ?_
    rintro e w1 ⟨rfl, rfl⟩
    go_wp2_with (fail)
    go_ret
    exact ⟨rfl, HB.out⟩
  · have HE := Lib.hid (show (!q2) = r by have h := HR.out; exact h)
    rw [hW] at x0 x1 y0 y1
    go_enter Try.func43, Try.ntmps43
    go_wp2_with (fail)
    rw [← hW] at x0 x1 y0 y1 ⊢
    clear hW
    go_at_call 44
    refine (c_woIsIndex _ _ true HQ1.out _).mono ?_
    rintro e w1 ⟨rfl, rfl⟩
    go_wp2_with (fail)
    go_at_call 44
    refine (c_woIsIndex _ _ q2 HQ2.out _).mono ?_
    rintro e w1 ⟨rfl, rfl⟩
    go_wp2_with (fail)
    go_ret
    exact ⟨(show Ending.returned (.bool (!q2)) = .returned (.bool r) by rw [HE.out]), HB.out⟩
set_option maxHeartbeats 4000000 in
theorem c_IF_Near (A : Option Addr) (c : Nat) (l : List Nr) (w : World) (h : Rv 2 nrV w A c l) (y : Int) (hy : fidx nearBad l = y) :
    Calls Try.prog 89 #[.slice A l.length c, .func (.func 59) #[] #[]] w fun e w' => e = .returned (.int .i64 y) ∧ Below w.heap.size w w' := by
  have H := Lib.hid h
  have HY := Lib.hid hy
  have hc1 := h.1
  have hc2 := h.2.1
  unfold maxLen at hc2
  clear h hy
  go_enter Try.func89, Try.ntmps89
  go_wp2_with (fail)
  go_loopw [8] (fun i wr => ∃ k : Nat, k ≤ l.length ∧ i = .int .i64 (k : Int) ∧ Hid (∀ i y, i < k → l[i]? = some y → nearBad y = false) ∧ Hid (Below w.heap.size w wr)) (fun i _ => l.length - (intOf i).toNat)
  case atStart => exact ⟨0, Nat.zero_le _, rfl, Lib.hid (fun i y hi => absurd hi (by omega)), Lib.hid (Below.refl _ _)⟩
  case round =>
    obtain ⟨k, hk, rfl, hun, hB⟩ := hrel
    by_cases hlt : k < l.length
    · obtain ⟨⟨z0, z1⟩, hx⟩ : ∃ x, l[k]? = some x := ⟨_, List.getElem?_eq_getElem hlt⟩
      have HK := H.out
      obtain ⟨pb, o, rfl, -, -⟩ := HK.at_ hx
      obtain ⟨y0, y1⟩ := near_at (HK.on hB.out (Nat.le_refl _)) hx
      have HXX := Lib.hid hx
      have hki : ((k : Nat) : Int).toNat = k := by omega
      have hlt' : (k : Int) < ((l.length : Nat) : Int) := by omega
      have HC := Lib.hid (fun (r : Bool) (hr : nearBad ⟨z0, z1⟩ = r) => c_badNear ⟨z0, z1⟩ r hr wr)
      clear hx HK
      rcases hp : nearBad ⟨z0, z1⟩ with _ | _
      · have HP := Lib.hid hp
        clear hp
        go_wp2_with (go_at_call 59; refine (HC.out _ HP.out).mono ?_; rintro e w1 ⟨rfl, b1⟩; have HB1 := Lib.hid (below_join hB.out b1 hB.out.size); clear b1 y0 y1)
        go_roundw
        case rel => exact ⟨k + 1, by omega, by go_num, Lib.hid (fun i y hi hy => by
          rcases Nat.lt_or_ge i k with h | h
          · exact hun.out i y h hy
          · obtain rfl : i = k := by omega
            have := HXX.out
            rw [hy] at this
            injection this with this
            subst this
            exact HP.out), HB1⟩
        case measure => simp only [intOf]; omega
      · have HKY := Lib.hid (show (k : Int) = y by rw [← HY.out]; exact (fidx_at _ l k _ hun.out HXX.out hp).symm)
        have HP := Lib.hid hp
        clear hp
        go_wp2_with (go_at_call 59; refine (HC.out _ HP.out).mono ?_; rintro e w1 ⟨rfl, b1⟩; have HB1 := Lib.hid (below_join hB.out b1 hB.out.size); clear b1 y0 y1)
        go_ret
        exact ⟨(show Ending.returned (.int .i64 (k : Int)) = .returned (.int .i64 y) by rw [HKY.out]), HB1.out⟩
    · obtain rfl : k = l.length := by omega
      have HKY := Lib.hid (show (-1 : Int) = y by rw [← HY.out, fidx_none _ l (fun i y hy => hun.out i y (List.getElem?_eq_some_iff.1 hy).1 hy)])
      go_wp2_with (fail)
      go_ret
      exact ⟨(show Ending.returned (.int .i64 (-1)) = .returned (.int .i64 y) by rw [HKY.out]), hB.out⟩
set_option maxHeartbeats 4000000 in
theorem c_CF_Near (A : Option Addr) (c : Nat) (l : List Nr) (w : World) (h : Rv 2 nrV w A c l) (r : Bool) (hr : l.any nearBad = r) :
    Calls Try.prog 60 #[.slice A l.length c, .func (.func 59) #[] #[]] w fun e w' => e = .returned (.bool r) ∧ Below w.heap.size w w' := by
  obtain ⟨y, hy⟩ : ∃ y, fidx nearBad l = y := ⟨_, rfl⟩
  have HC := Lib.hid (c_IF_Near A c l w h y hy)
  have HR := Lib.hid (show decide (0 ≤ y) = r by rw [← hy, fidx_any, hr])
  clear hy hr h
  go_enter Try.func60, Try.ntmps60
  go_wp2_with (go_at_call 89; refine HC.out.mono ?_; rintro e w1 ⟨rfl, b1⟩; have HB1 := Lib.hid b1; clear b1)
  go_ret
  exact ⟨(show Ending.returned (.bool (decide (0 ≤ y))) = .returned (.bool r) by rw [HR.out]), HB1.out⟩
set_option maxHeartbeats 4000000 in
theorem c_IF_HostState (A : Option Addr) (c : Nat) (l : List Hst) (w : World) (h : Rv 2 hstV w A c l) (y : Int) (hy : fidx (fun x => !hstOk x) l = y) :
    Calls Try.prog 79 #[.slice A l.length c, .func (.func 41) #[] #[]] w fun e w' => e = .returned (.int .i64 y) ∧ Below w.heap.size w w' := by
  have H := Lib.hid h
  have HY := Lib.hid hy
  have hc1 := h.1
  have hc2 := h.2.1
  unfold maxLen at hc2
  clear h hy
  go_enter Try.func79, Try.ntmps79
  go_wp2_with (fail)
  go_loopw [8] (fun i wr => ∃ k : Nat, k ≤ l.length ∧ i = .int .i64 (k : Int) ∧ Hid (∀ i y, i < k → l[i]? = some y → (fun x => !hstOk x) y = false) ∧ Hid (Below w.heap.size w wr)) (fun i _ => l.length - (intOf i).toNat)
  case atStart => exact ⟨0, Nat.zero_le _, rfl, Lib.hid (fun i y hi => absurd hi (by omega)), Lib.hid (Below.refl _ _)⟩
  case round =>
    obtain ⟨k, hk, rfl, hun, hB⟩ := hrel
    by_cases hlt : k < l.length
    · obtain ⟨⟨z0, z1⟩, hx⟩ : ∃ x, l[k]? = some x := ⟨_, List.getElem?_eq_getElem hlt⟩
      have HK := H.out
      obtain ⟨pb, o, rfl, -, -⟩ := HK.at_ hx
      obtain ⟨y0, y1⟩ := hst_at (HK.on hB.out (Nat.le_refl _)) hx
      have HXX := Lib.hid hx
      have hki : ((k : Nat) : Int).toNat = k := by omega
      have hlt' : (k : Int) < ((l.length : Nat) : Int) := by omega
      have HC := Lib.hid (fun (r : Bool) (hr : (fun x => !hstOk x) ⟨z0, z1⟩ = r) => c_badHst ⟨z0, z1⟩ r hr wr)
      clear hx HK
      rcases hp : (fun x => !hstOk x) ⟨z0, z1⟩ with _ | _
      · have HP := Lib.hid hp
        clear hp
        go_wp2_with (go_at_call 41; refine (HC.out _ HP.out).mono ?_; rintro e w1 ⟨rfl, b1⟩; have HB1 := Lib.hid (below_join hB.out b1 hB.out.size); clear b1 y0 y1)
        go_roundw
        case rel => exact ⟨k + 1, by omega, by go_num, Lib.hid (fun i y hi hy => by
          rcases Nat.lt_or_ge i k with h | h
          · exact hun.out i y h hy
          · obtain rfl : i = k := by omega
            have := HXX.out
            rw [hy] at this
            injection this with this
            subst this
            exact HP.out), HB1⟩
        case measure => simp only [intOf]; omega
      · have HKY := Lib.hid (show (k : Int) = y by rw [← HY.out]; exact (fidx_at _ l k _ hun.out HXX.out hp).symm)
        have HP := Lib.hid hp
        clear hp
        go_wp2_with (go_at_call 41; refine (HC.out _ HP.out).mono ?_; rintro e w1 ⟨rfl, b1⟩; have HB1 := Lib.hid (below_join hB.out b1 hB.out.size); clear b1 y0 y1)
        go_ret
        exact ⟨(show Ending.returned (.int .i64 (k : Int)) = .returned (.int .i64 y) by rw [HKY.out]), HB1.out⟩
    · obtain rfl : k = l.length := by omega
      have HKY := Lib.hid (show (-1 : Int) = y by rw [← HY.out, fidx_none _ l (fun i y hy => hun.out i y (List.getElem?_eq_some_iff.1 hy).1 hy)])
      go_wp2_with (fail)
      go_ret
      exact ⟨(show Ending.returned (.int .i64 (-1)) = .returned (.int .i64 y) by rw [HKY.out]), hB.out⟩
set_option maxHeartbeats 4000000 in
theorem c_CF_HostState (A : Option Addr) (c : Nat) (l : List Hst) (w : World) (h : Rv 2 hstV w A c l) (r : Bool) (hr : l.any (fun x => !hstOk x) = r) :
    Calls Try.prog 46 #[.slice A l.length c, .func (.func 41) #[] #[]] w fun e w' => e = .returned (.bool r) ∧ Below w.heap.size w w' := by
  obtain ⟨y, hy⟩ : ∃ y, fidx (fun x => !hstOk x) l = y := ⟨_, rfl⟩
  have HC := Lib.hid (c_IF_HostState A c l w h y hy)
  have HR := Lib.hid (show decide (0 ≤ y) = r by rw [← hy, fidx_any, hr])
  clear hy hr h
  go_enter Try.func46, Try.ntmps46
  go_wp2_with (go_at_call 79; refine HC.out.mono ?_; rintro e w1 ⟨rfl, b1⟩; have HB1 := Lib.hid b1; clear b1)
  go_ret
  exact ⟨(show Ending.returned (.bool (decide (0 ≤ y))) = .returned (.bool r) by rw [HR.out]), HB1.out⟩
set_option maxHeartbeats 4000000 in
theorem c_IF_Replica (wb sb : Nat) (p : SP) (s : SiteD) (WA : Option Addr) (n wc : Nat) (A : Option Addr) (c : Nat) (l : List Rep) (w : World) (hw : WiBox w wb WA n wc) (hs : SiBox w sb p s) (h : Rv 2 repV w A c l) (y : Int) (hy : fidx (fun x => !repOk n s.hosts.length x) l = y) :
    Calls Try.prog 80 #[.slice A l.length c, .func (.func 43) #[] #[.pointer (some ⟨wb, 0, none⟩), .pointer (some ⟨sb, 0, none⟩)]] w fun e w' => e = .returned (.int .i64 y) ∧ Below w.heap.size w w' := by
  have H := Lib.hid h
  have HY := Lib.hid hy
  have hc1 := h.1
  have hc2 := h.2.1
  unfold maxLen at hc2
  have HW := Lib.hid hw
  have HS := Lib.hid hs
  clear h hy hw hs
  go_enter Try.func80, Try.ntmps80
  go_wp2_with (fail)
  go_loopw [8] (fun i wr => ∃ k : Nat, k ≤ l.length ∧ i = .int .i64 (k : Int) ∧ Hid (∀ i y, i < k → l[i]? = some y → (fun x => !repOk n s.hosts.length x) y = false) ∧ Hid (Below w.heap.size w wr)) (fun i _ => l.length - (intOf i).toNat)
  case atStart => exact ⟨0, Nat.zero_le _, rfl, Lib.hid (fun i y hi => absurd hi (by omega)), Lib.hid (Below.refl _ _)⟩
  case round =>
    obtain ⟨k, hk, rfl, hun, hB⟩ := hrel
    by_cases hlt : k < l.length
    · obtain ⟨⟨z0, z1⟩, hx⟩ : ∃ x, l[k]? = some x := ⟨_, List.getElem?_eq_getElem hlt⟩
      have HK := H.out
      obtain ⟨pb, o, rfl, -, -⟩ := HK.at_ hx
      obtain ⟨y0, y1⟩ := rep_at (HK.on hB.out (Nat.le_refl _)) hx
      have HXX := Lib.hid hx
      have hki : ((k : Nat) : Int).toNat = k := by omega
      have hlt' : (k : Int) < ((l.length : Nat) : Int) := by omega
      have HC := Lib.hid (fun (r : Bool) (hr : (fun x => !repOk n s.hosts.length x) ⟨z0, z1⟩ = r) => c_badRep wb sb p s WA n wc ⟨z0, z1⟩ r hr wr (HW.out.on hB.out (Nat.le_refl _)) (HS.out.on hB.out (Nat.le_refl _)))
      clear hx HK
      rcases hp : (fun x => !repOk n s.hosts.length x) ⟨z0, z1⟩ with _ | _
      · have HP := Lib.hid hp
        clear hp
        go_wp2_with (go_at_call 43; refine (HC.out _ HP.out).mono ?_; rintro e w1 ⟨rfl, b1⟩; have HB1 := Lib.hid (below_join hB.out b1 hB.out.size); clear b1 y0 y1)
        go_roundw
        case rel => exact ⟨k + 1, by omega, by go_num, Lib.hid (fun i y hi hy => by
          rcases Nat.lt_or_ge i k with h | h
          · exact hun.out i y h hy
          · obtain rfl : i = k := by omega
            have := HXX.out
            rw [hy] at this
            injection this with this
            subst this
            exact HP.out), HB1⟩
        case measure => simp only [intOf]; omega
      · have HKY := Lib.hid (show (k : Int) = y by rw [← HY.out]; exact (fidx_at _ l k _ hun.out HXX.out hp).symm)
        have HP := Lib.hid hp
        clear hp
        go_wp2_with (go_at_call 43; refine (HC.out _ HP.out).mono ?_; rintro e w1 ⟨rfl, b1⟩; have HB1 := Lib.hid (below_join hB.out b1 hB.out.size); clear b1 y0 y1)
        go_ret
        exact ⟨(show Ending.returned (.int .i64 (k : Int)) = .returned (.int .i64 y) by rw [HKY.out]), HB1.out⟩
    · obtain rfl : k = l.length := by omega
      have HKY := Lib.hid (show (-1 : Int) = y by rw [← HY.out, fidx_none _ l (fun i y hy => hun.out i y (List.getElem?_eq_some_iff.1 hy).1 hy)])
      go_wp2_with (fail)
      go_ret
      exact ⟨(show Ending.returned (.int .i64 (-1)) = .returned (.int .i64 y) by rw [HKY.out]), hB.out⟩
set_option maxHeartbeats 4000000 in
theorem c_CF_Replica (wb sb : Nat) (p : SP) (s : SiteD) (WA : Option Addr) (n wc : Nat) (A : Option Addr) (c : Nat) (l : List Rep) (w : World) (hw : WiBox w wb WA n wc) (hs : SiBox w sb p s) (h : Rv 2 repV w A c l) (r : Bool) (hr : l.any (fun x => !repOk n s.hosts.length x) = r) :
    Calls Try.prog 47 #[.slice A l.length c, .func (.func 43) #[] #[.pointer (some ⟨wb, 0, none⟩), .pointer (some ⟨sb, 0, none⟩)]] w fun e w' => e = .returned (.bool r) ∧ Below w.heap.size w w' := by
  obtain ⟨y, hy⟩ : ∃ y, fidx (fun x => !repOk n s.hosts.length x) l = y := ⟨_, rfl⟩
  have HC := Lib.hid (c_IF_Replica wb sb p s WA n wc A c l w hw hs h y hy)
  have HR := Lib.hid (show decide (0 ≤ y) = r by rw [← hy, fidx_any, hr])
  clear hy hr h hw hs
  go_enter Try.func47, Try.ntmps47
  go_wp2_with (go_at_call 80; refine HC.out.mono ?_; rintro e w1 ⟨rfl, b1⟩; have HB1 := Lib.hid b1; clear b1)
  go_ret
  exact ⟨(show Ending.returned (.bool (decide (0 ≤ y))) = .returned (.bool r) by rw [HR.out]), HB1.out⟩
end Go.Proofs.Ytplncglgolhfaaa
