/-
  DERIVED. areOthers and namesOthers of the landed package (written by gen/world_EE.py).
-/
import Derived.Test.YtplncglgolhfaaaED
namespace Go.Proofs.Ytplncglgolhfaaa
open Go.RowKit
set_option maxRecDepth 100000
set_option linter.unusedVariables false
set_option linter.unusedSimpArgs false

theorem drop_at {α : Type} {l : List α} {k : Nat} {x : α} (h : l[k]? = some x) : l.drop k = x :: l.drop (k + 1) := by
  obtain ⟨h1, h2⟩ := List.getElem?_eq_some_iff.1 h
  rw [← h2]; exact List.drop_eq_getElem_cons h1
set_option maxHeartbeats 2000000 in
theorem c_itself (x : Int) (w : World) : Calls Try.prog 61 #[.int .i64 x] w fun e w' => e = .returned (.int .i64 x) ∧ w' = w := by
  go_enter Try.func61, Try.ntmps61
  go_wp2
  go_ret
  exact ⟨rfl, rfl⟩
set_option maxHeartbeats 2000000 in
theorem c_ofNear (x : Nr) (w : World) : Calls Try.prog 62 #[.agg #[.int .i64 x.svc, .int .i64 x.lat]] w fun e w' => e = .returned (.int .i64 x.svc) ∧ Below w.heap.size w w' := by
  go_enter Try.func62, Try.ntmps62
  go_wp2
  go_ret
  exact ⟨rfl, (Below.refl _ _).alloc (Nat.le_refl _) _⟩
set_option maxHeartbeats 8000000 in
theorem c_others_int (own many : Int) (A : Option Addr) (c : Nat) (l : List Int) (r : Bool) (hr : othB own many l = r) (w : World) (h : Rv 1 inV w A c l) :
    Calls Try.prog 63 #[.slice A l.length c, .func (.func 61) #[] #[], .int .i64 own, .int .i64 many] w fun e w' => e = .returned (.bool r) ∧ Below w.heap.size w w' := by
  have H := Lib.hid h
  have HR := Lib.hid hr
  have hc1 := h.1
  have hc2 := h.2.1
  unfold maxLen at hc2
  clear h hr
  go_enter Try.func63, Try.ntmps63
  go_wp2_with (fail)
  go_loopw [9, 15] (fun la i wr => ∃ (k : Nat) (last : Int), k ≤ l.length ∧ la = .int .i64 last ∧ i = .int .i64 (k : Int) ∧ Hid (othB own many l = othGo own many last (l.drop k)) ∧ Hid (Below w.heap.size w wr)) (fun _ i _ => l.length - (intOf i).toNat)
  case atStart => exact ⟨0, -1, Nat.zero_le _, rfl, rfl, Lib.hid rfl, Lib.hid (Below.refl _ _)⟩
  case round =>
    obtain ⟨k, last, hk, rfl, rfl, hgo, hB⟩ := hrel
    by_cases hlt : k < l.length
    · obtain ⟨x, hx⟩ : ∃ x, l[k]? = some x := ⟨_, List.getElem?_eq_getElem hlt⟩
      have HK := H.out.on hB.out (Nat.le_refl _)
      obtain ⟨pb, o, rfl, -, -⟩ := HK.at_ hx
      have y0 := int_at HK hx
      have HD := Lib.hid (show othB own many l = othGo own many last (x :: l.drop (k + 1)) by rw [hgo.out, drop_at (show l[k]? = some x by simp [hx])])
      have hki : ((k : Nat) : Int).toNat = k := by omega
      have hlt' : (k : Int) < ((l.length : Nat) : Int) := by omega
      have hs := hB.out.size
      clear hx HK hgo
      rcases h1 : decide (x ≤ last) with _ | _
      · rcases h2 : decide (many ≤ x) with _ | _
        · rcases h3 : (x == own) with _ | _
          · have HN := Lib.hid (show othB own many l = othGo own many x (l.drop (k + 1)) by rw [HD.out, othGo_cons_ok (fun h => h.elim (fun h => of_decide_eq_false h1 h) (fun h => h.elim (fun h => of_decide_eq_false h2 h) (fun h => (beq_eq_false_iff_ne.1 h3) h)))])
            go_wp2_with (go_at_call 61; refine (c_itself x _).mono ?_; rintro e w1 ⟨rfl, rfl⟩)
            go_roundw
            case rel => exact ⟨k + 1, x, by omega, rfl, by go_num, HN, hB⟩
            case measure => simp only [intOf]; omega
          · obtain rfl : false = r := by rw [← HR.out, HD.out, othGo_cons_no (.inr (.inr (eq_of_beq h3)))]
            go_wp2_with (go_at_call 61; refine (c_itself x _).mono ?_; rintro e w1 ⟨rfl, rfl⟩)
            go_ret
            exact ⟨rfl, hB.out⟩
        · obtain rfl : false = r := by rw [← HR.out, HD.out, othGo_cons_no (.inr (.inl (of_decide_eq_true h2)))]
          go_wp2_with (go_at_call 61; refine (c_itself x _).mono ?_; rintro e w1 ⟨rfl, rfl⟩)
          go_ret
          exact ⟨rfl, hB.out⟩
      · obtain rfl : false = r := by rw [← HR.out, HD.out, othGo_cons_no (.inl (of_decide_eq_true h1))]
        go_wp2_with (go_at_call 61; refine (c_itself x _).mono ?_; rintro e w1 ⟨rfl, rfl⟩)
        go_ret
        exact ⟨rfl, hB.out⟩
    · obtain rfl : k = l.length := by omega
      obtain rfl : true = r := by rw [← HR.out, hgo.out, List.drop_eq_nil_of_le (by simp)]; rfl
      go_wp2_with (fail)
      go_ret
      exact ⟨rfl, hB.out⟩
set_option maxHeartbeats 8000000 in
theorem c_others_Near (own many : Int) (A : Option Addr) (c : Nat) (l : List Nr) (r : Bool) (hr : othB own many (l.map (·.svc)) = r) (w : World) (h : Rv 2 nrV w A c l) :
    Calls Try.prog 64 #[.slice A l.length c, .func (.func 62) #[] #[], .int .i64 own, .int .i64 many] w fun e w' => e = .returned (.bool r) ∧ Below w.heap.size w w' := by
  have H := Lib.hid h
  have HR := Lib.hid hr
  have hc1 := h.1
  have hc2 := h.2.1
  unfold maxLen at hc2
  clear h hr
  go_enter Try.func64, Try.ntmps64
  go_wp2_with (fail)
  go_loopw [9, 15] (fun la i wr => ∃ (k : Nat) (last : Int), k ≤ l.length ∧ la = .int .i64 last ∧ i = .int .i64 (k : Int) ∧ Hid (othB own many (l.map (·.svc)) = othGo own many last ((l.map (·.svc)).drop k)) ∧ Hid (Below w.heap.size w wr)) (fun _ i _ => l.length - (intOf i).toNat)
  case atStart => exact ⟨0, -1, Nat.zero_le _, rfl, rfl, Lib.hid rfl, Lib.hid (Below.refl _ _)⟩
  case round =>
    obtain ⟨k, last, hk, rfl, rfl, hgo, hB⟩ := hrel
    by_cases hlt : k < l.length
    · obtain ⟨x, hx⟩ : ∃ x, l[k]? = some x := ⟨_, List.getElem?_eq_getElem hlt⟩
      have HK := H.out.on hB.out (Nat.le_refl _)
      obtain ⟨pb, o, rfl, -, -⟩ := HK.at_ hx
      obtain ⟨y0, y1⟩ := near_at HK hx
      have HD := Lib.hid (show othB own many (l.map (·.svc)) = othGo own many last (x.svc :: (l.map (·.svc)).drop (k + 1)) by rw [hgo.out, drop_at (show (l.map (·.svc))[k]? = some x.svc by simp [hx])])
      have hki : ((k : Nat) : Int).toNat = k := by omega
      have hlt' : (k : Int) < ((l.length : Nat) : Int) := by omega
      have hs := hB.out.size
      clear hx HK hgo
      rcases h1 : decide (x.svc ≤ last) with _ | _
      · rcases h2 : decide (many ≤ x.svc) with _ | _
        · rcases h3 : (x.svc == own) with _ | _
          · have HN := Lib.hid (show othB own many (l.map (·.svc)) = othGo own many x.svc ((l.map (·.svc)).drop (k + 1)) by rw [HD.out, othGo_cons_ok (fun h => h.elim (fun h => of_decide_eq_false h1 h) (fun h => h.elim (fun h => of_decide_eq_false h2 h) (fun h => (beq_eq_false_iff_ne.1 h3) h)))])
            go_wp2_with (go_at_call 62; refine (c_ofNear x _).mono ?_; rintro e w1 ⟨rfl, b1⟩; have HB1 := Lib.hid (below_join (hB.out.alloc hB.out.size _) b1 (by rw [World.size_alloc]; have := hB.out.size; omega)); clear b1 y0 y1)
            go_roundw
            case rel => exact ⟨k + 1, x.svc, by omega, rfl, by go_num, HN, HB1⟩
            case measure => simp only [intOf]; omega
          · obtain rfl : false = r := by rw [← HR.out, HD.out, othGo_cons_no (.inr (.inr (eq_of_beq h3)))]
            go_wp2_with (go_at_call 62; refine (c_ofNear x _).mono ?_; rintro e w1 ⟨rfl, b1⟩; have HB1 := Lib.hid (below_join (hB.out.alloc hB.out.size _) b1 (by rw [World.size_alloc]; have := hB.out.size; omega)); clear b1 y0 y1)
            go_ret
            exact ⟨rfl, HB1.out⟩
        · obtain rfl : false = r := by rw [← HR.out, HD.out, othGo_cons_no (.inr (.inl (of_decide_eq_true h2)))]
          go_wp2_with (go_at_call 62; refine (c_ofNear x _).mono ?_; rintro e w1 ⟨rfl, b1⟩; have HB1 := Lib.hid (below_join (hB.out.alloc hB.out.size _) b1 (by rw [World.size_alloc]; have := hB.out.size; omega)); clear b1 y0 y1)
          go_ret
          exact ⟨rfl, HB1.out⟩
      · obtain rfl : false = r := by rw [← HR.out, HD.out, othGo_cons_no (.inl (of_decide_eq_true h1))]
        go_wp2_with (go_at_call 62; refine (c_ofNear x _).mono ?_; rintro e w1 ⟨rfl, b1⟩; have HB1 := Lib.hid (below_join (hB.out.alloc hB.out.size _) b1 (by rw [World.size_alloc]; have := hB.out.size; omega)); clear b1 y0 y1)
        go_ret
        exact ⟨rfl, HB1.out⟩
    · obtain rfl : k = l.length := by omega
      obtain rfl : true = r := by rw [← HR.out, hgo.out, List.drop_eq_nil_of_le (by simp)]; rfl
      go_wp2_with (fail)
      go_ret
      exact ⟨rfl, hB.out⟩
set_option maxHeartbeats 8000000 in
theorem c_names (x : Svc × SvA) (own many : Int) (r : Bool) (hr : nameB x.1 own many = r) (w : World) (h : SvAt w x) :
    Calls Try.prog 39 #[.agg (svA x), .int .i64 own, .int .i64 many] w fun e w' => e = .returned (.bool r) ∧ Below w.heap.size w w' := by
  unfold svA
  obtain ⟨W, hW⟩ : ∃ W, W = w.alloc (.cells (svA x) 64) := ⟨_, rfl⟩
  have B0 : Below w.heap.size w W := by subst hW; exact (Below.refl _ _).alloc (Nat.le_refl _) _
  have HB := Lib.hid B0
  have HX : W.heap[w.heap.size]? = some (.cells (svA x) 64 (0, 0)) := by subst hW; exact box_new _ _ _
  have HX2 := Lib.hid HX
  have x5 : W.cell? ⟨w.heap.size, 5, none⟩ = some (.slice x.2.a1 x.1.apart.length x.2.c1) := cell_of HX rfl
  have H := Lib.hid (h.on B0 (Nat.le_refl _))
  have HR := Lib.hid (show (othB own many x.1.apart && othB own many (x.1.near.map (·.svc))) = r from hr)
  clear hr h HX B0
  generalize hA : w.heap.size = A at *
  unfold svA at hW
  rw [hW] at x5
  obtain ⟨r1, h1⟩ : ∃ b, othB own many x.1.apart = b := ⟨_, rfl⟩
  have Q1 := Lib.hid h1
  clear h1
  go_enter Try.func39, Try.ntmps39
  go_wp2_with (fail)
  rw [← hW] at x5 ⊢
  clear hW
  go_at_call 63
  refine (c_others_int own many x.2.a1 x.2.c1 x.1.apart r1 Q1.out W H.out.apart).mono ?_
  rintro e w1 ⟨rfl, b1⟩
  have K1 := Lib.hid b1
  have HB1 := Lib.hid (below_join HB.out b1 (by rw [← hA]; exact HB.out.size))
  clear b1
  cases r1
  · obtain rfl : false = r := by have h := HR.out; rw [Q1.out] at h; exact h
    go_wp2_with (fail)
    go_ret
    exact ⟨rfl, HB1.out⟩
  · obtain ⟨r2, h2⟩ : ∃ b, othB own many (x.1.near.map (·.svc)) = b := ⟨_, rfl⟩
    have Q2 := Lib.hid h2
    clear h2
    have HE := Lib.hid (show r2 = r by have h := HR.out; rw [Q1.out, Q2.out] at h; exact h)
    have x6 : w1.cell? ⟨A, 6, none⟩ = some (.slice x.2.a2 x.1.near.length x.2.c2) := cell_of (box_on HX2.out K1.out (Nat.le_refl _)) rfl
    go_wp2_with (fail)
    go_at_call 64
    refine (c_others_Near own many x.2.a2 x.2.c2 x.1.near r2 Q2.out w1 (H.out.near.on K1.out (Nat.le_refl _))).mono ?_
    rintro e w2 ⟨rfl, b2⟩
    have HB2 := Lib.hid (below_join HB1.out b2 (by rw [← hA]; exact HB1.out.size))
    clear b2
    go_wp2_with (fail)
    go_ret
    exact ⟨(show Ending.returned (.bool r2) = .returned (.bool r) by rw [HE.out]), HB2.out⟩
end Go.Proofs.Ytplncglgolhfaaa
