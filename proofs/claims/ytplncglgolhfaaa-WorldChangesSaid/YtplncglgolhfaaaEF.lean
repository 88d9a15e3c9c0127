/-
  DERIVED. ValidWish of the landed package (stage 13).
-/
import Derived.Test.YtplncglgolhfaaaEE
import Derived.Test.YtplncglgolhfaaaBF
namespace Go.Proofs.Ytplncglgolhfaaa
open Go.RowKit
set_option maxRecDepth 100000
set_option linter.unusedVariables false
set_option linter.unusedSimpArgs false

theorem sumR_nil : sumR [] = 0 := rfl
theorem sumR_take {ss : List Svc} {k : Nat} {s : Svc} (h : ss[k]? = some s) : sumR (ss.take (k + 1)) = sumR (ss.take k) + s.reps := by
  unfold sumR
  rw [List.take_add_one, h, List.map_append, List.sum_append]
  simp
theorem keepB_reps {s : Svc} (h : keepB s = true) : 0 ≤ s.reps ∧ s.reps ≤ 24 := (keepB_iff.1 h).2.1
theorem sumR_bound {ss : List Svc} : ∀ {k : Nat}, k ≤ ss.length → (∀ (i : Nat) s, i < k → ss[i]? = some s → 0 ≤ s.reps ∧ s.reps ≤ 24) → 0 ≤ sumR (ss.take k) ∧ sumR (ss.take k) ≤ 24 * k := by
  intro k
  induction k with
  | zero => intro _ _; simp [sumR]
  | succ k ih =>
    intro hk h
    have h1 := ih (by omega) fun i s hi hs => h i s (by omega) hs
    have h2 : ss[k]? = some ss[k] := List.getElem?_eq_getElem (by omega)
    rw [sumR_take h2]
    have := h k _ (by omega) h2
    omega
theorem sv_box {w : World} {b : Nat} {x : Svc × SvA} (h : w.heap[b]? = some (.cells (svA x) 64 (0, 0))) :
    w.cell? ⟨b, 0, none⟩ = some (.int .i64 x.1.cores) ∧ w.cell? ⟨b, 1, none⟩ = some (.int .i64 x.1.reps) ∧ w.cell? ⟨b, 2, none⟩ = some (.int .i64 x.1.least) ∧ w.cell? ⟨b, 3, none⟩ = some (.int .u8 (x.1.dom : Int)) ∧ w.cell? ⟨b, 4, none⟩ = some (.int .i64 x.1.spread) ∧ w.cell? ⟨b, 5, none⟩ = some (.slice x.2.a1 x.1.apart.length x.2.c1) ∧ w.cell? ⟨b, 6, none⟩ = some (.slice x.2.a2 x.1.near.length x.2.c2) ∧ w.cell? ⟨b, 7, none⟩ = some (.int .i64 x.1.fw) :=
  ⟨cell_of h rfl, cell_of h rfl, cell_of h rfl, cell_of h rfl, cell_of h rfl, cell_of h rfl, cell_of h rfl, cell_of h rfl⟩
theorem wish_no {xs : List (Svc × SvA)} {k : Nat} {s : Svc} (h : (svs xs)[k]? = some s) (hb : svcB s k xs.length = false) : ¬ WishOk (svs xs) := fun hw => by
  have := hw.2.1 k s h
  rw [svs_len, hb] at this
  cases this
set_option maxHeartbeats 16000000 in
theorem c_ValidWish (A : Option Addr) (c : Nat) (xs : List (Svc × SvA)) (r : Bool) (hr : r = true ↔ WishOk (svs xs)) (w : World) (h : WiAt w A c xs) :
    Calls Try.prog 12 #[.agg #[.slice A xs.length c]] w fun e w' => e = .returned (.bool r) ∧ Below w.heap.size w w' := by
  obtain ⟨W, hW⟩ : ∃ W, W = w.alloc (.cells #[.slice A xs.length c] 32) := ⟨_, rfl⟩
  have B0 : Below w.heap.size w W := by subst hW; exact (Below.refl _ _).alloc (Nat.le_refl _) _
  have HB := Lib.hid B0
  have HX : W.heap[w.heap.size]? = some (.cells #[.slice A xs.length c] 32 (0, 0)) := by subst hW; exact box_new _ _ _
  have HX2 := Lib.hid HX
  have x0 : W.cell? ⟨w.heap.size, 0, none⟩ = some (.slice A xs.length c) := cell_of HX rfl
  have H := Lib.hid (h.on B0 (Nat.le_refl _))
  have hc1 := h.row.1
  have hc2 := h.row.2.1
  unfold maxLen at hc2
  have hsl := svs_len xs
  have HR := Lib.hid hr
  have HWS := Lib.hid (show w.heap.size < W.heap.size by rw [hW, World.size_alloc]; omega)
  clear hr h HX B0
  generalize hA : w.heap.size = B at *
  rw [hW] at x0
  by_cases h8 : xs.length ≤ 8
  · have hd8 : decide ((8 : Int) < (xs.length : Int)) = false := decide_eq_false (by omega)
    go_enter Try.func12, Try.ntmps12
    go_wp2_with (fail)
    rw [← hW] at x0 ⊢
    clear hW
    go_loopw [4, 15] (fun sm i wr => ∃ k : Nat, k ≤ xs.length ∧ sm = .int .i64 (sumR ((svs xs).take k)) ∧ i = .int .i64 (k : Int) ∧ Hid (∀ (i : Nat) s, i < k → (svs xs)[i]? = some s → svcB s i xs.length = true) ∧ Hid (Below W.heap.size W wr)) (fun _ i _ => xs.length - (intOf i).toNat)
    case atStart => exact ⟨0, Nat.zero_le _, rfl, rfl, Lib.hid (fun i s hi => absurd hi (by omega)), Lib.hid (Below.refl _ _)⟩
    case round =>
      obtain ⟨k, hk, rfl, rfl, hok, hK⟩ := hrel
      have hbd := sumR_bound (ss := svs xs) (k := k) (by omega) fun i s hi hs => keepB_reps (by have := hok.out i s hi hs; unfold svcB at this; rw [Bool.and_eq_true] at this; exact this.1)
      obtain ⟨sm, hsm⟩ : ∃ sm, sumR ((svs xs).take k) = sm := ⟨_, rfl⟩
      have HSM := Lib.hid hsm
      rw [hsm] at hbd ⊢
      clear hsm
      by_cases hlt : k < xs.length
      · obtain ⟨x, hx⟩ : ∃ x, xs[k]? = some x := ⟨_, List.getElem?_eq_getElem hlt⟩
        have HK := H.out.on hK.out (Nat.le_refl _)
        obtain ⟨pb, o, rfl, -, -⟩ := HK.row.at_ hx
        obtain ⟨y0, y1, y2, y3, y4, y5, y6, y7⟩ := sv_at HK.row hx
        have HS := Lib.hid (HK.each x (List.mem_of_getElem? hx))
        have HXX := Lib.hid hx
        have HSV := Lib.hid (svs_at hx)
        have hki : ((k : Nat) : Int).toNat = k := by omega
        have hlt' : (k : Int) < ((xs.length : Nat) : Int) := by omega
        obtain ⟨V, hV⟩ : ∃ V, V = wr.alloc (.cells (svA x) 64) := ⟨_, rfl⟩
        have bV : Below wr.heap.size wr V := by subst hV; exact (Below.refl _ _).alloc (Nat.le_refl _) _
        have HV := Lib.hid (show V.heap[wr.heap.size]? = some (.cells (svA x) 64 (0, 0)) by subst hV; exact box_new _ _ _)
        have HKV := Lib.hid (hK.out.trans (bV.mono hK.out.size))
        have HSV2 := Lib.hid (HS.out.on bV (Nat.le_refl _))
        clear hx HK bV
        unfold svA at hV
        go_wp2_with (fail)
        rw [← hV]
        clear hV y0 y1 y2 y3 y4 y5 y6 y7
        obtain ⟨q1, hq1⟩ : ∃ q, keepB x.1 = q := ⟨_, rfl⟩
        have Q1 := Lib.hid hq1
        clear hq1
        obtain ⟨pv, hpv⟩ : ∃ pv, wr.heap.size = pv := ⟨_, rfl⟩
        rw [hpv] at HV ⊢
        have HPV := Lib.hid hpv
        clear hpv
        go_at_call 38
        refine (c_keeps x q1 Q1.out V HSV2.out).mono ?_
        rintro e w1 ⟨rfl, b1⟩
        have K1 := Lib.hid (below_join HKV.out b1 HKV.out.size)
        have HV1 := Lib.hid (box_on HV.out b1 (Nat.le_refl _))
        have HS1 := Lib.hid (HSV2.out.on b1 (Nat.le_refl _))
        clear b1
        obtain ⟨z0, z1, z2, z3, z4, z5, z6, z7⟩ := sv_box HV1.out
        cases q1
        · obtain rfl : false = r := by
            rcases r with _ | _
            · rfl
            · exact absurd (HR.out.1 rfl) (wish_no HSV.out (by unfold svcB; rw [Q1.out]; rfl))
          go_wp2_with (fail)
          go_ret
          exact ⟨rfl, below_join HB.out K1.out (by rw [← hA]; exact HB.out.size)⟩
        · go_wp2_with (fail)
          obtain ⟨q2, hq2⟩ : ∃ q, nameB x.1 (k : Int) (xs.length : Int) = q := ⟨_, rfl⟩
          have Q2 := Lib.hid hq2
          clear hq2
          go_at_call 39
          refine (c_names x (k : Int) (xs.length : Int) q2 Q2.out w1 HS1.out).mono ?_
          rintro e w2 ⟨rfl, b2⟩
          have K2 := Lib.hid (below_join K1.out b2 K1.out.size)
          have HV2 := Lib.hid (box_on HV1.out b2 (Nat.le_refl _))
          clear b2 z0 z1 z2 z3 z4 z5 z6 z7
          obtain ⟨z0, z1, z2, z3, z4, z5, z6, z7⟩ := sv_box HV2.out
          cases q2
          · obtain rfl : false = r := by
              rcases r with _ | _
              · rfl
              · exact absurd (HR.out.1 rfl) (wish_no HSV.out (by unfold svcB; rw [Q1.out, Q2.out]; rfl))
            go_wp2_with (fail)
            go_ret
            exact ⟨rfl, below_join HB.out K2.out (by rw [← hA]; exact HB.out.size)⟩
          · have hrp := keepB_reps Q1.out
            have HN := Lib.hid (show sumR ((svs xs).take (k + 1)) = sm + x.1.reps by rw [sumR_take HSV.out, HSM.out])
            have HO := Lib.hid (show ∀ (i : Nat) s, i < k + 1 → (svs xs)[i]? = some s → svcB s i xs.length = true from fun i s hi hs => by
              rcases Nat.lt_or_ge i k with h | h
              · exact hok.out i s h hs
              · obtain rfl : i = k := by omega
                rw [HSV.out] at hs
                injection hs with hs
                subst hs
                unfold svcB
                rw [Q1.out, Q2.out]; rfl)
            go_wp2_with (fail)
            go_roundw
            case rel => exact ⟨k + 1, by omega, by rw [HN.out], by go_num, HO, K2⟩
            case measure => simp only [intOf]; omega
      · obtain rfl : k = xs.length := by omega
        have hd : decide (sm ≤ 24) = r := by
          have e : sumR (svs xs) = sm := by rw [← HSM.out, ← hsl, List.take_length]
          rw [Bool.eq_iff_iff, decide_eq_true_eq, HR.out, ← e]
          exact ⟨fun h => ⟨by omega, fun i s hs => by rw [hsl]; exact hok.out i s (by have := (List.getElem?_eq_some_iff.1 hs).1; omega) hs, h⟩, fun h => h.2.2⟩
        go_wp2_with (fail)
        go_ret
        exact ⟨rfl, below_join HB.out hK.out (by rw [← hA]; exact HB.out.size)⟩
  · have hd8 : decide ((8 : Int) < (xs.length : Int)) = true := decide_eq_true (by omega)
    obtain rfl : false = r := by
      rcases r with _ | _
      · rfl
      · exact absurd (HR.out.1 rfl).1 (by omega)
    go_enter Try.func12, Try.ntmps12
    go_wp2_with (fail)
    go_ret
    rw [← hW]
    exact ⟨rfl, HB.out⟩
end Go.Proofs.Ytplncglgolhfaaa
