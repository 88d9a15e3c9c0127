/-
  DERIVED. service of the specification (written by gen/world_FC.py).
-/
import Derived.Test.YtplncglgolhfaaaEF
import Derived.Test.YtplncglgolhfaaaEI
namespace Go.Proofs.Ytplncglgolhfaaa
open Go.RowKit
set_option maxRecDepth 100000
set_option linter.unusedVariables false
set_option linter.unusedSimpArgs false

theorem svcB_of {s : Svc} {own many : Int} (h : svcB s own many = true) : ((1 ≤ s.cores ∧ s.cores ≤ 1000) ∧ (0 ≤ s.reps ∧ s.reps ≤ 24) ∧ (0 ≤ s.least ∧ s.least ≤ s.reps) ∧ (0 ≤ s.fw ∧ s.fw ≤ 1000000) ∧ s.dom ≤ 5 ∧ ((if s.dom = 0 then 0 else 1) ≤ s.spread ∧ s.spread ≤ (if s.dom = 0 then 0 else 24)) ∧ ∀ n ∈ s.near, 0 ≤ n.lat ∧ n.lat ≤ 1000000) ∧ othB own many s.apart = true ∧ othB own many (s.near.map (·.svc)) = true := by
  unfold svcB nameB at h
  rw [Bool.and_eq_true, Bool.and_eq_true, keepB_iff] at h
  exact h
theorem svcB_mk {s : Svc} {own many : Int} (h1 : (1 ≤ s.cores ∧ s.cores ≤ 1000) ∧ (0 ≤ s.reps ∧ s.reps ≤ 24) ∧ (0 ≤ s.least ∧ s.least ≤ s.reps) ∧ (0 ≤ s.fw ∧ s.fw ≤ 1000000) ∧ s.dom ≤ 5 ∧ ((if s.dom = 0 then 0 else 1) ≤ s.spread ∧ s.spread ≤ (if s.dom = 0 then 0 else 24)) ∧ ∀ n ∈ s.near, 0 ≤ n.lat ∧ n.lat ≤ 1000000) (h2 : othB own many s.apart = true) (h3 : othB own many (s.near.map (·.svc)) = true) : svcB s own many = true := by
  unfold svcB nameB
  rw [Bool.and_eq_true, Bool.and_eq_true, keepB_iff]
  exact ⟨h1, h2, h3⟩
theorem svcB_no {s : Svc} {own many : Int} {r : Bool} (hr : svcB s own many = r) (h : svcB s own many = true → False) : r = false := by
  rcases r with _ | _
  · rfl
  · exact absurd hr h
theorem nr_split (x : Nr) : ∃ a b, x = ⟨a, b⟩ := ⟨x.svc, x.lat, rfl⟩
set_option maxHeartbeats 32000000 in
theorem c_service (A : Option Addr) (c : Nat) (xs : List (Svc × SvA)) (k : Nat) (x : Svc × SvA) (hk : xs[k]? = some x) (r : Bool) (hr : svcB x.1 (k : Int) (xs.length : Int) = r) (w : World) (h : WiAt w A c xs) :
    Calls Try.prog 40 #[.agg #[.slice A xs.length c], .int .i64 (k : Int)] w fun e w' => e = .returned (.bool r) ∧ Below w.heap.size w w' := by
  obtain ⟨W1, h1⟩ : ∃ W, W = w.alloc (.cells #[.slice A xs.length c] 32) := ⟨_, rfl⟩
  obtain ⟨W, h2⟩ : ∃ W, W = W1.alloc (.cells (svA x) 64) := ⟨_, rfl⟩
  obtain ⟨B0, b1, b2, -⟩ := two_boxes h1 h2
  have HB := Lib.hid B0
  have hle := B0.size
  have B1 : Below w.heap.size w W1 := by rw [h1]; exact (Below.refl _ _).alloc (Nat.le_refl _) _
  have HW1 := h.on B1 (Nat.le_refl _)
  obtain ⟨pb, po, rfl, -, -⟩ := h.row.at_ hk
  obtain ⟨y0, y1, y2, y3, y4, y5, y6, y7⟩ := sv_at HW1.row hk
  have yg : W1.cell? ⟨w.heap.size, 0, none⟩ = some (.slice (some ⟨pb, po, none⟩) xs.length c) := by rw [h1]; exact cell_of (box_new _ _ _) rfl
  have HF := Lib.hid (fun (X : World) (hX : Below W.heap.size W X) => (⟨cell_of (box_on b1 hX (Nat.le_refl _)) rfl, cell_of (box_on b2 hX (Nat.le_refl _)) rfl, cell_of (box_on b2 hX (Nat.le_refl _)) rfl⟩ : X.cell? ⟨w.heap.size, 0, none⟩ = some (.slice (some ⟨pb, po, none⟩) xs.length c) ∧ X.cell? ⟨w.heap.size + 1, 5, none⟩ = some (.slice x.2.a1 x.1.apart.length x.2.c1) ∧ X.cell? ⟨w.heap.size + 1, 6, none⟩ = some (.slice x.2.a2 x.1.near.length x.2.c2)))
  have S := h.each x (List.mem_of_getElem? hk)
  have HS := Lib.hid (S.on B0 (Nat.le_refl _))
  have m1 := S.apart.1; have m2 := S.apart.2.1; have m3 := S.near.1; have m4 := S.near.2.1; have m5 := h.row.1; have m6 := h.row.2.1
  unfold maxLen at m2 m4 m6
  obtain ⟨t0, t1, t2, t3, t4, t5, t6, t7⟩ := sv_box (show W.heap[w.heap.size + 1]? = some (.cells (svA x) 64 (0, 0)) from b2)
  have hkl : (k : Int) < (xs.length : Int) := by have := (List.getElem?_eq_some_iff.1 hk).1; omega
  have hki : ((k : Nat) : Int).toNat = k := by omega
  have HR := Lib.hid hr
  have KW := Lib.hid (Below.refl W.heap.size W)
  clear hr hk h S HW1 B0 B1 b1 b2
  unfold svA at h2
  rw [h1] at y0 y1 y2 y3 y4 y5 y6 y7 yg
  rw [h2, h1] at t0 t1 t2 t3 t4 t5 t6 t7
  generalize hA : w.heap.size = B at *
  rcases hd0 : decide (x.1.cores < 1) with _ | _
  rotate_left
  · have HDD := Lib.hid hd0
    obtain rfl : false = r := (svcB_no HR.out (fun h => by have h1 := (svcB_of h).1.1.1; have h2 := of_decide_eq_true HDD.out; omega)).symm
    go_enter Try.func40, Try.ntmps40
    go_wp2_with (fail)
    rw [← h1, ← h2]
    go_ret
    exact ⟨rfl, HB.out⟩
  rcases hd1 : decide (1000 < x.1.cores) with _ | _
  rotate_left
  · have HDD := Lib.hid hd1
    obtain rfl : false = r := (svcB_no HR.out (fun h => by have h1 := (svcB_of h).1.1.2; have h2 := of_decide_eq_true HDD.out; omega)).symm
    go_enter Try.func40, Try.ntmps40
    go_wp2_with (fail)
    rw [← h1, ← h2]
    go_ret
    exact ⟨rfl, HB.out⟩
  rcases hd2 : decide (x.1.reps < 0) with _ | _
  rotate_left
  · have HDD := Lib.hid hd2
    obtain rfl : false = r := (svcB_no HR.out (fun h => by have h1 := (svcB_of h).1.2.1.1; have h2 := of_decide_eq_true HDD.out; omega)).symm
    go_enter Try.func40, Try.ntmps40
    go_wp2_with (fail)
    rw [← h1, ← h2]
    go_ret
    exact ⟨rfl, HB.out⟩
  rcases hd3 : decide (24 < x.1.reps) with _ | _
  rotate_left
  · have HDD := Lib.hid hd3
    obtain rfl : false = r := (svcB_no HR.out (fun h => by have h1 := (svcB_of h).1.2.1.2; have h2 := of_decide_eq_true HDD.out; omega)).symm
    go_enter Try.func40, Try.ntmps40
    go_wp2_with (fail)
    rw [← h1, ← h2]
    go_ret
    exact ⟨rfl, HB.out⟩
  rcases hd4 : decide (x.1.least < 0) with _ | _
  rotate_left
  · have HDD := Lib.hid hd4
    obtain rfl : false = r := (svcB_no HR.out (fun h => by have h1 := (svcB_of h).1.2.2.1.1; have h2 := of_decide_eq_true HDD.out; omega)).symm
    go_enter Try.func40, Try.ntmps40
    go_wp2_with (fail)
    rw [← h1, ← h2]
    go_ret
    exact ⟨rfl, HB.out⟩
  rcases hd5 : decide (x.1.reps < x.1.least) with _ | _
  rotate_left
  · have HDD := Lib.hid hd5
    obtain rfl : false = r := (svcB_no HR.out (fun h => by have h1 := (svcB_of h).1.2.2.1.2; have h2 := of_decide_eq_true HDD.out; omega)).symm
    go_enter Try.func40, Try.ntmps40
    go_wp2_with (fail)
    rw [← h1, ← h2]
    go_ret
    exact ⟨rfl, HB.out⟩
  rcases hd6 : decide (x.1.fw < 0) with _ | _
  rotate_left
  · have HDD := Lib.hid hd6
    obtain rfl : false = r := (svcB_no HR.out (fun h => by have h1 := (svcB_of h).1.2.2.2.1.1; have h2 := of_decide_eq_true HDD.out; omega)).symm
    go_enter Try.func40, Try.ntmps40
    go_wp2_with (fail)
    rw [← h1, ← h2]
    go_ret
    exact ⟨rfl, HB.out⟩
  rcases hd7 : decide (1000000 < x.1.fw) with _ | _
  rotate_left
  · have HDD := Lib.hid hd7
    obtain rfl : false = r := (svcB_no HR.out (fun h => by have h1 := (svcB_of h).1.2.2.2.1.2; have h2 := of_decide_eq_true HDD.out; omega)).symm
    go_enter Try.func40, Try.ntmps40
    go_wp2_with (fail)
    rw [← h1, ← h2]
    go_ret
    exact ⟨rfl, HB.out⟩
  rcases hd8 : decide ((5 : Int) < (x.1.dom : Int)) with _ | _
  rotate_left
  · have HDD := Lib.hid hd8
    obtain rfl : false = r := (svcB_no HR.out (fun h => by have h1 := (svcB_of h).1.2.2.2.2.1; have h2 := of_decide_eq_true HDD.out; omega)).symm
    go_enter Try.func40, Try.ntmps40
    go_wp2_with (fail)
    rw [← h1, ← h2]
    go_ret
    exact ⟨rfl, HB.out⟩
  have HE := Lib.hid (show (1 ≤ x.1.cores ∧ x.1.cores ≤ 1000) ∧ (0 ≤ x.1.reps ∧ x.1.reps ≤ 24) ∧ (0 ≤ x.1.least ∧ x.1.least ≤ x.1.reps) ∧ (0 ≤ x.1.fw ∧ x.1.fw ≤ 1000000) ∧ x.1.dom ≤ 5 by
    have e0 := of_decide_eq_false hd0; have e1 := of_decide_eq_false hd1; have e2 := of_decide_eq_false hd2; have e3 := of_decide_eq_false hd3; have e4 := of_decide_eq_false hd4; have e5 := of_decide_eq_false hd5; have e6 := of_decide_eq_false hd6; have e7 := of_decide_eq_false hd7; have e8 := of_decide_eq_false hd8
    omega)
  obtain ⟨z0, z1, u0, u1, u2, hzz, huu⟩ : ∃ z0 z1 u0 u1 u2 : Bool, (((x.1.dom : Int) == 0) = z0 ∧ ((x.1.dom : Int) != 0) = z1 ∧ (x.1.spread != 0) = u0 ∧ decide (x.1.spread < 1) = u1 ∧ decide ((24 : Int) < x.1.spread) = u2) ∧ True := ⟨_, _, _, _, _, ⟨rfl, rfl, rfl, rfl, rfl⟩, trivial⟩
  obtain ⟨e0, e1, e2, e3, e4⟩ := hzz
  have HSP := Lib.hid (show z1 = !z0 ∧ (((if x.1.dom = 0 then 0 else 1) ≤ x.1.spread ∧ x.1.spread ≤ (if x.1.dom = 0 then 0 else 24)) ↔ (z0 && u0 || !z0 && (u1 || u2)) = false) by
    rw [← e0, ← e1, ← e2, ← e3, ← e4]
    refine ⟨by simp [bne], ?_⟩
    by_cases hz : x.1.dom = 0
    · rw [if_pos hz, if_pos hz, hz]
      simp
      (try omega)
    · rw [if_neg hz, if_neg hz]
      have : ((x.1.dom : Int) == 0) = false := by simpa using hz
      rw [this]
      simp
      (try omega))
  have hz1 : z1 = !z0 := HSP.out.1
  subst hz1
  clear huu
  have GO : (z0 && u0 || !z0 && (u1 || u2)) = true → r = false := fun ht => svcB_no HR.out (fun h => by
    have h1 := HSP.out.2.1 (svcB_of h).1.2.2.2.2.2.1
    rw [ht] at h1; cases h1)
  have HGO := Lib.hid GO
  clear GO
  rcases z0 with _ | _
  · simp only [Bool.not_false] at e1
    rcases u1 with _ | _
    rotate_left
    · obtain rfl : r = false := HGO.out (by simp)
      go_enter Try.func40, Try.ntmps40
      go_wp2_with (fail)
      rw [← h1, ← h2]
      go_ret
      exact ⟨rfl, HB.out⟩
    rcases u2 with _ | _
    rotate_left
    · obtain rfl : r = false := HGO.out (by simp)
      go_enter Try.func40, Try.ntmps40
      go_wp2_with (fail)
      rw [← h1, ← h2]
      go_ret
      exact ⟨rfl, HB.out⟩
    have HSQ := Lib.hid (HSP.out.2.2 (by simp))
    go_enter Try.func40, Try.ntmps40
    go_wp2_with (fail)
    rw [← h1, ← h2]
    clear h1 h2 y0 y1 y2 y3 y4 y5 y6 y7 yg t0 t1 t2 t3 t4 t5 t6 t7 hd0 hd1 hd2 hd3 hd4 hd5 hd6 hd7 hd8 e0 e1 e2 e3 e4
    go_loopw [6, 7] (fun la i wr => ∃ (j : Nat) (last : Int), j ≤ x.1.apart.length ∧ la = .int .i64 last ∧ i = .int .i64 (j : Int) ∧ Hid (othB (k : Int) (xs.length : Int) x.1.apart = othGo (k : Int) (xs.length : Int) last (x.1.apart.drop j)) ∧ Hid (Below W.heap.size W wr)) (fun _ i _ => x.1.apart.length - (intOf i).toNat)
    case atStart => exact ⟨0, -1, Nat.zero_le _, rfl, rfl, Lib.hid rfl, KW⟩
    case round =>
      obtain ⟨j, last, hj, rfl, rfl, hgo, hK⟩ := hrel
      have hji : ((j : Nat) : Int).toNat = j := by omega
      obtain ⟨f0, f1, f2⟩ := HF.out wr hK.out
      by_cases hlt : j < x.1.apart.length
      · obtain ⟨z, hz⟩ : ∃ z, x.1.apart[j]? = some z := ⟨_, List.getElem?_eq_getElem hlt⟩
        have HK := (HS.out.on hK.out (Nat.le_refl _)).apart
        obtain ⟨b, o, ea, -, -⟩ := HK.at_ hz
        rw [ea] at HK f1
        have g0 := int_at HK hz
        have HD := Lib.hid (show othB (k : Int) (xs.length : Int) x.1.apart = othGo (k : Int) (xs.length : Int) last (z :: x.1.apart.drop (j + 1)) by rw [hgo.out, drop_at hz])
        have hjl : (j : Int) < (x.1.apart.length : Int) := by omega
        clear hz HK ea hgo
        rcases c1 : decide (z ≤ last) with _ | _
        · rcases c2 : (z == (k : Int)) with _ | _
          · rcases c3 : decide ((xs.length : Int) ≤ z) with _ | _
            · have HN := Lib.hid (show othB (k : Int) (xs.length : Int) x.1.apart = othGo (k : Int) (xs.length : Int) z (x.1.apart.drop (j + 1)) by rw [HD.out, othGo_cons_ok (fun h => h.elim (fun h => of_decide_eq_false c1 h) (fun h => h.elim (fun h => of_decide_eq_false c3 h) (fun h => (beq_eq_false_iff_ne.1 c2) h)))])
              go_wp2_with (fail)
              go_quiet (fail)
              go_wp2_with (fail)
              go_roundw
              case rel => exact ⟨j + 1, z, by omega, rfl, by go_num, HN, Lib.hid (below_drewN hK.out)⟩
              case measure => simp only [intOf]; omega
            · have HDD := Lib.hid (of_decide_eq_true c3)
              obtain rfl : r = false := svcB_no HR.out (fun h => by have h1 := (svcB_of h).2.1; rw [HD.out, othGo_cons_no (.inr (.inl HDD.out))] at h1; cases h1)
              go_wp2_with (fail)
              go_quiet (fail)
              go_wp2_with (fail)
              go_ret
              exact ⟨rfl, below_drewN (below_join HB.out hK.out hle)⟩
          · have HDD := Lib.hid (eq_of_beq c2)
            obtain rfl : r = false := svcB_no HR.out (fun h => by have h1 := (svcB_of h).2.1; rw [HD.out, othGo_cons_no (.inr (.inr HDD.out))] at h1; cases h1)
            go_wp2_with (fail)
            go_quiet (fail)
            go_wp2_with (fail)
            go_ret
            exact ⟨rfl, below_drewN (below_join HB.out hK.out hle)⟩
        · have HDD := Lib.hid (of_decide_eq_true c1)
          obtain rfl : r = false := svcB_no HR.out (fun h => by have h1 := (svcB_of h).2.1; rw [HD.out, othGo_cons_no (.inl HDD.out)] at h1; cases h1)
          go_wp2_with (fail)
          go_quiet (fail)
          go_wp2_with (fail)
          go_ret
          exact ⟨rfl, below_drewN (below_join HB.out hK.out hle)⟩
      · obtain rfl : j = x.1.apart.length := by omega
        have HAP := Lib.hid (show othB (k : Int) (xs.length : Int) x.1.apart = true by rw [hgo.out, List.drop_eq_nil_of_le (Nat.le_refl _)]; rfl)
        clear hgo
        go_wp2_with (fail)
        clear f0 f1 f2
        go_loopw [6, 8] (fun la i wr => ∃ (j : Nat) (last : Int), j ≤ x.1.near.length ∧ la = .int .i64 last ∧ i = .int .i64 (j : Int) ∧ Hid (othB (k : Int) (xs.length : Int) (x.1.near.map (·.svc)) = othGo (k : Int) (xs.length : Int) last ((x.1.near.map (·.svc)).drop j)) ∧ Hid (∀ (i : Nat) n, i < j → x.1.near[i]? = some n → 0 ≤ n.lat ∧ n.lat ≤ 1000000) ∧ Hid (Below W.heap.size W wr)) (fun _ i _ => x.1.near.length - (intOf i).toNat)
        case atStart => exact ⟨0, -1, Nat.zero_le _, rfl, rfl, Lib.hid rfl, Lib.hid (fun i n hi => absurd hi (by omega)), hK⟩
        case round =>
          obtain ⟨j, last, hj, rfl, rfl, hgo, hla, hK⟩ := hrel
          have hji : ((j : Nat) : Int).toNat = j := by omega
          obtain ⟨f0, f1, f2⟩ := HF.out wr hK.out
          by_cases hlt : j < x.1.near.length
          · obtain ⟨z, hz⟩ : ∃ z, x.1.near[j]? = some z := ⟨_, List.getElem?_eq_getElem hlt⟩
            obtain ⟨zs, zl, rfl⟩ := nr_split z
            have HK := (HS.out.on hK.out (Nat.le_refl _)).near
            obtain ⟨b, o, ea, -, -⟩ := HK.at_ hz
            rw [ea] at HK f2
            obtain ⟨g0, g1⟩ := near_at HK hz
            simp only at g0 g1
            have HD := Lib.hid (show othB (k : Int) (xs.length : Int) (x.1.near.map (·.svc)) = othGo (k : Int) (xs.length : Int) last (zs :: (x.1.near.map (·.svc)).drop (j + 1)) by rw [hgo.out, drop_at (show (x.1.near.map (·.svc))[j]? = some zs by simp [hz])])
            have hjl : (j : Int) < (x.1.near.length : Int) := by omega
            have HZ := Lib.hid hz
            obtain ⟨V, hV⟩ : ∃ V, V = wr.alloc (.cells #[.int .i64 zs, .int .i64 zl] 100) := ⟨_, rfl⟩
            have bV : Below wr.heap.size wr V := by subst hV; exact (Below.refl _ _).alloc (Nat.le_refl _) _
            have HKV := Lib.hid (below_join hK.out bV hK.out.size)
            have q0 : V.cell? ⟨wr.heap.size, 0, none⟩ = some (.int .i64 zs) := by subst hV; exact cell_of (box_new _ _ _) rfl
            have q1 : V.cell? ⟨wr.heap.size, 1, none⟩ = some (.int .i64 zl) := by subst hV; exact cell_of (box_new _ _ _) rfl
            obtain ⟨v0, -, -⟩ := HF.out V HKV.out
            rw [hV] at q0 q1 v0
            clear hz HK ea hgo bV
            have HNO := Lib.hid (fun (hn : zs ≤ last ∨ (xs.length : Int) ≤ zs ∨ zs = (k : Int)) => (svcB_no HR.out (fun h => by have h1 := (svcB_of h).2.2; rw [HD.out, othGo_cons_no hn] at h1; cases h1) : r = false))
            have HNL := Lib.hid (fun (hn : zl < 0 ∨ 1000000 < zl) => (svcB_no HR.out (fun h => by have h1 := (svcB_of h).1.2.2.2.2.2.2 ⟨zs, zl⟩ (List.mem_of_getElem? HZ.out); simp only at h1; omega) : r = false))
            rcases c1 : decide (zs ≤ last) with _ | _
            rotate_left
            · obtain rfl : r = false := HNO.out (.inl (of_decide_eq_true c1))
              go_wp2_with (fail)
              rw [← hV]
              go_ret
              exact ⟨rfl, below_join HB.out HKV.out hle⟩
            rcases c2 : (zs == (k : Int)) with _ | _
            rotate_left
            · obtain rfl : r = false := HNO.out (.inr (.inr (eq_of_beq c2)))
              go_wp2_with (fail)
              rw [← hV]
              go_ret
              exact ⟨rfl, below_join HB.out HKV.out hle⟩
            rcases c3 : decide ((xs.length : Int) ≤ zs) with _ | _
            rotate_left
            · obtain rfl : r = false := HNO.out (.inr (.inl (of_decide_eq_true c3)))
              go_wp2_with (fail)
              rw [← hV]
              go_ret
              exact ⟨rfl, below_join HB.out HKV.out hle⟩
            rcases c4 : decide (zl < 0) with _ | _
            rotate_left
            · obtain rfl : r = false := HNL.out (.inl (of_decide_eq_true c4))
              go_wp2_with (fail)
              rw [← hV]
              go_ret
              exact ⟨rfl, below_join HB.out HKV.out hle⟩
            rcases c5 : decide ((1000000 : Int) < zl) with _ | _
            rotate_left
            · obtain rfl : r = false := HNL.out (.inr (of_decide_eq_true c5))
              go_wp2_with (fail)
              rw [← hV]
              go_ret
              exact ⟨rfl, below_join HB.out HKV.out hle⟩
            have HN := Lib.hid (show othB (k : Int) (xs.length : Int) (x.1.near.map (·.svc)) = othGo (k : Int) (xs.length : Int) zs ((x.1.near.map (·.svc)).drop (j + 1)) by rw [HD.out, othGo_cons_ok (fun h => h.elim (fun h => of_decide_eq_false c1 h) (fun h => h.elim (fun h => of_decide_eq_false c3 h) (fun h => (beq_eq_false_iff_ne.1 c2) h)))])
            have HLA := Lib.hid (show ∀ (i : Nat) n, i < j + 1 → x.1.near[i]? = some n → 0 ≤ n.lat ∧ n.lat ≤ 1000000 from fun i n hi hn => by
              rcases Nat.lt_or_ge i j with h | h
              · exact hla.out i n h hn
              · obtain rfl : i = j := by omega
                rw [HZ.out] at hn
                injection hn with hn
                subst hn
                have h1 := of_decide_eq_false c4
                have h2 := of_decide_eq_false c5
                simp only
                omega)
            go_wp2_with (fail)
            rw [← hV]
            clear hV
            go_roundw
            case rel => exact ⟨j + 1, zs, by omega, rfl, by go_num, HN, HLA, HKV⟩
            case measure => simp only [intOf]; omega
          · obtain rfl : j = x.1.near.length := by omega
            have HNP := Lib.hid (show othB (k : Int) (xs.length : Int) (x.1.near.map (·.svc)) = true by rw [hgo.out, List.drop_eq_nil_of_le (by simp)]; rfl)
            obtain rfl : true = r := by
              rw [← HR.out]
              obtain ⟨a1, a2, a3, a4, a5⟩ := HE.out
              refine (svcB_mk ⟨a1, a2, a3, a4, a5, HSQ.out, fun n hn => ?_⟩ HAP.out HNP.out).symm
              obtain ⟨i, hi⟩ := List.getElem?_of_mem hn
              exact hla.out i n (List.getElem?_eq_some_iff.1 hi).1 hi
            go_wp2_with (fail)
            go_ret
            exact ⟨rfl, below_join HB.out hK.out hle⟩
  · simp only [Bool.not_true] at e1
    rcases u0 with _ | _
    rotate_left
    · obtain rfl : r = false := HGO.out (by simp)
      go_enter Try.func40, Try.ntmps40
      go_wp2_with (fail)
      rw [← h1, ← h2]
      go_ret
      exact ⟨rfl, HB.out⟩
    have HSQ := Lib.hid (HSP.out.2.2 (by simp))
    go_enter Try.func40, Try.ntmps40
    go_wp2_with (fail)
    rw [← h1, ← h2]
    clear h1 h2 y0 y1 y2 y3 y4 y5 y6 y7 yg t0 t1 t2 t3 t4 t5 t6 t7 hd0 hd1 hd2 hd3 hd4 hd5 hd6 hd7 hd8 e0 e1 e2 e3 e4
    go_loopw [6, 7] (fun la i wr => ∃ (j : Nat) (last : Int), j ≤ x.1.apart.length ∧ la = .int .i64 last ∧ i = .int .i64 (j : Int) ∧ Hid (othB (k : Int) (xs.length : Int) x.1.apart = othGo (k : Int) (xs.length : Int) last (x.1.apart.drop j)) ∧ Hid (Below W.heap.size W wr)) (fun _ i _ => x.1.apart.length - (intOf i).toNat)
    case atStart => exact ⟨0, -1, Nat.zero_le _, rfl, rfl, Lib.hid rfl, KW⟩
    case round =>
      obtain ⟨j, last, hj, rfl, rfl, hgo, hK⟩ := hrel
      have hji : ((j : Nat) : Int).toNat = j := by omega
      obtain ⟨f0, f1, f2⟩ := HF.out wr hK.out
      by_cases hlt : j < x.1.apart.length
      · obtain ⟨z, hz⟩ : ∃ z, x.1.apart[j]? = some z := ⟨_, List.getElem?_eq_getElem hlt⟩
        have HK := (HS.out.on hK.out (Nat.le_refl _)).apart
        obtain ⟨b, o, ea, -, -⟩ := HK.at_ hz
        rw [ea] at HK f1
        have g0 := int_at HK hz
        have HD := Lib.hid (show othB (k : Int) (xs.length : Int) x.1.apart = othGo (k : Int) (xs.length : Int) last (z :: x.1.apart.drop (j + 1)) by rw [hgo.out, drop_at hz])
        have hjl : (j : Int) < (x.1.apart.length : Int) := by omega
        clear hz HK ea hgo
        rcases c1 : decide (z ≤ last) with _ | _
        · rcases c2 : (z == (k : Int)) with _ | _
          · rcases c3 : decide ((xs.length : Int) ≤ z) with _ | _
            · have HN := Lib.hid (show othB (k : Int) (xs.length : Int) x.1.apart = othGo (k : Int) (xs.length : Int) z (x.1.apart.drop (j + 1)) by rw [HD.out, othGo_cons_ok (fun h => h.elim (fun h => of_decide_eq_false c1 h) (fun h => h.elim (fun h => of_decide_eq_false c3 h) (fun h => (beq_eq_false_iff_ne.1 c2) h)))])
              go_wp2_with (fail)
              go_quiet (fail)
              go_wp2_with (fail)
              go_roundw
              case rel => exact ⟨j + 1, z, by omega, rfl, by go_num, HN, Lib.hid (below_drewN hK.out)⟩
              case measure => simp only [intOf]; omega
            · have HDD := Lib.hid (of_decide_eq_true c3)
              obtain rfl : r = false := svcB_no HR.out (fun h => by have h1 := (svcB_of h).2.1; rw [HD.out, othGo_cons_no (.inr (.inl HDD.out))] at h1; cases h1)
              go_wp2_with (fail)
              go_quiet (fail)
              go_wp2_with (fail)
              go_ret
              exact ⟨rfl, below_drewN (below_join HB.out hK.out hle)⟩
          · have HDD := Lib.hid (eq_of_beq c2)
            obtain rfl : r = false := svcB_no HR.out (fun h => by have h1 := (svcB_of h).2.1; rw [HD.out, othGo_cons_no (.inr (.inr HDD.out))] at h1; cases h1)
            go_wp2_with (fail)
            go_quiet (fail)
            go_wp2_with (fail)
            go_ret
            exact ⟨rfl, below_drewN (below_join HB.out hK.out hle)⟩
        · have HDD := Lib.hid (of_decide_eq_true c1)
          obtain rfl : r = false := svcB_no HR.out (fun h => by have h1 := (svcB_of h).2.1; rw [HD.out, othGo_cons_no (.inl HDD.out)] at h1; cases h1)
          go_wp2_with (fail)
          go_quiet (fail)
          go_wp2_with (fail)
          go_ret
          exact ⟨rfl, below_drewN (below_join HB.out hK.out hle)⟩
      · obtain rfl : j = x.1.apart.length := by omega
        have HAP := Lib.hid (show othB (k : Int) (xs.length : Int) x.1.apart = true by rw [hgo.out, List.drop_eq_nil_of_le (Nat.le_refl _)]; rfl)
        clear hgo
        go_wp2_with (fail)
        clear f0 f1 f2
        go_loopw [6, 8] (fun la i wr => ∃ (j : Nat) (last : Int), j ≤ x.1.near.length ∧ la = .int .i64 last ∧ i = .int .i64 (j : Int) ∧ Hid (othB (k : Int) (xs.length : Int) (x.1.near.map (·.svc)) = othGo (k : Int) (xs.length : Int) last ((x.1.near.map (·.svc)).drop j)) ∧ Hid (∀ (i : Nat) n, i < j → x.1.near[i]? = some n → 0 ≤ n.lat ∧ n.lat ≤ 1000000) ∧ Hid (Below W.heap.size W wr)) (fun _ i _ => x.1.near.length - (intOf i).toNat)
        case atStart => exact ⟨0, -1, Nat.zero_le _, rfl, rfl, Lib.hid rfl, Lib.hid (fun i n hi => absurd hi (by omega)), hK⟩
        case round =>
          obtain ⟨j, last, hj, rfl, rfl, hgo, hla, hK⟩ := hrel
          have hji : ((j : Nat) : Int).toNat = j := by omega
          obtain ⟨f0, f1, f2⟩ := HF.out wr hK.out
          by_cases hlt : j < x.1.near.length
          · obtain ⟨z, hz⟩ : ∃ z, x.1.near[j]? = some z := ⟨_, List.getElem?_eq_getElem hlt⟩
            obtain ⟨zs, zl, rfl⟩ := nr_split z
            have HK := (HS.out.on hK.out (Nat.le_refl _)).near
            obtain ⟨b, o, ea, -, -⟩ := HK.at_ hz
            rw [ea] at HK f2
            obtain ⟨g0, g1⟩ := near_at HK hz
            simp only at g0 g1
            have HD := Lib.hid (show othB (k : Int) (xs.length : Int) (x.1.near.map (·.svc)) = othGo (k : Int) (xs.length : Int) last (zs :: (x.1.near.map (·.svc)).drop (j + 1)) by rw [hgo.out, drop_at (show (x.1.near.map (·.svc))[j]? = some zs by simp [hz])])
            have hjl : (j : Int) < (x.1.near.length : Int) := by omega
            have HZ := Lib.hid hz
            obtain ⟨V, hV⟩ : ∃ V, V = wr.alloc (.cells #[.int .i64 zs, .int .i64 zl] 100) := ⟨_, rfl⟩
            have bV : Below wr.heap.size wr V := by subst hV; exact (Below.refl _ _).alloc (Nat.le_refl _) _
            have HKV := Lib.hid (below_join hK.out bV hK.out.size)
            have q0 : V.cell? ⟨wr.heap.size, 0, none⟩ = some (.int .i64 zs) := by subst hV; exact cell_of (box_new _ _ _) rfl
            have q1 : V.cell? ⟨wr.heap.size, 1, none⟩ = some (.int .i64 zl) := by subst hV; exact cell_of (box_new _ _ _) rfl
            obtain ⟨v0, -, -⟩ := HF.out V HKV.out
            rw [hV] at q0 q1 v0
            clear hz HK ea hgo bV
            have HNO := Lib.hid (fun (hn : zs ≤ last ∨ (xs.length : Int) ≤ zs ∨ zs = (k : Int)) => (svcB_no HR.out (fun h => by have h1 := (svcB_of h).2.2; rw [HD.out, othGo_cons_no hn] at h1; cases h1) : r = false))
            have HNL := Lib.hid (fun (hn : zl < 0 ∨ 1000000 < zl) => (svcB_no HR.out (fun h => by have h1 := (svcB_of h).1.2.2.2.2.2.2 ⟨zs, zl⟩ (List.mem_of_getElem? HZ.out); simp only at h1; omega) : r = false))
            rcases c1 : decide (zs ≤ last) with _ | _
            rotate_left
            · obtain rfl : r = false := HNO.out (.inl (of_decide_eq_true c1))
              go_wp2_with (fail)
              rw [← hV]
              go_ret
              exact ⟨rfl, below_join HB.out HKV.out hle⟩
            rcases c2 : (zs == (k : Int)) with _ | _
            rotate_left
            · obtain rfl : r = false := HNO.out (.inr (.inr (eq_of_beq c2)))
              go_wp2_with (fail)
              rw [← hV]
              go_ret
              exact ⟨rfl, below_join HB.out HKV.out hle⟩
            rcases c3 : decide ((xs.length : Int) ≤ zs) with _ | _
            rotate_left
            · obtain rfl : r = false := HNO.out (.inr (.inl (of_decide_eq_true c3)))
              go_wp2_with (fail)
              rw [← hV]
              go_ret
              exact ⟨rfl, below_join HB.out HKV.out hle⟩
            rcases c4 : decide (zl < 0) with _ | _
            rotate_left
            · obtain rfl : r = false := HNL.out (.inl (of_decide_eq_true c4))
              go_wp2_with (fail)
              rw [← hV]
              go_ret
              exact ⟨rfl, below_join HB.out HKV.out hle⟩
            rcases c5 : decide ((1000000 : Int) < zl) with _ | _
            rotate_left
            · obtain rfl : r = false := HNL.out (.inr (of_decide_eq_true c5))
              go_wp2_with (fail)
              rw [← hV]
              go_ret
              exact ⟨rfl, below_join HB.out HKV.out hle⟩
            have HN := Lib.hid (show othB (k : Int) (xs.length : Int) (x.1.near.map (·.svc)) = othGo (k : Int) (xs.length : Int) zs ((x.1.near.map (·.svc)).drop (j + 1)) by rw [HD.out, othGo_cons_ok (fun h => h.elim (fun h => of_decide_eq_false c1 h) (fun h => h.elim (fun h => of_decide_eq_false c3 h) (fun h => (beq_eq_false_iff_ne.1 c2) h)))])
            have HLA := Lib.hid (show ∀ (i : Nat) n, i < j + 1 → x.1.near[i]? = some n → 0 ≤ n.lat ∧ n.lat ≤ 1000000 from fun i n hi hn => by
              rcases Nat.lt_or_ge i j with h | h
              · exact hla.out i n h hn
              · obtain rfl : i = j := by omega
                rw [HZ.out] at hn
                injection hn with hn
                subst hn
                have h1 := of_decide_eq_false c4
                have h2 := of_decide_eq_false c5
                simp only
                omega)
            go_wp2_with (fail)
            rw [← hV]
            clear hV
            go_roundw
            case rel => exact ⟨j + 1, zs, by omega, rfl, by go_num, HN, HLA, HKV⟩
            case measure => simp only [intOf]; omega
          · obtain rfl : j = x.1.near.length := by omega
            have HNP := Lib.hid (show othB (k : Int) (xs.length : Int) (x.1.near.map (·.svc)) = true by rw [hgo.out, List.drop_eq_nil_of_le (by simp)]; rfl)
            obtain rfl : true = r := by
              rw [← HR.out]
              obtain ⟨a1, a2, a3, a4, a5⟩ := HE.out
              refine (svcB_mk ⟨a1, a2, a3, a4, a5, HSQ.out, fun n hn => ?_⟩ HAP.out HNP.out).symm
              obtain ⟨i, hi⟩ := List.getElem?_of_mem hn
              exact hla.out i n (List.getElem?_eq_some_iff.1 hi).1 hi
            go_wp2_with (fail)
            go_ret
            exact ⟨rfl, below_join HB.out hK.out hle⟩
end Go.Proofs.Ytplncglgolhfaaa
