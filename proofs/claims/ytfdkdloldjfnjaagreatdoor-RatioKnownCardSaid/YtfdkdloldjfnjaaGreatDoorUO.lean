/-
  DERIVED. The reference's ValidNat, Valid; the law's same.
-/
import Derived.Test.YtfdkdloldjfnjaaGreatDoorUM
import Derived.Test.YtfdkdloldjfnjaaGreatDoorYUAm
set_option linter.unusedVariables false
set_option linter.unusedSimpArgs false
namespace Go.Proofs.YtfdkdloldjfnjaaGreatDoor
open Go.RowKit
set_option maxRecDepth 100000

theorem last_vn {a : List Nat} (ha : Lb a) (h0 : 0 < a.length) : (nat (val a)).length = a.length ↔ a.getD (a.length - 1) 0 ≠ 0 := by
  constructor
  · intro h e
    obtain ⟨k, hk⟩ : ∃ k, a.length = k + 1 := ⟨a.length - 1, by omega⟩
    have hv := val_take_succ a k
    rw [← hk, List.take_of_length_le (Nat.le_refl _)] at hv
    rw [hk, Nat.add_sub_cancel] at e
    rw [e, Nat.mul_zero, Nat.add_zero] at hv
    have hlt := val_lt (lb_take ha k)
    rw [List.length_take, Nat.min_eq_left (by omega), ← hv] at hlt
    have := nat_len_le.2 hlt
    omega
  · intro h
    have := trim_nat ha (Nat.le_refl a.length) (fun i h1 h2 => by omega) (fun _ => h)
    rw [← this, List.take_of_length_le (Nat.le_refl _)]
set_option maxHeartbeats 2000000 in
theorem c_eValidNat (a : List Nat) (ha : Lb a) (r : Bool) (hr : vnB a = r) (v : Value) (ok : Nat → Prop) (w : World) (h : NatSl w ok v a) : Calls Tryz.prog 58 #[v] w fun e w' => e = .returned (.bool r) ∧ w = w' := by
  unfold vnB at hr
  by_cases h32 : a.length ≤ 32
  · have h32' : ((a.length : Nat) : Int) ≤ 32 := by omega
    rcases Nat.eq_zero_or_pos a.length with h0 | h0
    · have : a = [] := List.eq_nil_of_length_eq_zero h0
      subst this
      have hr2 : r = true := by rw [← hr]; simp [val, nat_zero]
      subst hr2
      obtain ⟨A, c, rfl, -⟩ := h
      go_enter Tryz.func58, Tryz.ntmps58
      go_wp2
      go_ret
      exact ⟨rfl, rfl⟩
    · obtain ⟨b, o, c, rfl, -, -, -, hc⟩ := h.at_ (i := a.length - 1) (by omega)
      have hcell := hc (a.length - 1) (by omega)
      have hl := last_vn ha h0
      have hko : ((a.length : Int) - 1).toNat = a.length - 1 := by omega
      have hne : ((a.length : Int) == 0) = false := by rw [beq_eq_false_iff_ne]; omega
      clear hc h
      generalize a.getD (a.length - 1) 0 = x at *
      by_cases hx : x = 0
      · have hr2 : r = false := by
          rw [← hr, decide_eq_false (fun h => hl.1 h hx), Bool.and_false]
        subst hr2 hx
        clear hr hl
        go_enter Tryz.func58, Tryz.ntmps58
        go_wp2
        go_ret
        exact ⟨rfl, rfl⟩
      · have hr2 : r = true := by
          rw [← hr, decide_eq_true (hl.2 hx), decide_eq_true h32]; rfl
        have hxne : ((x : Int) != 0) = true := by rw [bne_iff_ne]; omega
        subst hr2
        clear hr hl
        go_enter Tryz.func58, Tryz.ntmps58
        go_wp2
        go_ret
        exact ⟨rfl, rfl⟩
  · have h32' : ¬ ((a.length : Nat) : Int) ≤ 32 := by omega
    have hr2 : r = false := by rw [← hr, decide_eq_false h32, Bool.false_and]
    subst hr2
    obtain ⟨A, c, rfl, -⟩ := h
    go_enter Tryz.func58, Tryz.ntmps58
    go_wp2
    go_ret
    exact ⟨rfl, rfl⟩
theorem vn_nat_of {a : List Nat} (ha : Lb a) (h : vnB a = true) : a = nat (val a) := (nat_val (can_of_vn ha h)).symm
theorem vn_len {a : List Nat} (h : vnB a = true) : a.length ≤ 32 := by
  unfold vnB at h
  simp only [Bool.and_eq_true, decide_eq_true_eq] at h
  exact h.1
set_option maxHeartbeats 4000000 in
theorem c_eValid (s : Bool) (a b : List Nat) (r : Bool) (hr : validB s a b = r) (va vb : Value) (w : World) (ha : Ls w va a) (hb : Ls w vb b) :
    Calls Tryz.prog 19 #[.agg #[.bool s, va, vb]] w fun e w' => e = .returned (.bool r) ∧ Below w.heap.size w w' := by
  obtain ⟨A, ca, rfl, -, -⟩ := ha.nilcap
  obtain ⟨B, cb, rfl, -, -⟩ := hb.nilcap
  obtain ⟨W, hW⟩ : ∃ W, W = w.alloc (.cells #[.bool s, .slice A a.length ca, .slice B b.length cb] 25) := ⟨_, rfl⟩
  have B0 : Below w.heap.size w W := by subst hW; exact (Below.refl _ _).alloc (Nat.le_refl _) _
  have HR := Lib.hid (show Rt W w.heap.size s (.slice A a.length ca) (.slice B b.length cb) by subst hW; exact rt_new' _ _ _ _)
  have HA := Lib.hid (ha.on B0)
  have HB := Lib.hid (hb.on B0)
  have HBW := Lib.hid B0
  have HV1 := Lib.hid (fun (x : Bool) (hx : vnB a = x) => c_eValidNat a ha.2 x hx _ _ W (ha.on B0).1)
  have HV2 := Lib.hid (fun (x : Bool) (hx : vnB b = x) => c_eValidNat b hb.2 x hx _ _ W (hb.on B0).1)
  clear ha hb B0
  obtain ⟨x0, x1, x2⟩ := HR.out.cells
  have HH := Lib.hid hr
  unfold validB at hr
  rcases h1 : vnB a with _ | _
  · have hr2 : r = false := by rw [← hr, h1]; rfl
    have H1 := Lib.hid h1
    subst hr2
    clear hr h1 HH
    go_enter Tryz.func19, Tryz.ntmps19
    go_wp2_with (fail)
    rw [← hW]
    clear hW
    go_at_call 58
    refine (HV1.out false H1.out).mono ?_
    rintro e w1 ⟨rfl, rfl⟩
    go_wp2_with (fail)
    go_ret
    exact ⟨rfl, HBW.out⟩
  · rcases h2 : vnB b with _ | _
    · have hr2 : r = false := by rw [← hr, h1, h2]; rfl
      have H1 := Lib.hid h1
      have H2 := Lib.hid h2
      subst hr2
      clear hr h1 h2 HH
      go_enter Tryz.func19, Tryz.ntmps19
      go_wp2_with (fail)
      rw [← hW]
      clear hW
      go_at_call 58
      refine (HV1.out true H1.out).mono ?_
      rintro e w1 ⟨rfl, rfl⟩
      go_wp2_with (fail)
      go_at_call 58
      refine (HV2.out false H2.out).mono ?_
      rintro e w1 ⟨rfl, rfl⟩
      go_wp2_with (fail)
      go_ret
      exact ⟨rfl, HBW.out⟩
    · have H1 := Lib.hid h1
      have H2 := Lib.hid h2
      have hla := vn_len h1
      have hlb := vn_len h2
      by_cases h3 : 0 < b.length
      · have h3' : ((b.length : Int) == 0) = false := by rw [beq_eq_false_iff_ne]; omega
        by_cases h4 : s = true ∧ a.length = 0
        · obtain ⟨rfl, h4⟩ := h4
          have h4' : ((a.length : Int) == 0) = true := by rw [beq_iff_eq]; omega
          have hr2 : r = false := by rw [← hr, h1, h2, h4]; simp
          subst hr2
          clear hr h1 h2 HH h4
          go_enter Tryz.func19, Tryz.ntmps19
          go_wp2_with (fail)
          rw [← hW]
          clear hW
          go_at_call 58
          refine (HV1.out true H1.out).mono ?_
          rintro e w1 ⟨rfl, rfl⟩
          go_wp2_with (fail)
          go_at_call 58
          refine (HV2.out true H2.out).mono ?_
          rintro e w1 ⟨rfl, rfl⟩
          go_wp2_with (fail)
          go_ret
          exact ⟨rfl, HBW.out⟩
        · have ea := vn_nat_of HA.out.2 h1
          have eb := vn_nat_of HB.out.2 h2
          have hr2 : decide (Nat.gcd (val a) (val b) = 1) = r := by
            rw [← hr, h1, h2, decide_eq_true h3]
            have : (decide (0 < a.length) || !s) = true := by
              cases s
              · simp
              · have : 0 < a.length := Nat.pos_of_ne_zero fun h => h4 ⟨rfl, h⟩
                simp [this]
            rw [this, Bool.and_true]; rfl
          have HG := Lib.hid (c_eGcd (val a) (val b) (Nat.le_trans (Nat.le_of_eq (congrArg List.length ea.symm)) (Nat.le_trans hla (by omega))) (Nat.le_trans (Nat.le_of_eq (congrArg List.length eb.symm)) (Nat.le_trans hlb (by omega))) _ _ W (by rw [← ea]; exact HA.out) (by rw [← eb]; exact HB.out))
          have HRR := Lib.hid hr2
          have hguard : s = false ∨ ((a.length : Int) == 0) = false := by
            cases s
            · exact .inl rfl
            · right; rw [beq_eq_false_iff_ne]; intro h; exact h4 ⟨rfl, by omega⟩
          clear hr h1 h2 HH h4 hr2 ea eb
          rcases hguard with rfl | hg
          all_goals
            go_enter Tryz.func19, Tryz.ntmps19
            go_wp2_with (fail)
            rw [← hW]
            clear hW
            go_at_call 58
            refine (HV1.out true H1.out).mono ?_
            rintro e w1 ⟨rfl, rfl⟩
            go_wp2_with (fail)
            go_at_call 58
            refine (HV2.out true H2.out).mono ?_
            rintro e w1 ⟨rfl, rfl⟩
            go_wp2_with (fail)
            all_goals
              go_at_call 60
              refine HG.out.mono ?_
              rintro e w2 ⟨v2, rfl, g2, b2⟩
              have B3 := Lib.hid ((Below.refl w2.heap.size w2).alloc (Nat.le_refl _) (.cells #[.int .u32 1] 51))
              have HS := Lib.hid (c_eSameNat (nat (Nat.gcd (val a) (val b))) (nat 1) (lb_nat _) (lb_nat _) r (by rw [← HRR.out]; exact decide_eq_decide.2 ⟨fun h => nat_inj h, fun h => by rw [h]⟩) v2 _ _ _ _ (g2.on B3.out).1 (ls_one w2).1)
              have HB2 := Lib.hid (below_join HBW.out b2 HBW.out.size)
              obtain ⟨A2, c2, rfl⟩ := g2.1.shape
              clear g2 b2
              go_wp2_with (fail)
              go_at_call 59
              refine HS.out.mono ?_
              rintro e w4 ⟨rfl, n4, rfl⟩
              go_wp2_with (fail)
              go_ret
              exact ⟨rfl, below_drewN (below_join HB2.out B3.out HB2.out.size) n4⟩
      · have h3' : ((b.length : Int) == 0) = true := by rw [beq_iff_eq]; omega
        have hr2 : r = false := by rw [← hr, h1, h2, decide_eq_false h3]; rfl
        subst hr2
        clear hr h1 h2 HH
        go_enter Tryz.func19, Tryz.ntmps19
        go_wp2_with (fail)
        rw [← hW]
        clear hW
        go_at_call 58
        refine (HV1.out true H1.out).mono ?_
        rintro e w1 ⟨rfl, rfl⟩
        go_wp2_with (fail)
        go_at_call 58
        refine (HV2.out true H2.out).mono ?_
        rintro e w1 ⟨rfl, rfl⟩
        go_wp2_with (fail)
        go_ret
        exact ⟨rfl, HBW.out⟩
end Go.Proofs.YtfdkdloldjfnjaaGreatDoor
