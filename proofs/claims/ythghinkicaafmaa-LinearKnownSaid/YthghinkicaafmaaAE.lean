/-
  DERIVED. given, of the program and of the reference (stage 6).
-/
import Derived.Test.YthghinkicaafmaaAD
namespace Go.Proofs.Ythghinkicaafmaa
open Go.RowKit
set_option maxRecDepth 100000

theorem drew_below {w w1 : World} {B : Nat} (h : Below B w w1) {w2 : World} (k : ∃ n, w2 = w1.drewN n) : Below B w w2 := by
  obtain ⟨n, rfl⟩ := k
  exact ⟨h.os, h.tape, h.output, h.size, h.block⟩
theorem calm_more {P : Program} {f : FuncId} {args : Array Value} {w : World} {a n : Nat} {v : Value} (h : ∀ W, Calls P f args W fun e w' => e = .returned v ∧ W = w') :
    Calls P f args (w.drewN (a + n)) fun e w'' => e = .returned v ∧ ∃ m, w'' = w.drewN (a + m) := (h _).mono fun _ _ ⟨he, hm⟩ => ⟨he, n, hm.symm⟩
theorem calm_once {P : Program} {f : FuncId} {args : Array Value} {w : World} {n : Nat} {v : Value} (h : ∀ k, Calls P f args (w.drewN k) fun e w' => e = .returned v ∧ w.drewN k = w') :
    Calls P f args (w.drewN n) fun e w'' => e = .returned v ∧ ∃ m, w'' = w.drewN m := (h _).mono fun _ _ ⟨he, hm⟩ => ⟨he, n, hm.symm⟩
set_option maxHeartbeats 4000000 in
theorem c_given (k : Nat) (t : Int) (hk : k ≤ 100) (ins : List (List Int)) (v : Value) (w : World) (hv : LiSl w v ins) (r : Int) (hr : giv ins (k : Int) t = r) :
    Calls Try.prog 46 #[v, .int .i64 (k : Int), .int .i64 t] w fun e w' => e = .returned (.int .i64 r) ∧ w = w' := by
  have HV := Lib.hid hv
  obtain ⟨A, c, rfl, hc1, hc2⟩ := hv.shape
  unfold maxLen at hc2
  clear hv
  have hki : ((k : Nat) : Int).toNat = k := by omega
  unfold giv at hr
  rw [hki] at hr
  by_cases h1 : k < ins.length
  · have h1' : (k : Int) < ((ins.length : Nat) : Int) := by omega
    obtain ⟨l, hl⟩ : ∃ l, ins[k]? = some l := ⟨_, List.getElem?_eq_getElem h1⟩
    obtain ⟨b, o, c', u, e, -, -, -, hu, hL⟩ := HV.out.at_ hl
    injection e with e1 _ e2
    subst e1 e2
    rw [hl] at hr
    have HL := Lib.hid hL
    obtain ⟨A2, d, rfl, hd1, hd2⟩ := hL.shape
    unfold maxLen at hd2
    clear hL hl
    by_cases h2 : t < 0
    · rw [if_pos h2] at hr
      obtain rfl : (0 : Int) = r := hr
      go_enter Try.func46, Try.ntmps46
      go_wp2_with (fail)
      go_ret
      exact ⟨rfl, rfl⟩
    · rw [if_neg h2] at hr
      have h2' : 0 ≤ t := by omega
      by_cases h3 : t < ((l.length : Nat) : Int)
      · obtain ⟨x, hx⟩ : ∃ x, l[t.toNat]? = some x := ⟨_, List.getElem?_eq_getElem (by omega)⟩
        obtain ⟨b2, o2, d', e, -, -, -, hcx⟩ := HL.out.at_ hx
        injection e with e1 _ e2
        subst e1 e2
        have hr' : (l[t.toNat]?).getD 0 = r := hr
        rw [hx] at hr'
        obtain rfl : x = r := hr'
        clear hr hx
        go_enter Try.func46, Try.ntmps46
        go_wp2_with (fail)
        go_ret
        exact ⟨rfl, rfl⟩
      · have h3' : ((l.length : Nat) : Int) ≤ t := by omega
        have hr' : (l[t.toNat]?).getD 0 = r := hr
        rw [List.getElem?_eq_none (by omega)] at hr'
        obtain rfl : (0 : Int) = r := hr'
        clear hr h3
        go_enter Try.func46, Try.ntmps46
        go_wp2_with (fail)
        go_ret
        exact ⟨rfl, rfl⟩
  · have h1' : ((ins.length : Nat) : Int) ≤ (k : Int) := by omega
    have hr' : r = 0 := by
      rw [← hr]
      split
      · rfl
      · rw [List.getElem?_eq_none (by omega)]; rfl
    subst hr'
    clear hr h1
    go_enter Try.func46, Try.ntmps46
    go_wp2_with (fail)
    go_ret
    exact ⟨rfl, rfl⟩
set_option maxHeartbeats 4000000 in
theorem d_given (k : Nat) (t : Int) (hk : k ≤ 100) (ins : List (List Int)) (v : Value) (w : World) (hv : LiSl w v ins) (r : Int) (hr : giv ins (k : Int) t = r) :
    Calls Try.prog 47 #[v, .int .i64 (k : Int), .int .i64 t] w fun e w' => e = .returned (.int .i64 r) ∧ w = w' := by
  have HV := Lib.hid hv
  obtain ⟨A, c, rfl, hc1, hc2⟩ := hv.shape
  unfold maxLen at hc2
  clear hv
  have hki : ((k : Nat) : Int).toNat = k := by omega
  unfold giv at hr
  rw [hki] at hr
  by_cases h1 : k < ins.length
  · have h1' : (k : Int) < ((ins.length : Nat) : Int) := by omega
    obtain ⟨l, hl⟩ : ∃ l, ins[k]? = some l := ⟨_, List.getElem?_eq_getElem h1⟩
    obtain ⟨b, o, c', u, e, -, -, -, hu, hL⟩ := HV.out.at_ hl
    injection e with e1 _ e2
    subst e1 e2
    rw [hl] at hr
    have HL := Lib.hid hL
    obtain ⟨A2, d, rfl, hd1, hd2⟩ := hL.shape
    unfold maxLen at hd2
    clear hL hl
    by_cases h2 : t < 0
    · rw [if_pos h2] at hr
      obtain rfl : (0 : Int) = r := hr
      go_enter Try.func47, Try.ntmps47
      go_wp2_with (fail)
      go_ret
      exact ⟨rfl, rfl⟩
    · rw [if_neg h2] at hr
      have h2' : 0 ≤ t := by omega
      by_cases h3 : t < ((l.length : Nat) : Int)
      · obtain ⟨x, hx⟩ : ∃ x, l[t.toNat]? = some x := ⟨_, List.getElem?_eq_getElem (by omega)⟩
        obtain ⟨b2, o2, d', e, -, -, -, hcx⟩ := HL.out.at_ hx
        injection e with e1 _ e2
        subst e1 e2
        have hr' : (l[t.toNat]?).getD 0 = r := hr
        rw [hx] at hr'
        obtain rfl : x = r := hr'
        clear hr hx
        go_enter Try.func47, Try.ntmps47
        go_wp2_with (fail)
        go_ret
        exact ⟨rfl, rfl⟩
      · have h3' : ((l.length : Nat) : Int) ≤ t := by omega
        have hr' : (l[t.toNat]?).getD 0 = r := hr
        rw [List.getElem?_eq_none (by omega)] at hr'
        obtain rfl : (0 : Int) = r := hr'
        clear hr h3
        go_enter Try.func47, Try.ntmps47
        go_wp2_with (fail)
        go_ret
        exact ⟨rfl, rfl⟩
  · have h1' : ((ins.length : Nat) : Int) ≤ (k : Int) := by omega
    have hr' : r = 0 := by
      rw [← hr]
      split
      · rfl
      · rw [List.getElem?_eq_none (by omega)]; rfl
    subst hr'
    clear hr h1
    go_enter Try.func47, Try.ntmps47
    go_wp2_with (fail)
    go_ret
    exact ⟨rfl, rfl⟩
end Go.Proofs.Ythghinkicaafmaa
