/-
  DERIVED. The law SyntaxFixed, over what its calls do.
-/
import Derived.Test.YtfpcdgmdangmaaaDoorYPMm
import Derived.Test.YtfpcdgmdangmaaaDoorYSAm
set_option linter.unusedVariables false
set_option linter.unusedSimpArgs false
namespace Go.Proofs.YtfpcdgmdangmaaaDoor
open Go.RowKit
set_option maxRecDepth 100000

def XPa (s : ByteArray) (r : List Cl × Int × Int) (W : World) : Prop := Calls Tryd.prog 5 #[.string s] W fun e w' => ∃ v, e = .returned (.tuple #[v, .int .i64 r.2.1, .int .i64 r.2.2]) ∧ ClSl w' (Btw W.heap.size w'.heap.size) v r.1 ∧ Below W.heap.size W w'
def XPr (w : World) (l : List Cl) (r : ByteArray × Int) : Prop := ∀ (W : World) (v : Value) (ok : Nat → Prop), Below w.heap.size w W → ClSl W ok v l → Calls Tryd.prog 7 #[v] W fun e w' => e = .returned (.tuple #[.string r.1, .int .i64 r.2]) ∧ Below W.heap.size W w'
def XFo (w : World) (l : List Cl) : Prop := ∀ (W : World) (v : Value) (ok : Nat → Prop), Below w.heap.size w W → ClSl W ok v l → Calls Tryd.prog 8 #[v] W fun e w' => e = .returned (.bool true) ∧ Below W.heap.size W w'
def XSm (w : World) (l m : List Cl) : Prop := ∀ (W : World) (v u : Value) (ok ok' : Nat → Prop), Below w.heap.size w W → ClSl W ok v l → ClSl W ok' u m → Calls Tryd.prog 9 #[v, u] W fun e w' => e = .returned (.bool true) ∧ Below W.heap.size W w'
def XAw (w : World) : Prop := ∀ W : World, Below w.heap.size w W → Calls Tryd.prog 6 #[] W fun e w' => e = .returned (.bool true) ∧ Below W.heap.size W w'

set_option maxHeartbeats 8000000 in
theorem fixed_err (s : ByteArray) (hs : s.size ≤ maxLen) (at_ er : Int) (he : (er != 0) = true) (h0 : 0 ≤ at_) (h1 : at_ ≤ max (s.size : Int) 4096) (w : World) (HA : Hid (∀ W, XPa s ([], at_, er) W)) (HW : Hid (XAw w)) :
    Calls Tryd.prog 3 #[.string s] w fun e w' => e = .returned (.bool true) ∧ Below w.heap.size w w' := by
  unfold maxLen at hs
  go_enter Tryd.func3, Tryd.ntmps3
  go_wp2_with (fail)
  refine (HA.out _).mono ?_
  rintro e w1 ⟨v1, rfl, hc1, bb1⟩
  obtain ⟨A1, c1, rfl, -⟩ := hc1
  dsimp only [List.length_nil]
  have B1 := Lib.hid bb1
  clear bb1
  go_wp2_with (go_at_call 6; refine (HW.out _ B1.out).mono ?_; rintro e w5 ⟨rfl, bb5⟩)
  all_goals
    go_ret
    have z1 := B1.out.size
    exact ⟨rfl, B1.out.trans (bb5.mono z1)⟩

set_option maxHeartbeats 8000000 in
theorem fixed_limit (s : ByteArray) (l : List Cl) (w : World) (HA : Hid (∀ W, XPa s (l, 0, 0) W)) (HP : Hid (XPr w l (⟨#[]⟩, 3))) (HF : Hid (XFo w l)) (HW : Hid (XAw w)) :
    Calls Tryd.prog 3 #[.string s] w fun e w' => e = .returned (.bool true) ∧ Below w.heap.size w w' := by
  go_enter Tryd.func3, Tryd.ntmps3
  go_wp2_with (fail)
  refine (HA.out _).mono ?_
  rintro e w1 ⟨v1, rfl, hc1, bb1⟩
  obtain ⟨A1, m1, p1, rfl⟩ := hc1.shape
  have H1 := Lib.hid hc1
  have B1 := Lib.hid bb1
  clear bb1 hc1
  go_wp2_with (first | (go_at_call 7; refine (HP.out _ _ _ B1.out H1.out).mono ?_; rintro e w2 ⟨rfl, bb2⟩; have B2 := Lib.hid bb2; clear bb2) | (go_at_call 8; refine (HF.out _ _ _ (by exact B1.out.trans (B2.out.mono B1.out.size)) (by exact H1.out.below B2.out)).mono ?_; rintro e w3 ⟨rfl, bb3⟩; have B3 := Lib.hid bb3; clear bb3) | (go_at_call 6; refine (HW.out _ (by exact B1.out.trans ((B2.out.mono B1.out.size).trans (B3.out.mono (Nat.le_trans B1.out.size B2.out.size))))).mono ?_; rintro e w5 ⟨rfl, bb5⟩))
  trace_state
  go_ret
  have z1 := B1.out.size
  have z2 := B2.out.size
  have z3 := B3.out.size
  exact ⟨rfl, B1.out.trans ((B2.out.mono z1).trans ((B3.out.mono (by omega)).trans (bb5.mono (by omega))))⟩

set_option maxHeartbeats 8000000 in
theorem fixed_ok (s t : ByteArray) (l m : List Cl) (w : World) (HA : Hid (∀ W, XPa s (l, 0, 0) W)) (HP : Hid (XPr w l (t, 0))) (HB : Hid (∀ W, XPa t (m, 0, 0) W)) (HQ : Hid (XPr w m (t, 0))) (HS : Hid (XSm w l m)) (HW : Hid (XAw w)) :
    Calls Tryd.prog 3 #[.string s] w fun e w' => e = .returned (.bool true) ∧ Below w.heap.size w w' := by
  go_enter Tryd.func3, Tryd.ntmps3
  go_wp2_with (fail)
  refine (HA.out _).mono ?_
  rintro e w1 ⟨v1, rfl, hc1, bb1⟩
  obtain ⟨A1, m1, p1, rfl⟩ := hc1.shape
  have H1 := Lib.hid hc1
  have B1 := Lib.hid bb1
  clear bb1 hc1
  go_wp2_with (fail)
  refine (HP.out _ _ _ B1.out H1.out).mono ?_
  rintro e w2 ⟨rfl, bb2⟩
  have B2 := Lib.hid bb2
  clear bb2
  go_wp2_with (fail)
  refine (HB.out _).mono ?_
  rintro e w3 ⟨v3, rfl, hc3, bb3⟩
  obtain ⟨A3, m3, p3, rfl⟩ := hc3.shape
  have H3 := Lib.hid hc3
  have B3 := Lib.hid bb3
  clear bb3 hc3
  have z1 := B1.out.size
  have z2 := B2.out.size
  have z3 := B3.out.size
  go_wp2_with (fail)
  refine (HQ.out _ _ _ (by exact B1.out.trans ((B2.out.mono z1).trans (B3.out.mono (by omega)))) H3.out).mono ?_
  rintro e w4 ⟨rfl, bb4⟩
  have B4 := Lib.hid bb4
  have z4 := bb4.size
  clear bb4
  go_wp2_with (fail)
  refine (HS.out _ _ _ _ _ (by exact B1.out.trans ((B2.out.mono z1).trans ((B3.out.mono (by omega)).trans (B4.out.mono (by omega))))) (by exact ((H1.out.below B2.out).below B3.out).below B4.out) (by exact H3.out.below B4.out)).mono ?_
  rintro e w5 ⟨rfl, bb5⟩
  have B5 := Lib.hid bb5
  have z5 := bb5.size
  clear bb5
  go_wp2_with (go_at_call 6; refine (HW.out _ (by exact B1.out.trans ((B2.out.mono z1).trans ((B3.out.mono (by omega)).trans ((B4.out.mono (by omega)).trans (B5.out.mono (by omega))))))).mono ?_; rintro e w6 ⟨rfl, bb6⟩)
  go_ret
  exact ⟨rfl, B1.out.trans ((B2.out.mono z1).trans ((B3.out.mono (by omega)).trans ((B4.out.mono (by omega)).trans ((B5.out.mono (by omega)).trans (bb6.mono (by omega))))))⟩
end Go.Proofs.YtfpcdgmdangmaaaDoor
