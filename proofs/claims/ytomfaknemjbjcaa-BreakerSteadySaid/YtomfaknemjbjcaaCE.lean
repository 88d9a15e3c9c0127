/-
  DERIVED. slices.IndexFunc of states; the law's two closures.
-/
import Derived.Test.YtomfaknemjbjcaaBQ
import Derived.Test.YtomfaknemjbjcaaBV
namespace Go.Proofs.Ytomfaknemjbjcaa
open Go.RowKit
set_option maxRecDepth 100000

/-- The first place where p holds. -/
def fidx (p : Int × Bool → Bool) : List (Int × Bool) → Option Nat
  | [] => none
  | x :: l => if p x = true then some 0 else (fidx p l).map (· + 1)
theorem fidx_some (p : Int × Bool → Bool) : ∀ (l : List (Int × Bool)) (k : Nat) (x : Int × Bool), (∀ i y, i < k → l[i]? = some y → p y = false) → l[k]? = some x → p x = true → fidx p l = some k := by
  intro l
  induction l with
  | nil => intro k x _ h; simp at h
  | cons y l ih =>
    intro k x h1 h2 h3
    unfold fidx
    cases k with
    | zero => simp at h2; subst h2; rw [if_pos h3]
    | succ k =>
      have h0 := h1 0 y (by omega) rfl
      rw [if_neg (by simp [h0]), ih k x (fun i z hi hz => h1 (i + 1) z (by omega) (by simpa using hz)) (by simpa using h2) h3]
      rfl
theorem fidx_none (p : Int × Bool → Bool) : ∀ (l : List (Int × Bool)), (∀ (i : Nat) (y : Int × Bool), l[i]? = some y → p y = false) → fidx p l = none := by
  intro l
  induction l with
  | nil => intro _; rfl
  | cons y l ih =>
    intro h1
    have h0 := h1 0 y rfl
    unfold fidx
    rw [if_neg (by simp [h0]), ih (fun i z hz => h1 (i + 1) z (by simpa using hz))]
    rfl
set_option maxHeartbeats 2000000 in
theorem c_steady1 (x : Int × Bool) (w : World) : Calls Try.prog 31 #[stV x] w fun e w' => e = .returned (.bool x.2) ∧ Below w.heap.size w w' := by
  obtain ⟨a, t⟩ := x
  unfold stV
  go_enter Try.func31, Try.ntmps31
  go_wp2
  go_ret
  exact ⟨rfl, (Below.refl _ _).alloc (Nat.le_refl _) _⟩
def coldB (x : Int × Bool) : Bool := (x.1 == 0) && !x.2
set_option maxHeartbeats 2000000 in
theorem c_steady2 (x : Int × Bool) (w : World) : Calls Try.prog 32 #[stV x] w fun e w' => e = .returned (.bool (coldB x)) ∧ Below w.heap.size w w' := by
  obtain ⟨a, t⟩ := x
  unfold stV coldB
  rcases h : (a == 0) with _ | _
  · go_enter Try.func32, Try.ntmps32
    go_wp2
    go_ret
    exact ⟨by simp, (Below.refl _ _).alloc (Nat.le_refl _) _⟩
  · go_enter Try.func32, Try.ntmps32
    go_wp2
    go_ret
    exact ⟨by simp, (Below.refl _ _).alloc (Nat.le_refl _) _⟩
set_option maxHeartbeats 4000000 in
theorem c_IndexFunc (g : Nat) (p : Int × Bool → Bool) (eg : ∀ args w, (callFunc g args).run Try.prog w = .ok (.enter g args) w) (hf : ∀ (x : Int × Bool) (X : World), Calls Try.prog g #[stV x] X fun e w' => e = .returned (.bool (p x)) ∧ Below X.heap.size X w')
    (l : List (Int × Bool)) (v : Value) (w : World) (h : StSl w v l) (y : Int) (hy : optI (fidx p l) = y) : Calls Try.prog 30 #[v, .func (.func g) #[] #[]] w fun e w' => e = .returned (.int .i64 y) ∧ Below w.heap.size w w' := by
  have H := Lib.hid h
  have HF := Lib.hid hf
  have HY := Lib.hid hy
  obtain ⟨A, c, rfl, hc1, hc2⟩ := h.shape
  unfold maxLen at hc2
  clear h hf hy
  go_enter Try.func30, Try.ntmps30
  go_wp2_with (fail)
  go_loopw [8] (fun i wr => ∃ k : Nat, k ≤ l.length ∧ i = .int .i64 (k : Int) ∧ Hid (∀ i y, i < k → l[i]? = some y → p y = false) ∧ Hid (Below w.heap.size w wr)) (fun i _ => l.length - (intOf i).toNat)
  case atStart => exact ⟨0, Nat.zero_le _, rfl, Lib.hid (fun i y hi => absurd hi (by omega)), Lib.hid (Below.refl _ _)⟩
  case round =>
    obtain ⟨k, hk, rfl, hun, hB⟩ := hrel
    by_cases hlt : k < l.length
    · obtain ⟨x, hx⟩ : ∃ x, l[k]? = some x := ⟨_, List.getElem?_eq_getElem hlt⟩
      obtain ⟨b, o, c', e, hb, -, -, q1, q2⟩ := H.out.at_ hx
      injection e with e1 _ e2
      subst e1 e2
      have p1 := (hB.out.cell (p := ⟨b, o + k * 2, none⟩) hb).trans q1
      have p2 := (hB.out.cell (p := ⟨b, o + k * 2 + 1, none⟩) hb).trans q2
      have HX := Lib.hid hx
      have hki : ((k : Nat) : Int).toNat = k := by omega
      have hlt' : (k : Int) < ((l.length : Nat) : Int) := by omega
      have HC := Lib.hid (HF.out x wr)
      clear hx q1 q2
      obtain ⟨xa, xb⟩ := x
      unfold stV at HC
      rcases hp : p (xa, xb) with _ | _
      · have HP := Lib.hid hp
        rw [hp] at HC
        clear hp
        go_wp2_with (go_at_fn g; refine HC.out.mono ?_; rintro e w1 ⟨rfl, b1⟩; have HB1 := Lib.hid (below_join hB.out b1 hB.out.size); clear b1 p1 p2)
        go_roundw
        case rel => exact ⟨k + 1, by omega, by go_num, Lib.hid (fun i y hi hy => by
          rcases Nat.lt_or_ge i k with h | h
          · exact hun.out i y h hy
          · obtain rfl : i = k := by omega
            have := HX.out
            rw [hy] at this
            injection this with this
            subst this
            exact HP.out), HB1⟩
        case measure => simp only [intOf]; omega
      · have HK := Lib.hid (show (k : Int) = y by rw [← HY.out, fidx_some p l k _ hun.out HX.out hp]; rfl)
        rw [hp] at HC
        clear hp
        go_wp2_with (go_at_fn g; refine HC.out.mono ?_; rintro e w1 ⟨rfl, b1⟩; have HB1 := Lib.hid (below_join hB.out b1 hB.out.size); clear b1 p1 p2)
        go_ret
        exact ⟨(show Ending.returned (.int .i64 (k : Int)) = .returned (.int .i64 y) by rw [HK.out]), HB1.out⟩
    · obtain rfl : k = l.length := by omega
      have HK := Lib.hid (show (-1 : Int) = y by rw [← HY.out, fidx_none p l (fun i y hy => hun.out i y (List.getElem?_eq_some_iff.1 hy).1 hy)]; rfl)
      go_wp2_with (fail)
      go_ret
      exact ⟨(show Ending.returned (.int .i64 (-1)) = .returned (.int .i64 y) by rw [HK.out]), hB.out⟩
end Go.Proofs.Ytomfaknemjbjcaa
