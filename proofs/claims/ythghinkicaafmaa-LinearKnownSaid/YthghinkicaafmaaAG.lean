/-
  DERIVED. The reference's Valid (stage 6).
-/
import Derived.Test.YthghinkicaafmaaAF
namespace Go.Proofs.Ythghinkicaafmaa
open Go.RowKit
set_option maxRecDepth 100000

theorem lnOk_bad {C : Int} {ps : List (Int × Int × Int)} {k : Nat} {p : Int × Int × Int} (h : ps[k]? = some p) (hp : ptOk p = false) : lnOk C ps = false := by
  have : ps.all ptOk = false := by
    rw [List.all_eq_false]
    exact ⟨p, List.mem_of_getElem? h, by rw [hp]; simp⟩
  unfold lnOk
  rw [this]; simp
theorem all_take_succ {α : Type} {f : α → Bool} {l : List α} {k : Nat} {x : α} (h : (l.take k).all f = true) (hx : l[k]? = some x) (hf : f x = true) : (l.take (k + 1)).all f = true := by
  obtain ⟨hk, e⟩ := List.getElem?_eq_some_iff.1 hx
  rw [List.take_succ_eq_append_getElem hk, List.all_append, h, e]
  simp [hf]
set_option maxHeartbeats 8000000 in
theorem d_Valid (C : Int) (ps : List (Int × Int × Int)) (P : Value) (w : World) (hP : PtSl w P ps) (r : Bool) (hr : lnOk C ps = r) :
    Calls Try.prog 17 #[lnV C P] w fun e w' => e = .returned (.bool r) ∧ Below w.heap.size w w' := by
  unfold lnV
  obtain ⟨A, c, rfl, hc1, hc2⟩ := hP.shape
  unfold maxLen at hc2
  obtain ⟨W, hW⟩ : ∃ W, W = w.alloc (.cells #[.int .i64 C, .slice A ps.length c] 24) := ⟨_, rfl⟩
  have B0 : Below w.heap.size w W := by subst hW; exact (Below.refl _ _).alloc (Nat.le_refl _) _
  have HB := Lib.hid B0
  have HP := Lib.hid (hP.on B0 (Nat.le_refl _))
  have HR := Lib.hid hr
  clear hP B0 hr
  by_cases hg : 0 ≤ C ∧ C ≤ 100000000 ∧ ps.length ≤ 16
  · obtain ⟨g1, g2, g3⟩ := hg
    go_enter Try.func17, Try.ntmps17
    go_wp2_with (fail)
    rw [← hW]
    clear hW
    go_loopw [22] (fun i wr => ∃ k : Nat, k ≤ ps.length ∧ i = .int .i64 (k : Int) ∧ Hid ((ps.take k).all ptOk = true) ∧ Hid (Below W.heap.size W wr)) (fun i _ => ps.length - (intOf i).toNat)
    case atStart => exact ⟨0, Nat.zero_le _, rfl, Lib.hid rfl, Lib.hid (Below.refl _ _)⟩
    case round =>
      obtain ⟨k, hk, rfl, hA, hB⟩ := hrel
      have hki : ((k : Nat) : Int).toNat = k := by omega
      by_cases hlt : k < ps.length
      · obtain ⟨⟨s, m, d⟩, hx⟩ : ∃ p, ps[k]? = some p := ⟨_, List.getElem?_eq_getElem hlt⟩
        obtain ⟨b, o, c', e, hb, -, -, q0, q1, q2⟩ := HP.out.at_ hx
        injection e with e1 e2 e3
        clear e2
        subst e1 e3
        have y0 := (hB.out.cell (p := ⟨b, o + k * 3, none⟩) hb).trans q0
        have y1 := (hB.out.cell (p := ⟨b, o + k * 3 + 1, none⟩) hb).trans q1
        have y2 := (hB.out.cell (p := ⟨b, o + k * 3 + 2, none⟩) hb).trans q2
        have HX := Lib.hid (hB.out.alloc hB.out.size (.cells #[.int .i64 s, .int .i64 m, .int .i64 d] 41))
        by_cases hok : 0 ≤ s ∧ s ≤ 15 ∧ 0 ≤ m ∧ m ≤ 1000 ∧ 0 ≤ d ∧ d ≤ 1000
        · have HN := Lib.hid (all_take_succ hA.out hx (ptOk_iff.2 hok))
          obtain ⟨h1, h2, h3, h4, h5, h6⟩ := hok
          have h2' : s < 16 := by omega
          clear hx q0 q1 q2 hb
          go_wp2_with (fail)
          go_roundw
          case rel => exact ⟨k + 1, by omega, by go_num, HN, HX⟩
          case measure => simp only [intOf]; omega
        · have hrr : r = false := by
            rw [← HR.out]
            refine lnOk_bad hx ?_
            rw [← Bool.not_eq_true, ptOk_iff]
            exact hok
          subst hrr
          have HOK := Lib.hid hok
          clear hx q0 q1 q2 hb hok
          go_wp2_with (fail)
          all_goals first
            | (go_ret; exact ⟨rfl, below_join HB.out HX.out HB.out.size⟩)
            | (exfalso; have := HOK.out; omega)
      · obtain rfl : k = ps.length := by omega
        have hrr : r = true := by
          rw [← HR.out]
          have := hA.out
          rw [List.take_length] at this
          unfold lnOk
          rw [this, decide_eq_true g1, decide_eq_true g2, decide_eq_true g3]; rfl
        subst hrr
        go_wp2_with (fail)
        go_ret
        exact ⟨rfl, below_join HB.out hB.out HB.out.size⟩
  · have hrr : r = false := by
      rw [← HR.out, ← Bool.not_eq_true]
      unfold lnOk
      simp only [Bool.and_eq_true, decide_eq_true_eq]
      exact fun h => hg ⟨h.1.1, h.1.2, h.2.1⟩
    subst hrr
    have HG := Lib.hid hg
    clear hg
    go_enter Try.func17, Try.ntmps17
    go_wp2_with (fail)
    all_goals first
      | (go_ret; exact ⟨rfl, (Below.refl _ _).alloc (Nat.le_refl _) _⟩)
      | (exfalso; have := HG.out; omega)
end Go.Proofs.Ythghinkicaafmaa
