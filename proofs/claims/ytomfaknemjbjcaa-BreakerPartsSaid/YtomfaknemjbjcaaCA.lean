/-
  DERIVED. The law's loads.
-/
import Derived.Test.YtomfaknemjbjcaaBW
import Derived.Test.YtomfaknemjbjcaaBZ
import Derived.Test.YtomfaknemjbjcaaBT
namespace Go.Proofs.Ytomfaknemjbjcaa
open Go.RowKit
set_option maxRecDepth 100000

/-- loads' answer. -/
def ldL (l : List Nat) : List Int := (l.take 30).map fun x : Nat => (x : Int)
theorem ldL_len (l : List Nat) : (ldL l).length ≤ 30 := by unfold ldL; rw [List.length_map, List.length_take]; omega
theorem U8Sl.at_ {w : World} {v : Value} {l : List Nat} (h : U8Sl w v l) {k : Nat} {x : Nat} (hk : l[k]? = some x) : ∃ b o c, v = .slice (some ⟨b, o, none⟩) l.length c ∧ b < w.heap.size ∧ x ≤ 255 ∧ w.cell? ⟨b, o + k, none⟩ = some (.int .u8 (x : Int)) := by
  obtain ⟨A, c, h1, h2, h3, -, h5, h4⟩ := h
  have hl := (List.getElem?_eq_some_iff.1 hk).1
  obtain ⟨b, o, rfl, hlt, hc⟩ := h4 (by omega)
  exact ⟨b, o, c, h1, hlt, h5 x (List.mem_of_getElem? hk), hc k x hk⟩
theorem U8Sl.shape {w : World} {v : Value} {l : List Nat} (h : U8Sl w v l) : ∃ A c, v = .slice A l.length c ∧ l.length ≤ c ∧ c ≤ maxLen := by
  obtain ⟨A, c, h1, h2, h3, -⟩ := h
  exact ⟨A, c, h1, h2, h3⟩
theorem U8Sl.on {w w' : World} {v : Value} {l : List Nat} {B : Nat} (h : U8Sl w v l) (hb : Below B w w') (hB : w.heap.size ≤ B) : U8Sl w' v l := by
  obtain ⟨A, c, h1, h2, h3, h5, h6, h4⟩ := h
  refine ⟨A, c, h1, h2, h3, h5, h6, fun h0 => ?_⟩
  obtain ⟨b, o, e, hlt, hc⟩ := h4 h0
  exact ⟨b, o, e, Nat.lt_of_lt_of_le hlt hb.size, fun j x hj => (hb.cell (p := ⟨b, o + j, none⟩) (by show b < B; omega)).trans (hc j x hj)⟩
theorem one_add {W : World} {b : Nat} {x : Value} {T : TypeId} (hb : W.heap[b]? = some (.cells #[x] T (0, 0))) (j : Nat) (u : Value) (hj : [x][j]? = some u) : W.cell? ((⟨b, 0, none⟩ : Addr).add j) = some u := by
  match j, hj with
  | 0, hj => simp at hj; subst hj; exact one_cell hb
def LdRel (w : World) (l : List Nat) (v i : Value) (wr : World) : Prop :=
  ∃ k : Nat, i = .int .i64 (k : Int) ∧ k ≤ l.length ∧ k ≤ 30 ∧ wr.ownsRow w.heap.size 3 1 v k (ints ((l.take k).map fun x : Nat => (x : Int))) ∧ Hid (Below w.heap.size w wr)
set_option maxHeartbeats 4000000 in
theorem c_loads (l : List Nat) (v : Value) (w : World) (h : U8Sl w v l) : Calls Try.prog 33 #[v] w fun e w' => ∃ v', e = .returned v' ∧ w'.ownsRow w.heap.size 3 1 v' (ldL l).length (ints (ldL l)) ∧ Below w.heap.size w w' := by
  have H := Lib.hid h
  obtain ⟨A, c, rfl, h2, h3⟩ := h.shape
  unfold maxLen at h3
  obtain ⟨i0, hi0, hz0, hz1, hz2⟩ := info_parts int_info
  clear h
  go_enter Try.func33, Try.ntmps33
  go_wp2_with (fail)
  go_loopw [3, 4] (fun v i wr => LdRel w l v i wr) (fun _ i _ => l.length - (intOf i).toNat)
  case atStart => exact ⟨0, rfl, Nat.zero_le _, Nat.zero_le _, World.ownsRow_nil _ _ _ _, Lib.hid (Below.refl _ _)⟩
  case round =>
    obtain ⟨k, rfl, hk, hk30, hown, hB⟩ := hrel
    by_cases hlt : k < l.length
    · have d1 : decide ((k : Int) < ((l.length : Nat) : Int)) = true := decide_eq_true (by omega)
      by_cases hlt2 : k < 30
      · obtain ⟨x, hx⟩ : ∃ x, l[k]? = some x := ⟨_, List.getElem?_eq_getElem hlt⟩
        obtain ⟨b, o, c', e, hbl, hx255, hc0⟩ := H.out.at_ hx
        injection e with e1 _ e2
        subst e1 e2
        have hcell := (hB.out.cell (p := ⟨b, o + k, none⟩) hbl).trans hc0
        have HX := Lib.hid hx
        have hki : ((k : Nat) : Int).toNat = k := by omega
        have hlt' : (k : Int) < ((l.length : Nat) : Int) := by omega
        clear hx hc0
        go_wp2_with (at_builtin; refine wpList_append_own _ rfl _ _ 26 rfl w.heap.size 3 i0 (.int .i64 0) 1 8 Try.underlying26 hi0 hz0 hz1 hz2 rfl (by omega) _ _ _ rfl (hown.alloc _) ⟨wr.heap.size, 0, none⟩ 1 1 [.int .i64 (x : Int)] rfl rfl (one_add (heap_alloc_new _ _)) (by simp [Value.oneCell']) (by unfold maxLen; omega) (by omega) (by have := hB.out.size; simp; omega) ?_)
        intro v2 w2 hown2 hgrow _
        have R := Lib.hid (show LdRel w l v2 (.int .i64 ((k : Int) + 1)) w2 from ⟨k + 1, by go_num, by omega, by omega, by
          rw [List.take_add_one, HX.out, List.map_append]
          simpa [ints] using hown2, Lib.hid ((hB.out.alloc hB.out.size _).grown hgrow (by have := hB.out.size; simp; omega) (fun g hg => (hown.lt g hg).1))⟩)
        clear hown hown2 hgrow
        go_wp2
        go_roundw
        case rel => exact R.out
        case measure => simp only [intOf]; omega
      · obtain rfl : k = 30 := by omega
        have hL : ldL l = (l.take 30).map fun x : Nat => (x : Int) := rfl
        have HO := Lib.hid (show wr.ownsRow w.heap.size 3 1 _ (ldL l).length (ints (ldL l)) by rw [hL, List.length_map, List.length_take, Nat.min_eq_left hk]; exact hown)
        clear hown
        go_wp2_with (fail)
        go_ret
        exact ⟨_, rfl, HO.out, hB.out⟩
    · obtain rfl : k = l.length := by omega
      have d1 : decide (((l.length : Nat) : Int) < ((l.length : Nat) : Int)) = false := decide_eq_false (by omega)
      have hL : ldL l = (l.take l.length).map fun x : Nat => (x : Int) := by unfold ldL; rw [List.take_of_length_le hk30, List.take_of_length_le (Nat.le_refl _)]
      have HO := Lib.hid (show wr.ownsRow w.heap.size 3 1 _ (ldL l).length (ints (ldL l)) by rw [hL, List.length_map, List.length_take, Nat.min_self]; exact hown)
      clear hown
      go_wp2_with (fail)
      go_ret
      exact ⟨_, rfl, HO.out, hB.out⟩
end Go.Proofs.Ytomfaknemjbjcaa
