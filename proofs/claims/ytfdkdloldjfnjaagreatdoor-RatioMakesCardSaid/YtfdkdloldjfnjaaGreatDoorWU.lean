/-
  DERIVED. The law RatioMakes, at every argument.
-/
import Derived.Test.YtfdkdloldjfnjaaGreatDoorWT
import Derived.Test.YtfdkdloldjfnjaaGreatDoorUT
set_option linter.unusedVariables false
set_option linter.unusedSimpArgs false
namespace Go.Proofs.YtfdkdloldjfnjaaGreatDoor
open Go.RowKit Go.Shelf
set_option maxRecDepth 100000

theorem res_of_rat {q : Rat} {Z : Int} {w : World} {e : Ending} {w' : World} (h : RatPost q w e w') : ResPost (some (qneg q, q.num.natAbs, q.den)) Z w e w' := by
  obtain ⟨v, rfl, hv, hb⟩ := h
  refine ⟨v, 0, rfl, hb, fun h => (by cases h), fun s n d h => ?_⟩
  injection h with h
  injection h with h1 h2
  injection h2 with h2 h3
  subst h1 h2 h3
  exact ⟨hv.1, rfl⟩
theorem e_ReadS (l : List UInt8) (hl : l.length ≤ 700) (w : World) : Calls Tryz.prog 16 #[.string (str l)] w (ResPost (readP l) 4 w) := by
  have hs : (str l).size ≤ 1000 := by rw [str_size]; omega
  have hd : (str l).data.toList = l := str_data l
  by_cases h0 : (str l).size = 0
  · exact eRead_E _ hs h0 _ (Lib.hid (by rw [hd])) w
  · by_cases h45 : (str l).data.toList.getD 0 0 = 45
    · exact eRead_M _ hs (by omega) h45 _ (Lib.hid (by rw [hd])) w
    · exact eRead_P _ hs (by omega) h45 _ (Lib.hid (by rw [hd])) w
/-- Text, at whatever fraction. -/
theorem texts_raw (s : Bool) (la lb : List Nat) (ha : Lb la) (hb : Lb lb) (l1 : la.length ≤ 100000) (l2 : lb.length ≤ 100000) :
    ∃ T : ByteArray, (∀ X r, Env X → Rc X r s la lb → Calls Tryz.prog 20 #[r] X fun e w' => e = .returned (.string T) ∧ Below X.heap.size X w') ∧
      (∀ X u v, Rc X (.agg #[.bool s, u, v]) s la lb → Calls Tryz.prog 21 #[.agg #[.bool s, u, v]] X fun e w' => e = .returned (.string T) ∧ Below X.heap.size X w') := by
  rcases hv : validB s la lb with _ | _
  · refine ⟨str [], fun X r hE hr => c_TextN s la lb r X hE.1 (hr.fr0' l1 l2) hv, fun X u v hr => c_eTextN s la lb u v X hr.lsx.1 hr.lsx.2 hv⟩
  · obtain ⟨m, n, rfl, rfl⟩ := raw_valid' ha hb hv
    obtain ⟨k1, k2, -, -⟩ := valid_facts hv
    refine ⟨str (txt s m n), fun X r hE hr => ?_, fun X u v hr => ?_⟩
    · cases s
      · exact c_TextP m n k1 k2 r X hE.1 hE.2.1 hr.fr hv
      · exact c_TextM m n k1 k2 r X hE.1 hE.2.1 hr.fr hv
    · have h := c_eTextV s m n u v X hr.lsx.1 hr.lsx.2
      unfold textB at h
      rw [if_pos hv] at h
      exact h
theorem row_RatioMakes (nn : Int) (v0 : Value) (dd : Int) (v1 : Value) (s : Bool) (a b : List Nat) (v2 : Value) (t : ByteArray) (ht : t.size ≤ maxLen) (w : World)
    (h0 : v0 = .int .i64 nn ∧ -9223372036854775808 ≤ nn ∧ nn ≤ 9223372036854775807) (h1 : v1 = .int .i64 dd ∧ -9223372036854775808 ≤ dd ∧ dd ≤ 9223372036854775807) (hx : Rc w v2 s a b) (he : Env w) :
    Calls Tryz.prog 3 #[v0, v1, v2, .string t] w fun e w' => e = .returned (.bool true) ∧ Below w.heap.size w w' := by
  obtain ⟨rfl, n0, n1⟩ := h0
  obtain ⟨rfl, d0, d1⟩ := h1
  obtain ⟨k, l, hk, hkt, hl, hsl⟩ := cut_text' t
  have hla := lb_take hx.lb'.1 40
  have hlb := lb_take hx.lb'.2 40
  have l1 : (a.take 40).length ≤ 100000 := by simp; omega
  have l2 : (b.take 40).length ≤ 100000 := by simp; omega
  obtain ⟨T, hT, hS⟩ := texts_raw s _ _ hla hlb l1 l2
  obtain ⟨bv, hbv⟩ : ∃ bv, validB s (a.take 40) (b.take 40) = bv := ⟨_, rfl⟩
  obtain ⟨R1, Z1, hF, hG⟩ : ∃ (R1 : Option (Bool × Nat × Nat)) (Z1 : Int), (∀ X, Env X → Calls Tryz.prog 13 #[.int .i64 nn, .int .i64 dd] X (ResPost R1 Z1 X)) ∧ (∀ X, Calls Tryz.prog 14 #[.int .i64 nn, .int .i64 dd] X (ResPost R1 Z1 X)) := by
    by_cases hd : dd = 0
    · subst hd
      exact ⟨none, 2, fun X hE => c_Of nn 0 n0 n1 d0 d1 X hE.1 none 2 (fun _ => ⟨rfl, rfl⟩) (fun h => absurd rfl h), fun X => e_OfZ nn X⟩
    · exact ⟨_, 0, fun X hE => (v_Of nn dd n0 n1 d0 d1 hd X hE).mono fun _ _ h => res_of_rat h, fun X => (e_Of nn dd n0 n1 d0 d1 hd X).mono fun _ _ h => res_of_rat h⟩
  exact makes_walk nn dd s a b _ _ (Lib.hid rfl) (Lib.hid rfl) t ht k l hk hkt hsl R1 (readP l) Z1 4 T bv (Lib.hid hF) (Lib.hid hG) (Lib.hid (fun X hE => c_Read l (by omega) X hE.1 hE.2.2)) (Lib.hid (fun X => e_ReadS l hl X))
    (Lib.hid (fun X r hE hr => c_ValidF (hr.fr0' l1 l2) bv hbv hE.1)) (Lib.hid (fun X u v hr => c_eValid s _ _ bv hbv u v X hr.lsx.1 hr.lsx.2)) (Lib.hid hT) (Lib.hid hS) v2 w he hx
end Go.Proofs.YtfdkdloldjfnjaaGreatDoor
