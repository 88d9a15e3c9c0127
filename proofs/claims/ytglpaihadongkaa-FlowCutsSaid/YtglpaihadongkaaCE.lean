/-
  DERIVED. The law FlowBound: small numbers, slices.Clone, plain facts (stage 5).
-/
import Derived.Test.YtglpaihadongkaaCB
set_option linter.unusedVariables false
set_option linter.unusedSimpArgs false
namespace Go.Proofs.Ytglpaihadongkaa
open Go.RowKit Go.Shelf
set_option maxRecDepth 100000
set_option linter.unusedSimpArgs false
set_option linter.unusedVariables false

/-- Small loads, as a slice. -/
def U8Sl (w : World) (v : Value) (l : List Nat) : Prop :=
  ∃ A c, v = .slice A l.length c ∧ l.length ≤ c ∧ c ≤ maxLen ∧ (A = none → c = 0) ∧ (∀ x ∈ l, x ≤ 255) ∧ (0 < l.length → ∃ b o, A = some ⟨b, o, none⟩ ∧ b < w.heap.size ∧ ∀ (j : Nat) (x : Nat), l[j]? = some x → w.cell? ⟨b, o + j, none⟩ = some (.int .u8 (x : Int)))
theorem U8Sl.at_ {w : World} {v : Value} {l : List Nat} (h : U8Sl w v l) {k : Nat} {x : Nat} (hk : l[k]? = some x) : ∃ b o c, v = .slice (some ⟨b, o, none⟩) l.length c ∧ b < w.heap.size ∧ x ≤ 255 ∧ w.cell? ⟨b, o + k, none⟩ = some (.int .u8 (x : Int)) := by
  obtain ⟨A, c, h1, h2, h3, -, h5, h4⟩ := h
  have hl := (List.getElem?_eq_some_iff.1 hk).1
  obtain ⟨b, o, rfl, hlt, hc⟩ := h4 (by omega)
  exact ⟨b, o, c, h1, hlt, h5 x (List.mem_of_getElem? hk), hc k x hk⟩
theorem U8Sl.shape {w : World} {v : Value} {l : List Nat} (h : U8Sl w v l) : ∃ A c, v = .slice A l.length c ∧ l.length ≤ c ∧ c ≤ maxLen := by
  obtain ⟨A, c, h1, h2, h3, -⟩ := h
  exact ⟨A, c, h1, h2, h3⟩
theorem U8Sl.on {w w' : World} {v : Value} {l : List Nat} {B : Nat} (h : U8Sl w v l) (hb : Below B w w') (hB : w.heap.size ≤ B) : U8Sl w' v l := by
  obtain ⟨A, c, h1, h2, h3, h5, h6, h4⟩ := h
  refine ⟨A, c, h1, h2, h3, h5, h6, fun h0 => ?_⟩
  obtain ⟨b, o, e, hlt, hc⟩ := h4 h0
  exact ⟨b, o, e, Nat.lt_of_lt_of_le hlt hb.size, fun j x hj => (hb.cell (p := ⟨b, o + j, none⟩) (by show b < B; omega)).trans (hc j x hj)⟩
set_option maxHeartbeats 2000000 in
theorem c_Clone (l : List Int) (hm : l.length ≤ 100000) (v : Value) (w : World) (h : IntSl w v l) : Calls Try.prog 12 #[v] w fun e w' => ∃ v', e = .returned v' ∧ w'.ownsRow w.heap.size 3 1 v' l.length (ints l) ∧ Below w.heap.size w w' := by
  obtain ⟨A, c, rfl, h2, h3, h5, h4⟩ := h
  have H3 := Lib.hid h3
  have H4 := Lib.hid h4
  clear h3 h4
  obtain ⟨i0, hi0, hz0, hz1, hz2⟩ := info_parts int_info
  have q22 : ∀ (w : World) (a : Option Addr) (n c n' c' : Nat), (binOp .eql 25 (.slice a n c) (.slice none n' c')).run Try.prog w = .ok (.bool a.isNone) w := fun w a n c n' c' => Lib.run_eql_slice_nil w _ _ a n c n' c' Try.underlying25
  cases A with
  | none =>
    have hl : l = [] := List.eq_nil_of_length_eq_zero (by have := h5 rfl; omega)
    subst hl
    go_enter Try.func12, Try.ntmps12
    go_wp2
    go_ret
    exact ⟨_, rfl, World.ownsRow_nil _ _ _ _, Below.refl _ _⟩
  | some ad =>
    clear h5
    go_enter Try.func12, Try.ntmps12
    go_wp2_with (at_builtin; refine wpList_append_own _ rfl _ _ 25 rfl w.heap.size 3 i0 (.int .i64 0) 1 8 Try.underlying25 hi0 hz0 hz1 hz2 rfl (by omega) _ _ _ rfl (World.ownsRow_made w #[] 0 (Nat.le_refl _) (Nat.zero_le _) (by simp)) ad l.length c (ints l) rfl ?qc1 ?qc2 ?qc3 ?qc4 ?qc5 ?qc6 ?_)
    case qc1 => simp [ints]
    case qc2 =>
      intro j u hj
      unfold ints at hj
      rw [List.getElem?_map] at hj
      obtain ⟨x, hx1, rfl⟩ := Option.map_eq_some_iff.1 hj
      obtain ⟨b, o, e, hlt, hc⟩ := H4.out (by have := (List.getElem?_eq_some_iff.1 hx1).1; omega)
      injection e with e
      subst e
      have e : (⟨b, o, none⟩ : Addr).add j = ⟨b, o + j, none⟩ := by unfold Addr.add; split <;> simp_all
      rw [e]
      exact (World.cell?_alloc_lt w _ ⟨b, o + j, none⟩ hlt).trans (hc j x hx1)
    case qc3 => intro u hu; obtain ⟨x, -, rfl⟩ := List.mem_map.1 hu; rfl
    case qc4 => unfold maxLen; omega
    case qc5 => omega
    case qc6 => simp
    intro v' w1 hown hgrow hnil
    have HO := Lib.hid (show w1.ownsRow w.heap.size 3 1 v' l.length (ints l) by simpa using hown)
    have HB := Lib.hid (((Below.refl w.heap.size w).alloc (Nat.le_refl _) _).grown hgrow (by simp) (by intro k hk; simp [Value.ownBlock] at hk; omega))
    clear hown hgrow hnil
    go_wp2
    go_ret
    exact ⟨_, rfl, HO.out, HB.out⟩
theorem zip_self : ∀ {L : List (Int × Int × Int)} {lf : List Ar}, ends lf = ends (arsOf L) → zipX L (lf.map Ar.x) = lf
  | [], [], _ => rfl
  | [], b :: l, h => by cases h
  | a :: L, [], h => by cases h
  | a :: L, b :: l, h => by
    have h' : (b.u, b.v, b.cap) :: ends l = ((arOf a).u, (arOf a).v, (arOf a).cap) :: ends (arsOf L) := h
    injection h' with h1 h2
    injection h1 with e1 e2
    injection e2 with e2 e3
    have ih := zip_self (L := L) (lf := l) h2
    show ({ arOf a with x := b.x } : Ar) :: zipX L (l.map Ar.x) = b :: l
    rw [ih]
    congr 1
    cases b
    simp only at e1 e2 e3
    subst e1 e2 e3
    rfl
theorem best_fit {N s t : Nat} {L : List (Int × Int × Int)} {lf : List Ar} {v : Int} (h : Best N s t L lf v) (hok : ntOk (N : Int) L = true) :
    (lf.map Ar.x).length = L.length ∧ ∀ i, i < L.length → 0 ≤ (lf.map Ar.x).getD i 0 ∧ (lf.map Ar.x).getD i 0 ≤ (L.getD i (0, 0, 0)).2.2 ∧ (L.getD i (0, 0, 0)).2.2 ≤ 100000000 := by
  have hl : lf.length = L.length := by rw [ends_len h.ends_, arsOf_len]
  refine ⟨by rw [List.length_map]; exact hl, fun i hi => ?_⟩
  obtain ⟨b, hb⟩ : ∃ b, lf[i]? = some b := ⟨_, List.getElem?_eq_getElem (by omega)⟩
  obtain ⟨a, ha⟩ : ∃ a, L[i]? = some a := ⟨_, List.getElem?_eq_getElem hi⟩
  obtain ⟨c, hc, -, -, e⟩ := ends_get h.ends_ hb
  have hc' : (arsOf L)[i]? = some (arOf a) := by unfold arsOf; rw [List.getElem?_map, ha]; rfl
  rw [hc'] at hc
  injection hc with hc
  subst hc
  have e' : a.2.2 = b.cap := e
  have hf := h.flow.fits b (List.mem_of_getElem? hb)
  have h1 : (lf.map Ar.x).getD i 0 = b.x := by simp [hb]
  have h2 : L.getD i (0, 0, 0) = a := by simp [ha]
  rw [h1, h2, e']
  refine ⟨hf.1, hf.2, ?_⟩
  rw [← e']
  exact (arOk_iff.1 ((ntOk_iff.1 hok).2.2.2 a (List.mem_of_getElem? ha))).2.2.2.2
theorem chk_le {N s t : Nat} {L : List (Int × Int × Int)} {lf : List Ar} {v y r : Int} {ys : List Int} (h : Best N s t L lf v) (hok : ntOk (N : Int) L = true) (hs : s < N) (ht : t < N) (hst : s ≠ t) (hc : chkV (N : Int) L (s : Int) (t : Int) ys = (y, r)) : r = 13 ∨ (r = 0 ∧ y ≤ v) := by
  have hf0 : nfault (N : Int) L (s : Int) (t : Int) = 0 := by
    unfold nfault
    rw [if_pos hok, show ndOk (N : Int) (s : Int) = true from ndOk_iff.2 (by omega), show ndOk (N : Int) (t : Int) = true from ndOk_iff.2 (by omega)]
    have : ((s : Int) == (t : Int)) = false := by rw [beq_eq_false_iff_ne]; omega
    rw [this]; rfl
  unfold chkV at hc
  rw [if_pos hf0] at hc
  split at hc
  · rename_i hfit
    split at hc
    · rename_i hev
      injection hc with h1 h2
      refine .inr ⟨h2.symm, ?_⟩
      obtain ⟨hl, hb⟩ := fitB_iff.1 hfit
      have hall := (ntOk_iff.1 hok).2.2.2
      have hfl : flowOk N s t L ys = true := by
        unfold flowOk
        rw [Bool.and_eq_true, Bool.and_eq_true, decide_eq_true_iff, List.all_eq_true, List.all_eq_true]
        refine ⟨hl, fun a ha => ?_, fun n hn => ?_⟩
        · obtain ⟨i, hi, rfl⟩ := List.getElem_of_mem ha
          unfold zipX at hi ⊢
          rw [List.getElem_zipWith]
          simp only [List.length_zipWith] at hi
          have hi1 : i < L.length := by omega
          have hi2 : i < ys.length := by omega
          obtain ⟨g1, g2, g3, g4, g5⟩ := arOk_iff.1 (hall _ (List.getElem_mem hi1))
          have hbi := hb i hi1
          have e1 : ys.getD i 0 = ys[i] := by simp [hi2]
          have e2 : L.getD i (0, 0, 0) = L[i] := by simp [hi1]
          rw [e1, e2] at hbi
          rw [Bool.and_eq_true, Bool.and_eq_true, Bool.and_eq_true]
          exact ⟨decide_eq_true (show (L[i]).1.toNat < N by omega), decide_eq_true (show (L[i]).2.1.toNat < N by omega), decide_eq_true hbi.1, decide_eq_true hbi.2⟩
        · have := (List.all_eq_true.1 hev) n (by simpa using hn)
          unfold evenAt at this
          simp only [Bool.or_eq_true, beq_iff_eq] at this ⊢
          rcases this with h | h | h
          · exact .inr (.inr h)
          · exact .inl (by omega)
          · exact .inr (.inl (by omega))
      obtain ⟨hF, hE⟩ := flow_of hfl
      have := h.gr.le hs hF hE
      rw [Int.toNat_natCast] at h1
      omega
    · injection hc with h1 h2; exact .inl h2.symm
  · injection hc with h1 h2; exact .inl h2.symm
theorem ints_set (l : List Int) (k : Nat) (x : Int) : ints (l.set k x) = (ints l).set k (.int .i64 x) := by unfold ints; rw [List.map_set]
end Go.Proofs.Ytglpaihadongkaa
