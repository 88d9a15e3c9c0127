/-
  The law OrderSizes (stage 10).
-/
import Derived.Test.YtjheaeeeeggncaaPB7
import Derived.Test.YtjheaeeeeggncaaPB6
set_option linter.unusedVariables false
set_option linter.unusedSimpArgs false
namespace Go.Proofs.Ytjheaeeeeggncaa
open Go.RowKit Go.Shelf
attribute [local go_sem] Oper.semAt_some
set_option maxRecDepth 100000
set_option linter.unusedVariables false
set_option linter.unusedSimpArgs false

/-- The program's chains as lists of elements. -/
def chsN (n : Nat) (nx : Nat → Int) : List (List Nat) := ((List.range n).filter fun i => !isNx n nx i).map fun i => chN n nx i
theorem chsN_P (n : Nat) (nx : Nat → Int) : chsP n nx n = (chsN n nx).map intsN := by unfold chsP chsN; rw [List.map_map]; rfl
theorem chsN_len (n : Nat) (nx : Nat → Int) : (chsN n nx).length = cnt n fun i => !isNx n nx i := by unfold chsN cnt; rw [List.length_map]
theorem asc_at {b : Nat → Nat} : ∀ {l : List Nat} {q x y : Nat}, Asc b l → l[q]? = some y → l[q + 1]? = some x → (b x).testBit y = true := by
  intro l
  induction l with
  | nil => intro q x y _ h; simp at h
  | cons a l ih =>
    intro q x y h h1 h2
    cases l with
    | nil => simp at h2
    | cons c l =>
      cases q with
      | zero =>
        simp at h1 h2
        subst h1 h2
        exact h.1
      | succ q => exact ih h.2 (by simpa using h1) (by simpa using h2)
theorem chs_dv {n : Nat} {b : Nat → Nat} {nx : Nat → Int} (hp : Po n b) (hm : Mt n b nx) : DvOk n b (chsN n nx) := by
  have hin : ∀ C ∈ chsN n nx, ∃ i, i < n ∧ isNx n nx i = false ∧ C = chN n nx i := fun C hC => by
    obtain ⟨i, hi, rfl⟩ := List.mem_map.1 hC
    obtain ⟨h1, h2⟩ := List.mem_filter.1 hi
    exact ⟨i, List.mem_range.1 h1, by simpa using h2, rfl⟩
  refine ⟨fun C hC => ?_, fun x hx => ?_, ?_, fun C hC q x y h1 h2 => ?_, fun x hx => ?_⟩
  · obtain ⟨i, hi, -, rfl⟩ := hin C hC
    rw [chN_eq hp hm hi]; simp
  · obtain ⟨C, hC, hx⟩ := List.mem_flatten.1 hx
    obtain ⟨i, hi, -, rfl⟩ := hin C hC
    exact chF_lt hm _ i hi x hx
  · show List.Pairwise (fun a b => a ≠ b) (chsN n nx).flatten
    rw [List.pairwise_flatten]
    refine ⟨fun C hC => ?_, ?_⟩
    · obtain ⟨i, hi, -, rfl⟩ := hin C hC
      exact (asc_nodup hp _ (chF_lt hm _ i hi) (chF_asc hm _ i hi)).1
    · unfold chsN
      rw [List.pairwise_map]
      have h1 : List.Pairwise (fun a b => a ≠ b) ((List.range n).filter fun i => !isNx n nx i) := (List.nodup_range).filter _
      refine (List.Pairwise.and_mem.1 h1).imp ?_
      rintro i j ⟨hi, hj, hne⟩ x hx y hy rfl
      obtain ⟨i1, i2⟩ := List.mem_filter.1 hi
      obtain ⟨j1, j2⟩ := List.mem_filter.1 hj
      have hi' := List.mem_range.1 i1
      have hj' := List.mem_range.1 j1
      exact hne (chain_one hp hm _ x i j (chF_lt hm _ i hi' x hx) (Nat.le_refl _) hi' hj' (by simpa using i2) (by simpa using j2) hx hy)
  · obtain ⟨i, hi, -, rfl⟩ := hin C hC
    exact asc_at (chF_asc hm _ i hi) h1 h2
  · obtain ⟨i, hi, h1, h2⟩ := chain_in hp hm _ x hx (Nat.le_refl _)
    exact List.mem_flatten.2 ⟨_, List.mem_map.2 ⟨i, List.mem_filter.2 ⟨List.mem_range.2 hi, by rw [h1]; rfl⟩, rfl⟩, h2⟩
/-- The number that a property says, if there is one. -/
noncomputable def thN (P : Nat → Prop) : Nat := open Classical in if h : ∃ k, P k then Classical.choose h else 0
theorem thN_is {P : Nat → Prop} (hu : ∀ a b, P a → P b → a = b) (k : Nat) (h : P k) : k = thN P := by
  unfold thN
  rw [dif_pos ⟨k, h⟩]
  exact hu _ _ h (Classical.choose_spec (⟨k, h⟩ : ∃ k, P k))
theorem rd_all {xs : List LsV} (h : rdN xs = 0) : xs.length ≤ 12 ∧ NmOk xs ∧ Po xs.length (ordF xs) := by
  have h0 := h
  unfold rdN at h
  split at h
  · cases h
  · rename_i h1
    split at h
    · cases h
    · rename_i h2
      split at h
      · cases h
      · rename_i h3
        exact ⟨by omega, Classical.not_not.1 h2, ord_po (Classical.not_not.1 h2) h3⟩
theorem sizes_fact {ys : List LsV} (h : rdN ys = 0) : ((chsN ys.length (joinB ys.length (ordF ys) ys.length)).length = thN (Wide ys.length (ordF ys))) ∧ DvOk ys.length (ordF ys) (chsN ys.length (joinB ys.length (ordF ys) ys.length)) := by
  obtain ⟨-, -, hp⟩ := rd_all h
  obtain ⟨h1, h2⟩ := wide_join hp
  exact ⟨by rw [chsN_len]; exact thN_is (fun a b => Wide.uniq) _ h2, chs_dv hp h1⟩
set_option maxHeartbeats 16000000 in
theorem row_OrderSizes (w : World) (A : Option Addr) (c : Nat) (xs : List LsV) (h : LsAt w A c xs) :
    Calls Try.prog 6 #[.slice A xs.length c] w fun e w' => e = .returned (.bool true) ∧ Below w.heap.size w w' := by
  have HO := Lib.hid (c_own A c xs w h)
  clear h
  go_enter Try.func6, Try.ntmps6
  go_wp2_with (fail)
  go_at_call 12
  refine HO.out.mono ?_
  rintro e w1 ⟨v, ys, rfl, ho, -, b1⟩
  obtain ⟨A1, c1, rfl, hl1⟩ := ho.ls
  have HB1 := Lib.hid b1
  have HL1 := Lib.hid hl1
  have HC1 := Lib.hid (fun (X : World) (hX : LsAt X A1 c1 ys) => c_Height A1 c1 ys X hX)
  have HC2 := Lib.hid (fun (X : World) (hX : LsAt X A1 c1 ys) => c_rrHeight A1 c1 ys X hX)
  have HC3 := Lib.hid (fun (X : World) (hX : LsAt X A1 c1 ys) => c_Width A1 c1 ys X hX)
  have HC4 := Lib.hid (fun (X : World) (hX : LsAt X A1 c1 ys) => c_rrWidth A1 c1 ys X hX)
  have HC5 := Lib.hid (fun (X : World) (hX : LsAt X A1 c1 ys) => c_Chains A1 c1 ys X hX)
  obtain ⟨CH, hCH⟩ : ∃ C, chsN ys.length (joinB ys.length (ordF ys) ys.length) = C := ⟨_, rfl⟩
  rw [chsN_P, hCH] at HC5
  obtain ⟨kh, hkh⟩ : ∃ k, thN (High ys.length (ordF ys)) = k := ⟨_, rfl⟩
  obtain ⟨kw, hkw⟩ : ∃ k, thN (Wide ys.length (ordF ys)) = k := ⟨_, rfl⟩
  have HPH := Lib.hid (show ∀ k, High ys.length (ordF ys) k → k = kh from fun k h => by rw [← hkh]; exact thN_is (fun a b => High.uniq) k h)
  have HPW := Lib.hid (show ∀ k, Wide ys.length (ordF ys) k → k = kw from fun k h => by rw [← hkw]; exact thN_is (fun a b => Wide.uniq) k h)
  have HSF := Lib.hid (show rdN ys = 0 → CH.length = kw ∧ DvOk ys.length (ordF ys) CH from fun h => by rw [← hCH, ← hkw]; exact sizes_fact h)
  have HRD := Lib.hid (fun h : rdN ys = 0 => rd_all h)
  have HDV := Lib.hid (fun (h : rdN ys = 0) (X : World) (hX : LsAt X A1 c1 ys) (A2 : Option Addr) (c2 : Nat) (zs : List LsV) (h2 : LsAt X A2 c2 zs) (hz : lsL zs = CH.map intsN) => c_Divides A1 c1 ys (rd_all h).1 (rd_all h).2.1 X hX A2 c2 zs h2 CH hz (HSF.out h).2)
  obtain ⟨n, hn⟩ : ∃ n, rdN ys = n := ⟨_, rfl⟩
  rw [hn] at HC1 HC2 HC3 HC4 HC5 HSF HRD HDV
  clear hn hl1 b1 ho hCH hkh hkw
  have hdl : ∀ X : World, True := fun _ => trivial
  go_wp2_with (fail)
  go_at_call 35
  refine (HC1.out w1 HL1.out).mono ?_
  intro e w2 h2
  obtain ⟨rfl, b2⟩ := hw_any h2 (k0 := kh) HPH.out
  have HB2 := Lib.hid (below_join HB1.out b2 HB1.out.size)
  have HL2 := Lib.hid (HL1.out.on b2 (Nat.le_refl _))
  clear b2 h2
  go_wp2_with (fail)
  go_at_call 36
  refine (HC2.out w2 HL2.out).mono ?_
  intro e w3 h3
  obtain ⟨rfl, b3⟩ := hw_any h3 (k0 := kh) HPH.out
  have HB3 := Lib.hid (below_join HB2.out b3 HB2.out.size)
  have HL3 := Lib.hid (HL2.out.on b3 (Nat.le_refl _))
  clear b3 h3
  go_wp2_with (fail)
  go_at_call 37
  refine (HC3.out w3 HL3.out).mono ?_
  intro e w4 h4
  obtain ⟨rfl, b4⟩ := hw_any h4 (k0 := kw) HPW.out
  have HB4 := Lib.hid (below_join HB3.out b4 HB3.out.size)
  have HL4 := Lib.hid (HL3.out.on b4 (Nat.le_refl _))
  clear b4 h4
  go_wp2_with (fail)
  go_at_call 38
  refine (HC4.out w4 HL4.out).mono ?_
  intro e w5 h5
  obtain ⟨rfl, b5⟩ := hw_any h5 (k0 := kw) HPW.out
  have HB5 := Lib.hid (below_join HB4.out b5 HB4.out.size)
  have HL5 := Lib.hid (HL4.out.on b5 (Nat.le_refl _))
  clear b5 h5
  obtain ⟨ch, hch⟩ : ∃ z, hwV n kh = z := ⟨_, rfl⟩
  obtain ⟨cw, hcw⟩ : ∃ z, hwV n kw = z := ⟨_, rfl⟩
  rw [hch, hcw]
  have HCW := Lib.hid hcw
  clear hch hcw hdl
  go_wp2_with (fail)
  go_at_call 39
  refine (HC5.out w5 HL5.out).mono ?_
  intro e w6 h6
  rcases h6 with ⟨⟨h0, rfl⟩ | ⟨h0, v2, zs, rfl, ho2, hm2⟩, b6⟩
  · have hn0 : (n != 0) = true := by simpa using h0
    have HB6 := Lib.hid (below_join HB5.out b6 HB5.out.size)
    clear b6 h0
    go_wp2_with (fail)
    go_at_call 20
    refine (c_works w6).mono ?_
    rintro e w7 ⟨rfl, b7⟩
    have HB7 := Lib.hid (below_join HB6.out b7 HB6.out.size)
    clear b7
    go_wp2_with (fail)
    go_ret
    exact ⟨rfl, HB7.out⟩
  · subst h0
    obtain ⟨A2, c2, rfl, hl2⟩ := ho2.ls
    have HB6 := Lib.hid (below_join HB5.out b6 HB5.out.size)
    have HL6 := Lib.hid (HL5.out.on b6 (Nat.le_refl _))
    have HL2 := Lib.hid hl2
    have hzl : (zs.length : Int) = cw := by
      rw [← HCW.out]
      unfold hwV
      rw [if_pos rfl, ← (HSF.out rfl).1]
      have := congrArg List.length hm2
      rw [List.length_map, List.length_map] at this
      rw [this]
    have HDD := Lib.hid (HDV.out rfl w6 HL6.out A2 c2 zs HL2.out hm2)
    have hzb : ((zs.length : Int) == cw) = true := by rw [hzl, beq_self_eq_true]
    obtain ⟨nz, hnz⟩ : ∃ m, zs.length = m := ⟨_, rfl⟩
    rw [hnz] at HDD hzb ⊢
    clear b6 hl2 ho2 hm2 hzl hnz
    go_wp2_with (fail)
    go_at_call 40
    refine HDD.out.mono ?_
    rintro e w7 ⟨rfl, b7⟩
    have HB7 := Lib.hid (below_join HB6.out b7 HB6.out.size)
    clear b7
    go_wp2_with (fail)
    go_at_call 20
    refine (c_works w7).mono ?_
    rintro e w8 ⟨rfl, b8⟩
    have HB8 := Lib.hid (below_join HB7.out b8 HB7.out.size)
    clear b8
    go_wp2_with (fail)
    go_ret
    exact ⟨rfl, HB8.out⟩
end Go.Proofs.Ytjheaeeeeggncaa
