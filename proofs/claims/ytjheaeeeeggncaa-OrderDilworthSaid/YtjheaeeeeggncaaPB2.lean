/-
  DERIVED. Several texts in one.
-/
import Derived.Test.YtjheaeeeeggncaaPB1
import Derived.Laws.MakeOwn
import Derived.RangeFuncNested
import Derived.RangeFuncBound
import Derived.RangeFuncCalls
import Derived.RangeFuncLeaves
import Derived.RangeFuncBox
import Derived.Shelf.Abstract
import Derived.Shelf.RegionOpen
import Derived.OwnWalkIn
import Derived.TacticsInMore
import Derived.LoopNIn
import Derived.LoopIn
set_option linter.unusedVariables false
set_option linter.unusedSimpArgs false

namespace Go.Proofs.Ytjheaeeeeggncaa
open Go.RowKit
set_option maxRecDepth 100000
set_option linter.unusedVariables false
set_option linter.unusedSimpArgs false

/-- A row of sets. -/
def bsN (n : Nat) (f : Nat → Nat) : List Value := (List.range n).map fun i => .int .u16 ((f i : Nat) : Int)
theorem bsN_len (n : Nat) (f : Nat → Nat) : (bsN n f).length = n := by simp [bsN]
theorem bsN_at {n i : Nat} (f : Nat → Nat) (h : i < n) : (bsN n f)[i]? = some (.int .u16 ((f i : Nat) : Int)) := by simp [bsN, h]
theorem bsN_set {n i : Nat} {f f' : Nat → Nat} (hi : i < n) (h : ∀ j, j < n → j ≠ i → f' j = f j) : (bsN n f).set i (.int .u16 ((f' i : Nat) : Int)) = bsN n f' := by
  apply List.ext_getElem?
  intro j
  rw [List.getElem?_set]
  by_cases e : i = j
  · subst e; rw [if_pos rfl, bsN_len, if_pos hi, bsN_at _ hi]
  · rw [if_neg e]
    by_cases hj : j < n
    · rw [bsN_at _ hj, bsN_at _ hj, h j hj (fun x => e x.symm)]
    · rw [List.getElem?_eq_none (by rw [bsN_len]; omega), List.getElem?_eq_none (by rw [bsN_len]; omega)]
theorem bsN_congr {n : Nat} {f f' : Nat → Nat} (h : ∀ j, j < n → f' j = f j) : bsN n f' = bsN n f := List.map_congr_left fun j hj => by rw [h j (List.mem_range.1 hj)]
def Blk (w : World) (g n : Nat) (f : Nat → Nat) : Prop := w.heap[g]? = some (.cells (bsN n f).toArray 72 (0, 0))
theorem Blk.at_ {w : World} {g n i : Nat} {f : Nat → Nat} (h : Blk w g n f) (hi : i < n) : w.cell? ⟨g, i, none⟩ = some (.int .u16 ((f i : Nat) : Int)) := cell_of h (by rw [List.getElem?_toArray]; exact bsN_at f hi)
theorem Blk.set {w : World} {g n i : Nat} {f f' : Nat → Nat} (h : Blk w g n f) (hi : i < n) (hf : ∀ j, j < n → j ≠ i → f' j = f j) : Blk (w.setCell ⟨g, i, none⟩ (.int .u16 ((f' i : Nat) : Int))) g n f' := by
  have := set_field (o := i) h (.int .u16 ((f' i : Nat) : Int))
  unfold Blk
  rw [this, List.setIfInBounds_toArray, bsN_set hi hf]
theorem Blk.congr {w : World} {g n : Nat} {f f' : Nat → Nat} (h : Blk w g n f) (hf : ∀ j, j < n → f' j = f j) : Blk w g n f' := by unfold Blk; rw [bsN_congr hf]; exact h
theorem Blk.drewN {w : World} {g n m : Nat} {f : Nat → Nat} (h : Blk w g n f) : Blk (w.drewN m) g n f := h
/-- The bits of a list. -/
def bitsL (l : List Int) : Nat := l.foldl (fun s i => s ||| 1 <<< i.toNat) 0
theorem bitsL_take {l : List Int} {t : Nat} {z : Int} (h : l[t]? = some z) : bitsL (l.take (t + 1)) = bitsL (l.take t) ||| 1 <<< z.toNat := by
  rw [List.take_add_one, h]; simp [bitsL]
theorem bitsL_lt {l : List Int} (h : ∀ z ∈ l, 0 ≤ z ∧ z < 12) : bitsL l < 2 ^ 12 := by
  have : ∀ (l : List Int) (s : Nat), (∀ z ∈ l, 0 ≤ z ∧ z < 12) → s < 2 ^ 12 → l.foldl (fun s i => s ||| 1 <<< i.toNat) s < 2 ^ 12 := by
    intro l
    induction l with
    | nil => intro s _ hs; exact hs
    | cons x l ih =>
      intro s hl hs
      have hx := hl x (by simp)
      exact ih _ (fun z hz => hl z (by simp [hz])) (Nat.or_lt_two_pow hs (by rw [Nat.one_shiftLeft]; exact Nat.pow_lt_pow_right (by omega) (by omega)))
  exact this l 0 h (by decide)
theorem bitsL_tb (l : List Int) (k : Nat) : (bitsL l).testBit k = true ↔ ∃ z ∈ l, z.toNat = k := by
  have : ∀ (l : List Int) (s : Nat), (l.foldl (fun s i => s ||| 1 <<< i.toNat) s).testBit k = true ↔ s.testBit k = true ∨ ∃ z ∈ l, z.toNat = k := by
    intro l
    induction l with
    | nil => intro s; simp
    | cons x l ih =>
      intro s
      rw [List.foldl_cons, ih, tb_or, tb_one, Bool.or_eq_true, decide_eq_true_iff, or_assoc]
      simp
  have h := this l 0
  rw [Nat.zero_testBit] at h
  unfold bitsL
  simpa using h
def lAt (xs : List LsV) (j : Nat) : List Int := (xs[j]?.map (·.l)).getD []
/-- The lists up to one, and that one up to an element. -/
def dirF (xs : List LsV) (k t : Nat) : Nat → Nat := fun j => if j < k then bitsL (lAt xs j) else if j = k then bitsL ((lAt xs j).take t) else 0
theorem dirF_next {xs : List LsV} {k t : Nat} (h : (lAt xs k).length ≤ t) : ∀ j, dirF xs (k + 1) 0 j = dirF xs k t j := fun j => by
  unfold dirF
  by_cases h1 : j < k
  · rw [if_pos h1, if_pos (by omega)]
  · by_cases h2 : j = k
    · subst h2; rw [if_pos (by omega), if_neg h1, if_pos rfl, List.take_of_length_le h]
    · rw [if_neg (by omega), if_neg h1, if_neg h2]
      split
      · rw [List.take_zero]; rfl
      · rfl
theorem wIn_lt {f : Nat → Nat} {m : Nat} (h : ∀ j, f j < 2 ^ 12) : ∀ p j, wIn f m p j < 2 ^ 12 := fun p j => by
  rw [wIn_eq]
  split
  · exact Nat.or_lt_two_pow (h j) (h m)
  · exact h j
theorem wAll_lt {f : Nat → Nat} {n : Nat} (h : ∀ j, f j < 2 ^ 12) : ∀ m j, wAll f n m j < 2 ^ 12
  | 0, j => h j
  | m + 1, j => wIn_lt (fun j => wAll_lt h m j) n j
def dirA (xs : List LsV) (j : Nat) : Nat := bitsL (lAt xs j)
theorem el_info : (Try.prog.info? 72).map (fun i => (i.zero, i.size, i.bytes)) = some (some (.int .u16 0), 1, 2) := by kernel_rfl
theorem mk_before (n : Nat) (h0 : n ≤ 100) : ∀ w : World, (Instr.makeSlice 64 (.int .i64 (n : Int)) (.int .i64 (n : Int))).run Try.prog w = .ok (.slice (some ⟨w.heap.size, 0, none⟩) n n) (w.alloc (.cells (bsN n fun _ => 0).toArray 72)) := by
  obtain ⟨i0, hi0, hz0, hz1, hz2⟩ := info_parts el_info
  intro w
  have h := run_make (P := Try.prog) w 64 72 i0 (.int .u16 0) Try.underlying64 hi0 hz0 .i64 .i64 (n : Int) (n : Int) (by omega) (by omega) (by rw [hz2]; omega) (by omega)
  rw [hz1] at h
  have e : (bsN n fun _ => 0).toArray = madeCells (Value.int .u16 0).cells n := by
    apply Array.toList_inj.1
    rw [show (Value.int .u16 0).cells = #[.int .u16 0] from rfl, toList_madeCells_one]
    apply List.ext_getElem?
    intro j
    by_cases hj : j < n
    · show (bsN n fun _ => 0)[j]? = _
      rw [bsN_at _ hj]; simp [hj]
    · show (bsN n fun _ => 0)[j]? = _
      rw [List.getElem?_eq_none (by rw [bsN_len]; omega)]; simp; omega
  rw [e]
  simpa using h
set_option maxHeartbeats 16000000 in
theorem c_follow (A : Option Addr) (c : Nat) (xs : List LsV) (hn : xs.length ≤ 12) (hok : NmOk xs) (w : World) (h : LsAt w A c xs) :
    Calls Try.prog 75 #[.slice A xs.length c] w fun e w' => ∃ g, e = .returned (.slice (some ⟨g, 0, none⟩) xs.length xs.length) ∧ w.heap.size ≤ g ∧ Blk w' g xs.length (wAll (dirA xs) xs.length xs.length) ∧ Below w.heap.size w w' := by
  have H := Lib.hid h
  have HO := Lib.hid hok
  have k1 := h.1.1; have k2 := h.1.2.1
  unfold maxLen at k2
  have hmk := mk_before xs.length (by omega)
  obtain ⟨g, hg⟩ : ∃ g, w.heap.size = g := ⟨_, rfl⟩
  have HG := Lib.hid hg
  have HB0 := Lib.hid (show Below g w (w.alloc (.cells (bsN xs.length fun _ => 0).toArray 72)) by rw [← hg]; exact (Below.refl _ _).alloc (Nat.le_refl _) _)
  have HK0 := Lib.hid (show Blk (w.alloc (.cells (bsN xs.length fun _ => 0).toArray 72)) g xs.length (dirF xs 0 0) from by
    refine Blk.congr (f := fun _ => 0) (by rw [← hg]; exact box_new _ _ _) (fun j hj => ?_)
    unfold dirF
    rw [if_neg (by omega)]
    split
    · rfl
    · rfl)
  have HDL := Lib.hid (show ∀ k t j, dirF xs k t j < 2 ^ 12 from fun k t j => by
    have hb : ∀ z ∈ lAt xs j, 0 ≤ z ∧ z < 12 := fun z hz => by
      unfold lAt at hz
      cases hx : xs[j]? with
      | none => rw [hx] at hz; simp at hz
      | some x => rw [hx] at hz; have := hok j x hx z (by simpa using hz); omega
    unfold dirF
    split
    · exact bitsL_lt hb
    · split
      · exact bitsL_lt fun z hz => hb z (List.mem_of_mem_take hz)
      · decide)
  clear h hok
  go_enter Try.func75, Try.ntmps75
  go_wp2_with (fail)
  clear hmk hg
  go_loopw [15] (fun i wr => ∃ k : Nat, k ≤ xs.length ∧ i = .int .i64 (k : Int) ∧ Hid (Below g w wr) ∧ Hid (Blk wr g xs.length (dirF xs k 0))) (fun i _ => xs.length - (intOf i).toNat)
  case atStart => exact ⟨0, Nat.zero_le _, rfl, HB0, HK0⟩
  case round =>
    obtain ⟨k, hk, rfl, hB, hF⟩ := hrel
    have hki : ((k : Nat) : Int).toNat = k := by omega
    by_cases hlt : k < xs.length
    · obtain ⟨x, hx⟩ : ∃ x, xs[k]? = some x := ⟨_, List.getElem?_eq_getElem hlt⟩
      have HK := H.out.on hB.out (by rw [HG.out]; exact Nat.le_refl _)
      obtain ⟨pb, o, rfl, -, -⟩ := HK.1.at_ hx
      have y0 := ls_at HK.1 hx
      have HXX := Lib.hid hx
      have HLA := Lib.hid (show lAt xs k = x.l by unfold lAt; rw [hx]; rfl)
      have HXL := Lib.hid (H.out.2 x (List.mem_of_getElem? hx))
      have j1 := HXL.out.1; have j2 := HXL.out.2.1
      unfold maxLen at j2
      have hlt' : (k : Int) < ((xs.length : Nat) : Int) := by omega
      clear hx HK
      go_wp2_with (fail)
      clear y0
      go_loopw [22] (fun i wr => ∃ t : Nat, t ≤ x.l.length ∧ i = .int .i64 (t : Int) ∧ Hid (Below g w wr) ∧ Hid (Blk wr g xs.length (dirF xs k t))) (fun i _ => x.l.length - (intOf i).toNat)
      case atStart => exact ⟨0, Nat.zero_le _, rfl, hB, hF⟩
      case round =>
        obtain ⟨t, ht, rfl, hC, hT⟩ := hrel
        have hti : ((t : Nat) : Int).toNat = t := by omega
        by_cases hlt2 : t < x.l.length
        · obtain ⟨z, hz⟩ : ∃ z, x.l[t]? = some z := ⟨_, List.getElem?_eq_getElem hlt2⟩
          have HL := HXL.out.on hC.out (by rw [HG.out]; exact Nat.le_refl _)
          obtain ⟨b2, o2, e2, -, -⟩ := HL.at_ hz
          rw [e2] at HL
          have y1 := inV_at HL hz
          have htl : (t : Int) < ((x.l.length : Nat) : Int) := by omega
          have hzb := HO.out k x HXX.out z (List.mem_of_getElem? hz)
          obtain ⟨u, rfl⟩ : ∃ u : Nat, z = u := ⟨z.toNat, by omega⟩
          have hu : u < 12 := by omega
          have b0 := hT.out.at_ hlt
          have b1 := frz hT.out k
          obtain ⟨s, hs⟩ : ∃ s, dirF xs k t k = s := ⟨_, rfl⟩
          have hs12 := HDL.out k t k
          have HS := Lib.hid (show dirF xs k (t + 1) k = s ||| 1 <<< u by
            rw [← hs]
            unfold dirF
            rw [if_neg (by omega), if_pos rfl, if_neg (by omega), if_pos rfl, HLA.out, bitsL_take hz]
            rfl)
          rw [hs] at b0 hs12
          have HST := Lib.hid (show Blk (wr.setCell ⟨g, k, none⟩ (.int .u16 ((s ||| 1 <<< u : Nat) : Int))) g xs.length (dirF xs k (t + 1)) by
            rw [← HS.out]
            refine hT.out.set hlt fun j hj hne => ?_
            unfold dirF
            split
            · rfl
            · simp [hne])
          have HBT := Lib.hid (hC.out.setCell (p := ⟨g, k, none⟩) (Nat.le_refl _) (.int .u16 ((s ||| 1 <<< u : Nat) : Int)))
          clear hz HL hs hzb
          rw [e2]
          obtain ⟨v, hv⟩ : ∃ v, s ||| 1 <<< u = v := ⟨_, rfl⟩
          rw [hv] at HST HBT
          have HVV := Lib.hid hv
          clear hv
          go_wp2_with (go_at_call 80; refine (c_with s u (by omega) hu _).mono ?_; rintro e w1 ⟨rfl, hw1⟩; rw [HVV.out, hw1]; clear hw1 w1)
          go_roundw
          case rel => exact ⟨t + 1, by omega, by go_num, HBT, HST⟩
          case measure => simp only [intOf]; omega
        · obtain rfl : t = x.l.length := by omega
          have HN := Lib.hid (hT.out.congr fun j _ => dirF_next (xs := xs) (k := k) (t := x.l.length) (by rw [HLA.out]; exact Nat.le_refl _) j)
          go_wp2_with (fail)
          go_roundw
          case rel => exact ⟨k + 1, by omega, by go_num, hC, HN⟩
          case measure => simp only [intOf]; omega
    · obtain rfl : k = xs.length := by omega
      have HW0 := Lib.hid (show Blk wr g xs.length (wAll (dirA xs) xs.length 0) from hF.out.congr fun j hj => by
        show dirA xs j = dirF xs xs.length 0 j
        unfold dirF
        rw [if_pos hj]
        rfl)
      have HAL := Lib.hid (show ∀ j, dirA xs j < 2 ^ 12 from fun j => by
        have := HDL.out (j + 1) 0 j
        unfold dirF at this
        rw [if_pos (by omega)] at this
        exact this)
      clear HDL HK0 HB0
      go_wp2_with (fail)
      go_loopw [39] (fun i wr => ∃ m : Nat, m ≤ xs.length ∧ i = .int .i64 (m : Int) ∧ Hid (Below g w wr) ∧ Hid (Blk wr g xs.length (wAll (dirA xs) xs.length m))) (fun i _ => xs.length - (intOf i).toNat)
      case atStart => exact ⟨0, Nat.zero_le _, rfl, hB, HW0⟩
      case round =>
        obtain ⟨m, hm, rfl, hC, hW⟩ := hrel
        have hmi : ((m : Nat) : Int).toNat = m := by omega
        by_cases hlt : m < xs.length
        · have hlt' : (m : Int) < ((xs.length : Nat) : Int) := by omega
          go_wp2_with (fail)
          go_loopw [44] (fun i wr => ∃ p : Nat, p ≤ xs.length ∧ i = .int .i64 (p : Int) ∧ Hid (Below g w wr) ∧ Hid (Blk wr g xs.length (wIn (wAll (dirA xs) xs.length m) m p))) (fun i _ => xs.length - (intOf i).toNat)
          case atStart => exact ⟨0, Nat.zero_le _, rfl, hC, hW⟩
          case round =>
            obtain ⟨p, hp, rfl, hD, hP⟩ := hrel
            have hpi : ((p : Nat) : Int).toNat = p := by omega
            by_cases hlt2 : p < xs.length
            · have hpl : (p : Int) < ((xs.length : Nat) : Int) := by omega
              have b0 := hP.out.at_ hlt2
              have b1 := hP.out.at_ hlt
              have b2 := frz hP.out p
              obtain ⟨F, hF0⟩ : ∃ F, wIn (wAll (dirA xs) xs.length m) m p = F := ⟨_, rfl⟩
              have HNX := Lib.hid (show ∀ j, wIn (wAll (dirA xs) xs.length m) m (p + 1) j = if j = p then (if (F p).testBit m then F p ||| F m else F p) else F j from fun j => by rw [← hF0]; rfl)
              have hs12 : F p < 2 ^ 12 := by rw [← hF0]; exact wIn_lt (fun j => wAll_lt HAL.out m j) p p
              have hq12 : F m < 2 ^ 12 := by rw [← hF0]; exact wIn_lt (fun j => wAll_lt HAL.out m j) p m
              rw [hF0] at b0 b1 hP
              clear hF0
              rcases hb : (F p).testBit m with _ | _
              · have HB := Lib.hid (show (decide (0 ≤ (m : Int)) && (F p).testBit ((m : Nat) : Int).toNat) = false by rw [hmi, hb]; simp)
                have HPN := Lib.hid (hP.out.congr (f' := wIn (wAll (dirA xs) xs.length m) m (p + 1)) fun j _ => by
                  rw [HNX.out, hb]
                  split
                  · rename_i e; rw [e]; rfl
                  · rfl)
                obtain ⟨s, hs⟩ : ∃ s, F p = s := ⟨_, rfl⟩
                rw [hs] at b0 hs12 HB
                clear hb hs
                go_wp2_with (go_at_call 76; refine (c_has s (by omega) (m : Int) false HB.out _).mono ?_; rintro e w1 ⟨rfl, hw1⟩; rw [hw1]; clear hw1 w1)
                go_roundw
                case rel => exact ⟨p + 1, by omega, by go_num, hD, HPN⟩
                case measure => simp only [intOf]; omega
              · have HB := Lib.hid (show (decide (0 ≤ (m : Int)) && (F p).testBit ((m : Nat) : Int).toNat) = true by rw [hmi, hb]; simp)
                have HPS := Lib.hid (fun (X : World) (hX : Blk X g xs.length F) => (show Blk (X.setCell ⟨g, p, none⟩ (.int .u16 ((F p ||| F m : Nat) : Int))) g xs.length (wIn (wAll (dirA xs) xs.length m) m (p + 1)) by
                  have e : F p ||| F m = wIn (wAll (dirA xs) xs.length m) m (p + 1) p := by rw [HNX.out, if_pos rfl, hb, if_pos rfl]
                  rw [e]
                  exact hX.set hlt2 fun j _ hne => by rw [HNX.out, if_neg hne]))
                obtain ⟨s, hs⟩ : ∃ s, F p = s := ⟨_, rfl⟩
                obtain ⟨q, hq⟩ : ∃ q, F m = q := ⟨_, rfl⟩
                rw [hs] at b0 hs12 HB HPS
                rw [hq] at b1 hq12 HPS
                have hor := bits_or16 s q (by omega) (by omega)
                obtain ⟨v, hv⟩ : ∃ v, s ||| q = v := ⟨_, rfl⟩
                rw [hv] at hor HPS
                clear hb hs hq hv
                go_wp2_with (go_at_call 76; refine (c_has s (by omega) (m : Int) true HB.out _).mono ?_; rintro e w1 ⟨rfl, hw1⟩; rw [hw1]; clear hw1 w1)
                go_region
                all_goals go_wp2_with (fail)
                all_goals exact ⟨⟨p + 1, by omega, by go_num, Lib.hid (hD.out.setCell (p := ⟨g, p, none⟩) (Nat.le_refl _) _).drew, Lib.hid (HPS.out wr hP.out)⟩, by simp only [intOf]; omega⟩
            · obtain rfl : p = xs.length := by omega
              go_wp2_with (fail)
              go_roundw
              case rel => exact ⟨m + 1, by omega, by go_num, hD, hP⟩
              case measure => simp only [intOf]; omega
        · obtain rfl : m = xs.length := by omega
          go_wp2_with (fail)
          go_ret
          have e := HG.out
          exact ⟨g, rfl, by omega, hW.out, by rw [e]; exact hC.out⟩
end Go.Proofs.Ytjheaeeeeggncaa

namespace Go.Proofs.Ytjheaeeeeggncaa
open Go.RowKit
set_option maxRecDepth 100000
set_option linter.unusedVariables false
set_option linter.unusedSimpArgs false

/-- The order that lists say. -/
def ordF (xs : List LsV) : Nat → Nat := wAll (dirA xs) xs.length xs.length
def Loop (xs : List LsV) : Prop := ∃ i, i < xs.length ∧ (ordF xs i).testBit i = true
open Classical in
/-- The error of lists. -/
noncomputable def rdN (xs : List LsV) : Int := if 12 < xs.length ∨ xs.any (fun x => disB x.l) = true then 1 else if ¬ NmOk xs then 2 else if Loop xs then 12 else 0
theorem dirA_lt {xs : List LsV} (hn : xs.length ≤ 12) (hok : NmOk xs) (j : Nat) : dirA xs j < 2 ^ 12 := by
  refine bitsL_lt fun z hz => ?_
  unfold lAt at hz
  cases hx : xs[j]? with
  | none => rw [hx] at hz; simp at hz
  | some x => rw [hx] at hz; have := hok j x hx z (by simpa using hz); omega
theorem ordF_lt {xs : List LsV} (hn : xs.length ≤ 12) (hok : NmOk xs) (j : Nat) : ordF xs j < 2 ^ 12 := wAll_lt (dirA_lt hn hok) _ j
/-- What read answers. -/
def RdTo (w : World) (xs : List LsV) (e : Ending) (w' : World) : Prop :=
  ((rdN xs ≠ 0 ∧ e = .returned (.tuple #[.slice none 0 0, .int .i64 (rdN xs)])) ∨ (rdN xs = 0 ∧ xs.length ≤ 12 ∧ NmOk xs ∧ ¬ Loop xs ∧ ∃ g, e = .returned (.tuple #[.slice (some ⟨g, 0, none⟩) xs.length xs.length, .int .i64 0]) ∧ w.heap.size ≤ g ∧ Blk w' g xs.length (ordF xs))) ∧ Below w.heap.size w w'
theorem rd_err {w w' : World} {xs : List LsV} {n : Int} (h : rdN xs = n) (hn : n ≠ 0) (hb : Below w.heap.size w w') : RdTo w xs (.returned (.tuple #[.slice none 0 0, .int .i64 n])) w' := ⟨.inl ⟨by rw [h]; exact hn, by rw [h]⟩, hb⟩
set_option maxHeartbeats 8000000 in
theorem c_read (A : Option Addr) (c : Nat) (xs : List LsV) (w : World) (h : LsAt w A c xs) : Calls Try.prog 48 #[.slice A xs.length c] w (RdTo w xs) := by
  have H := Lib.hid h
  have k1 := h.1.1; have k2 := h.1.2.1
  unfold maxLen at k2
  clear h
  obtain ⟨R, hR⟩ : ∃ R, R = RdTo w xs := ⟨_, rfl⟩
  rw [← hR]
  have HRR := Lib.hid hR
  clear hR
  have HE := Lib.hid (show ∀ (n : Int) (X : World), rdN xs = n → n ≠ 0 → Below w.heap.size w X → R (.returned (.tuple #[.slice none 0 0, .int .i64 n])) X from fun n X h hn hb => by rw [HRR.out]; exact rd_err h hn hb)
  have HB0 := Lib.hid (Below.refl w.heap.size w)
  by_cases h12 : 12 < xs.length
  · have hd : decide ((12 : Int) < (xs.length : Int)) = true := decide_eq_true (by omega)
    have HL := Lib.hid h12
    clear h12
    go_enter Try.func48, Try.ntmps48
    go_wp2_with (fail)
    exact HE.out 1 w (by unfold rdN; rw [if_pos (.inl HL.out)]) (by decide) HB0.out
  have hd : decide ((12 : Int) < (xs.length : Int)) = false := decide_eq_false (by omega)
  obtain ⟨r, hr⟩ : ∃ r, xs.any (fun x => disB x.l) = r := ⟨_, rfl⟩
  have HR := Lib.hid hr
  clear hr
  go_enter Try.func48, Try.ntmps48
  go_wp2_with (fail)
  go_at_call 72
  refine (c_CF_list A c xs w H.out r HR.out).mono ?_
  rintro e w1 ⟨rfl, b1⟩
  have K1 := Lib.hid b1
  clear b1
  cases r
  rotate_left
  · go_wp2_with (fail)
    exact HE.out 1 w1 (by unfold rdN; rw [if_pos (.inr HR.out)]) (by decide) K1.out
  have HN1 := Lib.hid (show ¬ (12 < xs.length ∨ xs.any (fun x => disB x.l) = true) by rw [HR.out]; simp; omega)
  obtain ⟨r2, hr2⟩ : ∃ b : Bool, b = true ↔ NmOk xs := by
    rcases Classical.em (NmOk xs) with h | h
    · exact ⟨true, by simp [h]⟩
    · exact ⟨false, by simp [h]⟩
  have HR2 := Lib.hid hr2
  clear hr2
  go_wp2_with (fail)
  go_at_call 74
  refine (c_nameOthers A c xs r2 HR2.out w1 (H.out.on K1.out (Nat.le_refl _))).mono ?_
  rintro e w2 ⟨rfl, b2⟩
  have K2 := Lib.hid (below_join K1.out b2 K1.out.size)
  clear b2
  cases r2
  · go_wp2_with (fail)
    exact HE.out 2 w2 (by unfold rdN; rw [if_neg HN1.out, if_pos (fun h => by have := HR2.out.2 h; cases this)]) (by decide) K2.out
  have HOK := Lib.hid (HR2.out.1 (by trivial))
  have HLEN := Lib.hid (show xs.length ≤ 12 by omega)
  go_wp2_with (fail)
  go_at_call 75
  refine (c_follow A c xs HLEN.out HOK.out w2 (H.out.on K2.out (Nat.le_refl _))).mono ?_
  rintro e w3 ⟨g, rfl, hg, hblk, b3⟩
  have K3 := Lib.hid (below_join K2.out b3 K2.out.size)
  have HBK := Lib.hid (show Blk w3 g xs.length (ordF xs) from hblk)
  have HGE := Lib.hid (show w.heap.size ≤ g from Nat.le_trans K2.out.size hg)
  clear b3 hblk hg hd
  go_wp2_with (fail)
  go_loopw [23] (fun i wr => ∃ k : Nat, k ≤ xs.length ∧ i = .int .i64 (k : Int) ∧ Hid (Below w.heap.size w wr) ∧ Hid (Blk wr g xs.length (ordF xs)) ∧ Hid (∀ j, j < k → (ordF xs j).testBit j = false)) (fun i _ => xs.length - (intOf i).toNat)
  case atStart => exact ⟨0, Nat.zero_le _, rfl, K3, HBK, Lib.hid (fun j hj => absurd hj (by omega))⟩
  case round =>
    obtain ⟨k, hk, rfl, hC, hF, hno⟩ := hrel
    have hki : ((k : Nat) : Int).toNat = k := by omega
    by_cases hlt : k < xs.length
    · have hkl : (k : Int) < ((xs.length : Nat) : Int) := by omega
      have b0 := hF.out.at_ hlt
      have hs12 := ordF_lt HLEN.out HOK.out k
      rcases hb : (ordF xs k).testBit k with _ | _
      · have HB := Lib.hid (show (decide (0 ≤ (k : Int)) && (ordF xs k).testBit ((k : Nat) : Int).toNat) = false by rw [hki, hb]; simp)
        have HNN := Lib.hid (show ∀ j, j < k + 1 → (ordF xs j).testBit j = false from fun j hj => by
          rcases Nat.lt_or_ge j k with h | h
          · exact hno.out j h
          · obtain rfl : j = k := by omega
            exact hb)
        obtain ⟨s, hs⟩ : ∃ s, ordF xs k = s := ⟨_, rfl⟩
        rw [hs] at b0 hs12 HB
        clear hb hs
        go_wp2_with (go_at_call 76; refine (c_has s (by omega) (k : Int) false HB.out _).mono ?_; rintro e w1 ⟨rfl, hw1⟩; rw [hw1]; clear hw1 w1)
        go_roundw
        case rel => exact ⟨k + 1, by omega, by go_num, hC, hF, HNN⟩
        case measure => simp only [intOf]; omega
      · have HB := Lib.hid (show (decide (0 ≤ (k : Int)) && (ordF xs k).testBit ((k : Nat) : Int).toNat) = true by rw [hki, hb]; simp)
        have HLP := Lib.hid (show Loop xs from ⟨k, hlt, hb⟩)
        obtain ⟨s, hs⟩ : ∃ s, ordF xs k = s := ⟨_, rfl⟩
        rw [hs] at b0 hs12 HB
        clear hb hs
        go_wp2_with (go_at_call 76; refine (c_has s (by omega) (k : Int) true HB.out _).mono ?_; rintro e w1 ⟨rfl, hw1⟩; rw [hw1]; clear hw1 w1)
        exact HE.out 12 wr (by unfold rdN; rw [if_neg HN1.out, if_neg (fun h => h HOK.out), if_pos HLP.out]) (by decide) hC.out
    · obtain rfl : k = xs.length := by omega
      have HNL := Lib.hid (show ¬ Loop xs from fun ⟨i, hi, hb⟩ => by rw [hno.out i hi] at hb; cases hb)
      go_wp2_with (fail)
      rw [HRR.out]
      exact ⟨.inr ⟨by unfold rdN; rw [if_neg HN1.out, if_neg (fun h => h HOK.out), if_neg HNL.out], HLEN.out, HOK.out, HNL.out, g, rfl, HGE.out, hF.out⟩, hC.out⟩
end Go.Proofs.Ytjheaeeeeggncaa

namespace Go.Proofs.Ytjheaeeeeggncaa
open Go.RowKit
set_option maxRecDepth 100000
set_option linter.unusedVariables false
set_option linter.unusedSimpArgs false

set_option maxHeartbeats 4000000 in
theorem c_enabled (g n : Nat) (f : Nat → Nat) (hn : n ≤ 12) (hf : ∀ j, f j < 2 ^ 12) (s : Nat) (hs : s < 2 ^ 12) (w : World) (h : Blk w g n f) :
    Calls Try.prog 59 #[.slice (some ⟨g, 0, none⟩) n n, .int .u16 (s : Int)] w fun e w' => e = .returned (.int .u16 ((setB (enB f s) n : Nat) : Int)) ∧ w' = w := by
  have H := Lib.hid h
  have HF := Lib.hid hf
  clear h hf
  go_enter Try.func59, Try.ntmps59
  go_wp2_with (fail)
  go_loopw [5, 9] (fun v i wr => ∃ k : Nat, k ≤ n ∧ v = .int .u16 ((setB (enB f s) k : Nat) : Int) ∧ i = .int .i64 (k : Int) ∧ wr = w) (fun _ i _ => n - (intOf i).toNat)
  case atStart => exact ⟨0, Nat.zero_le _, rfl, rfl, rfl⟩
  case round =>
    obtain ⟨k, hk, rfl, rfl, rfl⟩ := hrel
    have hki : ((k : Nat) : Int).toNat = k := by omega
    obtain ⟨v, hv⟩ : ∃ v, setB (enB f s) k = v := ⟨_, rfl⟩
    have hvl : v < 2 ^ 12 := by rw [← hv]; exact Nat.lt_of_lt_of_le (setB_lt _ _) (Nat.pow_le_pow_right (by omega) (by omega))
    have HV := Lib.hid hv
    rw [hv]
    clear hv
    by_cases hlt : k < n
    · have hkl : (k : Int) < (n : Int) := by omega
      have b0 := H.out.at_ hlt
      have hq := HF.out k
      have HNX := Lib.hid (show setB (enB f s) (k + 1) = if enB f s k = true then v ||| 1 <<< k else v by rw [← HV.out]; rfl)
      rcases hb : s.testBit k with _ | _
      · have HB := Lib.hid (show (decide (0 ≤ (k : Int)) && s.testBit ((k : Nat) : Int).toNat) = false by rw [hki, hb]; simp)
        rcases hc : decide (f k &&& s = f k) with _ | _
        · have HE := Lib.hid (show setB (enB f s) (k + 1) = v by rw [HNX.out, if_neg (by unfold enB; rw [hb, hc]; simp)])
          obtain ⟨q, hq0⟩ : ∃ q, f k = q := ⟨_, rfl⟩
          rw [hq0] at b0 hq hc
          have HC := Lib.hid hc
          clear hb hc hq0
          go_wp2_with first
            | (go_at_call 76; refine (c_has s (by omega) (k : Int) false HB.out _).mono ?_; rintro e w1 ⟨rfl, hw1⟩; rw [hw1]; clear hw1 w1)
            | (go_at_call 79; refine (c_contains s q (by omega) (by omega) false HC.out _).mono ?_; rintro e w1 ⟨rfl, hw1⟩; rw [hw1]; clear hw1 w1)
          go_roundw
          case rel => exact ⟨k + 1, by omega, by rw [HE.out], by go_num, trivial⟩
          case measure => simp only [intOf]; omega
        · have HE := Lib.hid (show setB (enB f s) (k + 1) = v ||| 1 <<< k by rw [HNX.out, if_pos (by unfold enB; rw [hb, hc]; rfl)])
          obtain ⟨q, hq0⟩ : ∃ q, f k = q := ⟨_, rfl⟩
          rw [hq0] at b0 hq hc
          have HC := Lib.hid hc
          clear hb hc hq0
          go_wp2_with first
            | (go_at_call 76; refine (c_has s (by omega) (k : Int) false HB.out _).mono ?_; rintro e w1 ⟨rfl, hw1⟩; rw [hw1]; clear hw1 w1)
            | (go_at_call 79; refine (c_contains s q (by omega) (by omega) true HC.out _).mono ?_; rintro e w1 ⟨rfl, hw1⟩; rw [hw1]; clear hw1 w1)
            | (go_at_call 80; refine (c_with v k (by omega) (by omega) _).mono ?_; rintro e w1 ⟨rfl, hw1⟩; rw [hw1]; clear hw1 w1)
          go_roundw
          case rel => exact ⟨k + 1, by omega, by rw [HE.out], by go_num, trivial⟩
          case measure => simp only [intOf]; omega
      · have HB := Lib.hid (show (decide (0 ≤ (k : Int)) && s.testBit ((k : Nat) : Int).toNat) = true by rw [hki, hb]; simp)
        have HE := Lib.hid (show setB (enB f s) (k + 1) = v by rw [HNX.out, if_neg (by unfold enB; rw [hb]; simp)])
        clear hb
        go_wp2_with (go_at_call 76; refine (c_has s (by omega) (k : Int) true HB.out _).mono ?_; rintro e w1 ⟨rfl, hw1⟩; rw [hw1]; clear hw1 w1)
        go_roundw
        case rel => exact ⟨k + 1, by omega, by rw [HE.out], by go_num, trivial⟩
        case measure => simp only [intOf]; omega
    · obtain rfl : k = n := by omega
      go_wp2_with (fail)
      go_ret
      exact ⟨(show Ending.returned (.int .u16 (v : Int)) = .returned (.int .u16 ((setB (enB f s) k : Nat) : Int)) by rw [HV.out]), rfl⟩
theorem all16 {n : Nat} (hn : n ≤ 12) : IntKind.u16.wrap (IntKind.u16.wrap (2 ^ n) - 1) = ((2 ^ n - 1 : Nat) : Int) := by
  have h1 : (2 : Nat) ^ n ≤ 4096 := Nat.le_trans (Nat.pow_le_pow_right (by omega) hn) (by decide)
  have h0 : 1 ≤ (2 : Nat) ^ n := Nat.one_le_two_pow
  have h2 : IntKind.u16.wrap ((2 : Int) ^ n) = ((2 ^ n : Nat) : Int) := by
    have e : ((2 : Int) ^ n) = ((2 ^ n : Nat) : Int) := by simp
    rw [e]
    exact wrap16 _ (by omega)
  rw [h2, show (((2 ^ n : Nat) : Int) - 1) = ((2 ^ n - 1 : Nat) : Int) by omega]
  exact wrap16 _ (by omega)
set_option maxHeartbeats 4000000 in
theorem c_all (A : Option Addr) (c n : Nat) (hn : n ≤ 12) (w : World) :
    Calls Try.prog 78 #[.slice A n c] w fun e w' => e = .returned (.int .u16 ((2 ^ n - 1 : Nat) : Int)) ∧ w' = w := by
  have hb := all16 hn
  obtain ⟨v, hv⟩ : ∃ v : Nat, 2 ^ n - 1 = v := ⟨_, rfl⟩
  rw [hv] at hb ⊢
  clear hv
  go_enter Try.func78, Try.ntmps78
  go_wp2_with (fail)
  go_ret
  exact ⟨rfl, rfl⟩
set_option maxHeartbeats 4000000 in
theorem c_setOf (A : Option Addr) (c n : Nat) (hn : n ≤ 12) (x y : Int) (r : Bool) (hr : r = true ↔ 0 ≤ x ∧ x < 2 ^ n) (hy : y = if r = true then x else 0) (w : World) :
    Calls Try.prog 54 #[.slice A n c, .int .i64 x] w fun e w' => e = .returned (.tuple #[.int .u16 y, .bool r]) ∧ w' = w := by
  have h1 : (2 : Nat) ^ n ≤ 4096 := Nat.le_trans (Nat.pow_le_pow_right (by omega) hn) (by decide)
  have h0 : 1 ≤ (2 : Nat) ^ n := Nat.one_le_two_pow
  have hp : (2 : Int) ^ n = ((2 ^ n : Nat) : Int) := by simp
  obtain ⟨v, hv⟩ : ∃ v : Nat, 2 ^ n - 1 = v := ⟨_, rfl⟩
  have HV := Lib.hid hv
  have hlt : r = true ↔ (0 ≤ x ∧ x ≤ (v : Int)) := by rw [hr, hp]; omega
  have hv2 : v < 4096 := by omega
  clear hv h1 h0 hp hr
  have HA := Lib.hid (c_all A c n hn w)
  rw [HV.out] at HA
  rcases d1 : decide (x < 0) with _ | _
  · rcases d2 : decide ((v : Int) < x) with _ | _
    · have e1 := of_decide_eq_false d1
      have e2 := of_decide_eq_false d2
      have hw : IntKind.u16.wrap x = x := by
        obtain ⟨k, rfl⟩ : ∃ k : Nat, x = k := ⟨x.toNat, by omega⟩
        exact wrap16 _ (by omega)
      obtain rfl : r = true := hlt.2 ⟨by omega, by omega⟩
      obtain rfl : y = x := by rw [hy]; rfl
      clear e1 e2 hlt hy
      go_enter Try.func54, Try.ntmps54
      go_wp2_with (go_at_call 78; refine HA.out.mono ?_; rintro e w1 ⟨rfl, hw1⟩; rw [hw1]; clear hw1 w1)
      go_ret2
      exact ⟨rfl, rfl⟩
    · have e2 := of_decide_eq_true d2
      obtain rfl : r = false := Bool.eq_false_iff.2 fun h => by have := hlt.1 h; omega
      obtain rfl : y = 0 := by rw [hy]; rfl
      clear e2 hlt hy
      go_enter Try.func54, Try.ntmps54
      go_wp2_with (go_at_call 78; refine HA.out.mono ?_; rintro e w1 ⟨rfl, hw1⟩; rw [hw1]; clear hw1 w1)
      go_ret2
      exact ⟨rfl, rfl⟩
  · have e1 := of_decide_eq_true d1
    obtain rfl : r = false := Bool.eq_false_iff.2 fun h => by have := hlt.1 h; omega
    obtain rfl : y = 0 := by rw [hy]; rfl
    clear e1 hlt hy
    go_enter Try.func54, Try.ntmps54
    go_wp2_with (fail)
    go_ret2
    exact ⟨rfl, rfl⟩
end Go.Proofs.Ytjheaeeeeggncaa

namespace Go.Proofs.Ytjheaeeeeggncaa
open Go.RowKit
set_option maxRecDepth 100000
set_option linter.unusedVariables false
set_option linter.unusedSimpArgs false

set_option maxHeartbeats 4000000 in
theorem c_orValid (A : Option Addr) (c : Nat) (xs : List LsV) (w : World) (h : LsAt w A c xs) : Calls Try.prog 18 #[.slice A xs.length c] w fun e w' => e = .returned (.int .i64 (rdN xs)) ∧ Below w.heap.size w w' := by
  have HC := Lib.hid (c_read A c xs w h)
  obtain ⟨N, hN⟩ : ∃ N, rdN xs = N := ⟨_, rfl⟩
  have HN := Lib.hid hN
  rw [hN]
  clear hN h
  go_enter Try.func18, Try.ntmps18
  go_wp2_with (fail)
  go_at_call 48
  refine HC.out.mono ?_
  rintro e w1 ⟨⟨hn, rfl⟩ | ⟨hn, -, -, -, g, rfl, -, -⟩, bb⟩
  · rw [HN.out]
    have HB := Lib.hid bb
    clear bb hn
    go_wp2_with (fail)
    go_ret
    exact ⟨rfl, HB.out⟩
  · obtain rfl : N = 0 := by rw [← HN.out, hn]
    have HB := Lib.hid bb
    clear bb hn
    go_wp2_with (fail)
    go_ret
    exact ⟨rfl, HB.out⟩
end Go.Proofs.Ytjheaeeeeggncaa

namespace Go.Proofs.Ytjheaeeeeggncaa
open Go.RowKit
set_option maxRecDepth 100000
set_option linter.unusedVariables false
set_option linter.unusedSimpArgs false

/-- A row of sets as numbers. -/
def bsI (n : Nat) (f : Nat → Nat) : List Value := (List.range n).map fun i => .int .i64 ((f i : Nat) : Int)
theorem bsI_len (n : Nat) (f : Nat → Nat) : (bsI n f).length = n := by simp [bsI]
theorem bsI_at {n i : Nat} (f : Nat → Nat) (h : i < n) : (bsI n f)[i]? = some (.int .i64 ((f i : Nat) : Int)) := by simp [bsI, h]
theorem bsI_set {n i : Nat} {f f' : Nat → Nat} (hi : i < n) (h : ∀ j, j < n → j ≠ i → f' j = f j) : (bsI n f).set i (.int .i64 ((f' i : Nat) : Int)) = bsI n f' := by
  apply List.ext_getElem?
  intro j
  rw [List.getElem?_set]
  by_cases e : i = j
  · subst e; rw [if_pos rfl, bsI_len, if_pos hi, bsI_at _ hi]
  · rw [if_neg e]
    by_cases hj : j < n
    · rw [bsI_at _ hj, bsI_at _ hj, h j hj (fun x => e x.symm)]
    · rw [List.getElem?_eq_none (by rw [bsI_len]; omega), List.getElem?_eq_none (by rw [bsI_len]; omega)]
theorem bsI_congr {n : Nat} {f f' : Nat → Nat} (h : ∀ j, j < n → f' j = f j) : bsI n f' = bsI n f := List.map_congr_left fun j hj => by rw [h j (List.mem_range.1 hj)]
def Bki (w : World) (g n : Nat) (f : Nat → Nat) : Prop := w.heap[g]? = some (.cells (bsI n f).toArray 3 (0, 0))
theorem Bki.at_ {w : World} {g n i : Nat} {f : Nat → Nat} (h : Bki w g n f) (hi : i < n) : w.cell? ⟨g, i, none⟩ = some (.int .i64 ((f i : Nat) : Int)) := cell_of h (by rw [List.getElem?_toArray]; exact bsI_at f hi)
theorem Bki.set {w : World} {g n i : Nat} {f f' : Nat → Nat} (h : Bki w g n f) (hi : i < n) (hf : ∀ j, j < n → j ≠ i → f' j = f j) : Bki (w.setCell ⟨g, i, none⟩ (.int .i64 ((f' i : Nat) : Int))) g n f' := by
  have := set_field (o := i) h (.int .i64 ((f' i : Nat) : Int))
  unfold Bki
  rw [this, List.setIfInBounds_toArray, bsI_set hi hf]
theorem Bki.congr {w : World} {g n : Nat} {f f' : Nat → Nat} (h : Bki w g n f) (hf : ∀ j, j < n → f' j = f j) : Bki w g n f' := by unfold Bki; rw [bsI_congr hf]; exact h
def natsL (l : List Int) : List Nat := l.map Int.toNat
def lstF (xs : List LsV) (j : Nat) : List Nat := natsL (lAt xs j)
end Go.Proofs.Ytjheaeeeeggncaa

namespace Go.Proofs.Ytjheaeeeeggncaa
open Go.RowKit
set_option maxRecDepth 100000
set_option linter.unusedVariables false
set_option linter.unusedSimpArgs false

theorem lstF_lt {xs : List LsV} (hok : NmOk xs) (j k : Nat) (h : k ∈ lstF xs j) : k < xs.length := by
  unfold lstF natsL at h
  obtain ⟨z, hz, rfl⟩ := List.mem_map.1 h
  unfold lAt at hz
  cases hx : xs[j]? with
  | none => rw [hx] at hz; simp at hz
  | some x => rw [hx] at hz; have := hok j x hx z (by simpa using hz); omega
end Go.Proofs.Ytjheaeeeeggncaa

namespace Go.Proofs.Ytjheaeeeeggncaa
open Go.RowKit
set_option maxRecDepth 100000
set_option linter.unusedVariables false
set_option linter.unusedSimpArgs false

theorem lst_next (k s : Nat) : lst (k + 1) s = lst k s ++ if s.testBit k = true then [k] else [] := by
  unfold lst
  rw [List.range_succ, List.filter_append]
  by_cases h : s.testBit k = true <;> simp [h]
theorem lst_len (k s : Nat) : (lst k s).length ≤ k := by
  unfold lst
  exact Nat.le_trans (List.length_filter_le _ _) (by simp)
/-- Elements as cells. -/
def elV (l : List Nat) : List Value := l.map fun i => .int .i64 ((i : Nat) : Int)
theorem elV_snoc (l : List Nat) (k : Nat) : elV (l ++ [k]) = elV l ++ [.int .i64 (k : Int)] := by simp [elV]
end Go.Proofs.Ytjheaeeeeggncaa

namespace Go.Proofs.Ytjheaeeeeggncaa
open Go.RowKit
set_option maxRecDepth 100000
set_option linter.unusedVariables false
set_option linter.unusedSimpArgs false

theorem li_info : (Try.prog.info? 33).map (fun i => (i.zero, i.size, i.bytes)) = some (some (.slice none 0 0), 1, 24) := by kernel_rfl
theorem own_apart {X : World} {b1 b2 s1 s2 n m : Nat} {T1 T2 : TypeId} {xs ys : List Value} {v u : Value} (h1 : X.ownsRow b1 T1 s1 v n xs) (h2 : X.ownsRow b2 T2 s2 u m ys) (hne : T1 ≠ T2) : u.ownBlock = none ∨ u.ownBlock ≠ v.ownBlock := by
  obtain ⟨-, ⟨rfl, -⟩ | ⟨g', cap', cur', rfl, -, k4, -⟩⟩ := h2
  · exact .inl rfl
  · refine .inr fun e => ?_
    obtain ⟨-, ⟨rfl, -⟩ | ⟨g, cap, cur, rfl, -, e4, -⟩⟩ := h1
    · cases e
    · have e : some g' = some g := e
      injection e with e
      subst e
      rw [e4] at k4
      injection k4 with k4
      injection k4 with _ k4
      exact hne k4
/-- A list of lists that a function makes, all its rows its own. -/
def OutL (base : Nat) (wr : World) (v : Value) (ys : List LsV) : Prop :=
  wr.ownsRow base 33 1 v ys.length (cellsV 1 lsV ys) ∧ ∀ y ∈ ys, wr.ownsRow base 3 1 (.slice y.A y.l.length y.c) y.l.length (cellsV 1 inV y.l)
theorem OutL.on {base B : Nat} {w w' : World} {v : Value} {ys : List LsV} (h : OutL base w v ys) (hb : Below B w w') (hB : w.heap.size ≤ B) : OutL base w' v ys := ⟨own_on h.1 hb hB, fun y hy => own_on (h.2 y hy) hb hB⟩
theorem OutL.push {base : Nat} {X Z : World} {v : Value} {ys : List LsV} {g4 cap : Nat} (h : OutL base X v ys) (y : LsV) (hy : X.ownsRow base 3 1 (.slice y.A y.l.length y.c) y.l.length (cellsV 1 inV y.l))
    (hown : Z.ownsRow base 33 1 (.slice (some ⟨g4, 0, none⟩) (ys.length + 1) cap) (ys.length + 1) (cellsV 1 lsV ys ++ [.slice y.A y.l.length y.c]))
    (hgrow : (X.alloc (.cells #[.slice y.A y.l.length y.c] 33)).grownBy Z v.ownBlock) : OutL base Z (.slice (some ⟨g4, 0, none⟩) (ys.length + 1) cap) (ys ++ [y]) := by
  have e : (ys ++ [y]).length = ys.length + 1 := by simp
  refine ⟨?_, fun z hz => ?_⟩
  · rw [e, cellsV_append]; exact hown
  · have hx : X.ownsRow base 3 1 (.slice z.A z.l.length z.c) z.l.length (cellsV 1 inV z.l) := by
      rcases List.mem_append.1 hz with hz | hz
      · exact h.2 z hz
      · rw [List.mem_singleton] at hz; subst hz; exact hy
    exact (hx.alloc _).kept hgrow (own_apart (h.1) hx (by decide))
theorem OutL.ls {base : Nat} {w : World} {v : Value} {ys : List LsV} (h : OutL base w v ys) : ∃ A c, v = .slice A ys.length c ∧ LsAt w A c ys := by
  obtain ⟨A, c, e, hr⟩ := own_rv h.1
  refine ⟨A, c, e, hr, fun y hy => ?_⟩
  obtain ⟨A', c', e', hr'⟩ := own_rv (h.2 y hy)
  injection e' with e1 _ e2
  rw [e1, e2]; exact hr'
def intsN (l : List Nat) : List Int := l.map fun (i : Nat) => (i : Int)
theorem elV_ints (l : List Nat) : elV l = cellsV 1 inV (intsN l) := by
  unfold elV cellsV intsN
  induction l with
  | nil => rfl
  | cons x l ih => simp [List.flatMap_cons, inV] at ih ⊢; exact ih
theorem intsN_len (l : List Nat) : (intsN l).length = l.length := by simp [intsN]
/-- Sets as lists. -/
def setsL (f : Nat → Nat) (k : Nat) : List (List Int) := (List.range k).map fun j => intsN (lst 12 (f j))
/-- What Closure and Reduce answer. -/
def LsTo (w : World) (n : Int) (L : List (List Int)) (e : Ending) (w' : World) : Prop :=
  ((n ≠ 0 ∧ e = .returned (.tuple #[.slice none 0 0, .int .i64 n])) ∨ (n = 0 ∧ ∃ v ys, e = .returned (.tuple #[v, .int .i64 0]) ∧ OutL w.heap.size w' v ys ∧ ys.map (·.l) = L)) ∧ Below w.heap.size w w'
end Go.Proofs.Ytjheaeeeeggncaa

namespace Go.Proofs.Ytjheaeeeeggncaa
open Go.RowKit
set_option maxRecDepth 100000
set_option linter.unusedVariables false
set_option linter.unusedSimpArgs false

open Classical in
/-- The error of lists and a set. -/
noncomputable def askN (xs : List LsV) (x : Int) : Int := if rdN xs ≠ 0 then rdN xs else if 0 ≤ x ∧ x < ((2 ^ xs.length : Nat) : Int) then 0 else 2
end Go.Proofs.Ytjheaeeeeggncaa

namespace Go.Proofs.Ytjheaeeeeggncaa
open Go.RowKit Go.Shelf
attribute [local go_sem] Oper.semAt_some
set_option maxRecDepth 100000
set_option linter.unusedVariables false
set_option linter.unusedSimpArgs false

/-- The cells of some blocks stand. -/
structure KpG (Gd : Nat → Prop) (X Y : World) : Prop where
  size : X.heap.size ≤ Y.heap.size
  same : ∀ (k : Nat) (cs : Array Value) (t : TypeId) (fr : Nat × Nat), Gd k → X.heap[k]? = some (.cells cs t fr) → Y.heap[k]? = some (.cells cs t fr)
/-- An iterator's own steps: S: where its blocks begin; m: how many boxes of its own it has. -/
structure OwnIt (S m : Nat) (X Y : World) : Prop where
  os : Y.os = X.os
  tape : Y.tape = X.tape
  output : Y.output = X.output
  size : X.heap.size ≤ Y.heap.size
  same : ∀ (k : Nat) (o : Obj), X.heap[k]? = some o → (k < S ∨ (o.isCells = true ∧ S + m ≤ k)) → Y.heap[k]? = some o
/-- What a round that goes on keeps: the cells of some blocks and of the iterator's boxes; what is no cells from S on. -/
structure KpIt (S m : Nat) (Gd : Nat → Prop) (X Y : World) : Prop where
  size : X.heap.size ≤ Y.heap.size
  cells : ∀ (k : Nat) (cs : Array Value) (t : TypeId) (fr : Nat × Nat), (Gd k ∨ (S ≤ k ∧ k < S + m)) → X.heap[k]? = some (.cells cs t fr) → Y.heap[k]? = some (.cells cs t fr)
  others : ∀ (k : Nat) (o : Obj), S ≤ k → X.heap[k]? = some o → o.isCells = false → Y.heap[k]? = some o
section
variable {Gd : Nat → Prop} {S m : Nat} {X Y Z : World}
theorem KpG.refl (X : World) : KpG Gd X X := ⟨Nat.le_refl _, fun _ _ _ _ _ h => h⟩
theorem KpG.trans (h : KpG Gd X Y) (k : KpG Gd Y Z) : KpG Gd X Z := ⟨Nat.le_trans h.size k.size, fun i cs t fr g hi => k.same i cs t fr g (h.same i cs t fr g hi)⟩
theorem KpG.of_below {B : Nat} (h : Below B X Y) (hB : X.heap.size ≤ B) : KpG Gd X Y := ⟨h.size, fun k _ _ _ _ hk => (h.block k (Nat.lt_of_lt_of_le (at_lt hk) hB)).trans hk⟩
theorem OwnIt.refl (X : World) : OwnIt S m X X := ⟨rfl, rfl, rfl, Nat.le_refl _, fun _ _ h _ => h⟩
theorem OwnIt.trans (h : OwnIt S m X Y) (k : OwnIt S m Y Z) : OwnIt S m X Z := ⟨k.os.trans h.os, k.tape.trans h.tape, k.output.trans h.output, Nat.le_trans h.size k.size, fun i o hi ho => k.same i o (h.same i o hi ho) ho⟩
theorem OwnIt.of_below {B : Nat} (h : Below B X Y) (hB : X.heap.size ≤ B) : OwnIt S m X Y := ⟨h.os, h.tape, h.output, h.size, fun k _ hk _ => (h.block k (Nat.lt_of_lt_of_le (at_lt hk) hB)).trans hk⟩
theorem put_else {W : World} {l k : Nat} {o' : Obj} {o : Obj} (hk : W.heap[k]? = some o) (hne : k ≠ l) : (W.putObj l o').heap[k]? = some o := (World.putObj_heap_other hne).trans hk
theorem put_here {W : World} {l : Nat} {o : Obj} (o' : Obj) (hl : W.heap[l]? = some o) : (W.putObj l o').heap[l]? = some o' := World.putObj_heap_same (Array.getElem?_eq_some_iff.1 hl).1
theorem put_cells {l : Nat} {o o' : Obj} {k : Nat} {cs : Array Value} {T : TypeId} {fr : Nat × Nat} (hk : X.heap[k]? = some (.cells cs T fr)) (hl : X.heap[l]? = some o) (ho : o.isCells = false) : (X.putObj l o').heap[k]? = some (.cells cs T fr) :=
  put_else hk (fun e => by subst e; rw [hl] at hk; cases hk; cases ho)
theorem OwnIt.put {l : Nat} {o : Obj} (o' : Obj) (hS : S ≤ l) (hl : X.heap[l]? = some o) (ho : o.isCells = false) : OwnIt S m X (X.putObj l o') :=
  ⟨rfl, rfl, rfl, by simp, fun k u hk hu => put_else hk (fun e => by
    subst e
    rw [hl] at hk; cases hk
    rcases hu with h | h
    · omega
    · rw [ho] at h; cases h.1)⟩
theorem OwnIt.store {b : Nat} (h : S ≤ b) (h2 : b < S + m) (x : Value) (o : Nat) : OwnIt S m X (X.setCell ⟨b, o, none⟩ x) :=
  ⟨rfl, rfl, rfl, by simp [World.setCell], fun k u hk hu => by
    have hne : k ≠ b := by rcases hu with h1 | h1 <;> omega
    rw [Below.heap_setCell _ ⟨b, o, none⟩ x k hne]; exact hk⟩
theorem KpG.put {l : Nat} {o : Obj} (o' : Obj) (hl : X.heap[l]? = some o) (ho : o.isCells = false) : KpG Gd X (X.putObj l o') :=
  ⟨by simp, fun k cs t fr _ hk => put_cells hk hl ho⟩
theorem KpIt.refl (X : World) : KpIt S m Gd X X := ⟨Nat.le_refl _, fun _ _ _ _ _ h => h, fun _ _ _ h _ => h⟩
theorem KpIt.trans (h : KpIt S m Gd X Y) (k : KpIt S m Gd Y Z) : KpIt S m Gd X Z :=
  ⟨Nat.le_trans h.size k.size, fun i cs t fr g hi => k.cells i cs t fr g (h.cells i cs t fr g hi), fun i o hS hi ho => k.others i o hS (h.others i o hS hi ho) ho⟩
theorem KpIt.put {l : Nat} {o : Obj} (o' : Obj) (hS : l < S) (hl : X.heap[l]? = some o) (ho : o.isCells = false) : KpIt S m Gd X (X.putObj l o') :=
  ⟨by simp, fun k cs t fr _ hk => put_cells hk hl ho, fun k u hk hu _ => put_else hu (by omega)⟩
theorem KpIt.of_below {B : Nat} (h : Below B X Y) (hB : X.heap.size ≤ B) : KpIt S m Gd X Y :=
  ⟨h.size, fun k _ _ _ _ hk => (h.block k (Nat.lt_of_lt_of_le (at_lt hk) hB)).trans hk, fun k _ _ hk _ => (h.block k (Nat.lt_of_lt_of_le (at_lt hk) hB)).trans hk⟩
theorem KpIt.good (h : KpIt S m Gd X Y) : KpG Gd X Y := ⟨h.size, fun k cs t fr g hk => h.cells k cs t fr (.inl g) hk⟩
theorem KpIt.from (h : KpIt S m Gd X Y) : KeepsFrom S X Y := ⟨h.size, fun k o hS hk ho => h.others k o hS hk ho⟩
theorem kf_up {B B' : Nat} (h : KeepsFrom B X Y) (hB : B ≤ B') : KeepsFrom B' X Y := ⟨h.size, fun k o hk ho => h.same k o (by omega) ho⟩
theorem kf_put {B l : Nat} (o' : Obj) (hS : l < B) : KeepsFrom B X (X.putObj l o') := ⟨by simp, fun k u hk hu _ => put_else hu (by omega)⟩
theorem kf_below {A B : Nat} (h : Below B X Y) (hB : X.heap.size ≤ B) : KeepsFrom A X Y := ⟨h.size, fun k _ _ hk _ => (h.block k (Nat.lt_of_lt_of_le (at_lt hk) hB)).trans hk⟩
theorem kf_store {B b o : Nat} (x : Value) {cs : Array Value} {t : TypeId} {fr : Nat × Nat} (hb : X.heap[b]? = some (.cells cs t fr)) : KeepsFrom B X (X.setCell ⟨b, o, none⟩ x) :=
  ⟨by simp [World.setCell], fun k u _ hk hu => by
    have hne : k ≠ b := fun e => by subst e; rw [hb] at hk; cases hk; cases hu
    rw [Below.heap_setCell _ ⟨b, o, none⟩ x k hne]; exact hk⟩
theorem calls_wide {n : Nat} {P : Program} {f : FuncId} {args : Array Value} {w : World} {R : Ending → World → Prop} (h : Calls P f args w R) : CallsIn Fence.wide n P f args w R := callsIn_wide.2 h
end
/-- What an iterator is: whatever holds between two rounds and abides the iterator's own steps, holds behind all rounds, or a round has left. -/
def SeqIt {α : Type} (n : Nat) (P : Program) (g : Nat) (fb lb : Array Value) (m : Nat) (Gd : Nat → Prop) (ok : Array Value → α → Prop) (ts : List α) (w : World) : Prop :=
  ∀ (l : Nat) (J Jx : List α → World → Prop) (W : World), KpG Gd w W → l < W.heap.size →
    (∀ pre X Y, J pre X → OwnIt W.heap.size m X Y → J pre Y) → (∀ pre X Y, Jx pre X → OwnIt W.heap.size m X Y → Jx pre Y) →
    (∀ pre v t W1, J pre W1 → W.heap.size + m ≤ W1.heap.size → ok v t → pre ++ [t] <+: ts → YieldAt Fence.wide (n - 1) P l v W1 fun e W' =>
      (e = .returned (.bool true) ∧ J (pre ++ [t]) W' ∧ KpIt W.heap.size m Gd W1 W') ∨ (e = .returned (.bool false) ∧ Jx (pre ++ [t]) W' ∧ KeepsFrom W.heap.size W1 W')) →
    J [] W →
    CallsIn Fence.wide n P g (fb ++ #[.func (.yield l) #[] #[]] ++ lb) W fun e W' => (∃ v, e = .returned v) ∧ (J ts W' ∨ ∃ pre, pre <+: ts ∧ Jx pre W')

theorem YieldAt.any {m : Nat} (m' : Nat) {P : Program} {l : Nat} {args : Array Value} {W : World} {R : Ending → World → Prop} (h : YieldAt Fence.wide m P l args W R) : YieldAt Fence.wide m' P l args W R := by
  obtain ⟨fn, tmps, assign, body, hy, hR⟩ := h
  exact ⟨fn, tmps, assign, body, hy, ⟨hR.1, fun c cs _ => hR.2 c cs (room_wide _)⟩⟩
section
variable {α : Type} {n : Nat} {P : Program}
theorem wpIn_it {g : Operand} {ps : Array Tmp} {assign body : Code} {Q : Exit → Act → World → Prop} {a : Act} {w : World}
    (h1 : 1 ≤ n) {gf : Nat} {fb lb : Array Value} (hg : a.eval g = .func (.func gf) fb lb) (eg : ∀ args w, (callFunc gf args).run P w = .ok (.enter gf args) w)
    {m : Nat} {Gd : Nat → Prop} {ok : Array Value → α → Prop} {ts : List α} {w0 : World} (hseq : SeqIt (n - 1) P gf fb lb m Gd ok ts w0) (hb0 : KpG Gd w0 w) (hps : ∀ v t, ok v t → v.size = ps.size)
    (I : List α → World → Prop) (Ix : Code → List α → World → Prop)
    (hIE : ∀ pre X Y, I pre X → OwnIt (w.heap.size + 2) m X Y → I pre Y) (hXE : ∀ c pre X Y, Ix c pre X → OwnIt (w.heap.size + 2) m X Y → Ix c pre Y)
    (hIP : ∀ (pre : List α) (X : World) (l : Nat) (o o' : Obj), I pre X → l = w.heap.size ∨ l = w.heap.size + 1 → X.heap[l]? = some o → o.isCells = false → I pre (X.putObj l o'))
    (hXP : ∀ (c : Code) (pre : List α) (X : World) (l : Nat) (o o' : Obj), Ix c pre X → l = w.heap.size ∨ l = w.heap.size + 1 → X.heap[l]? = some o → o.isCells = false → Ix c pre (X.putObj l o'))
    (h0 : I [] w)
    (hround : ∀ (l : Nat) (pre : List α) (v : Array Value) (t : α) (W : World) (K : Act → World → Prop), pre ++ [t] <+: ts → ok v t →
      (∀ (a' : Act) (W' : World), Below W.heap.size W W' → (∀ X : World, (∃ o o' : Obj, W'.heap[l]? = some o ∧ o.isCells = false ∧ X = W'.putObj l o') → w.heap.size + 2 + m ≤ X.heap.size → I pre X → body.wpIn (Fence.wide.inRound l) (n - 1 - 1) P (ownPostG w.heap.size (KpIt (w.heap.size + 2) m Gd) I Ix (pre ++ [t]) X) a' X) → K a' W') →
      assign.wpIn (Fence.wide.inRound l) (n - 1 - 1) P (Exit.then K (fun _ _ _ => False)) { tmps := (ps.zip v).foldl (fun t (p, v) => t.setIfInBounds p v) a.tmps, defers := [] } W)
    (hdone : ∀ (D : Nat) (W : World), D = w.heap.size → I ts W → W.heap[D]? = some (.deferred (some [])) → Q .normal { a with defers := { target := .collected D, args := #[] } :: a.defers } W)
    (hstop : ∀ (D : Nat) (c : Code) (pre : List α) (W : World), D = w.heap.size → pre <+: ts → Ix c pre W → W.heap[D]? = some (.deferred (some [])) → c.wpIn Fence.wide n P Q { a with defers := { target := .collected D, args := #[] } :: a.defers } W) :
    (Code.rangeFunc g ps assign body).wpIn Fence.wide n P Q a w := by
  refine wpIn_rangeFunc fun fn hfn => ?_
  let D := w.heap.size
  let rec0 : LoopState → Option Code → Go.Loop := fun st pe => { state := st, pending := pe, fn, tmps := a.tmps, params := ps, assign, body, defers := D }
  obtain ⟨V, hV⟩ : ∃ V, (w.alloc (.deferred (some []))).alloc (.loop (rec0 .ready none)) = V := ⟨_, rfl⟩
  have sV : (w.alloc (.deferred (some []))).heap.size = D + 1 := World.size_alloc ..
  have sV2 : V.heap.size = w.heap.size + 2 := by rw [← hV, World.size_alloc, sV]
  have lV : V.heap[D + 1]? = some (.loop (rec0 .ready none)) := by
    have := World.alloc_heap_new (w.alloc (.deferred (some []))) (.loop (rec0 .ready none))
    rwa [sV, hV] at this
  have dV : V.heap[D]? = some (.deferred (some [])) := by
    rw [← hV]
    exact (Below.heap_alloc _ _ _ (by rw [sV]; exact Nat.lt_succ_self _)).trans (World.alloc_heap_new w _)
  have bV : Below w.heap.size w V := by rw [← hV]; exact ((Below.refl _ w).alloc (Nat.le_refl _) _).alloc (by rw [sV]; exact Nat.le_succ _) _
  have iV : I [] V := hIE _ _ _ h0 (OwnIt.of_below bV (Nat.le_refl _))
  refine ⟨D + 1, [{ target := .collected D, args := #[] }], V, { target := .fn (.func gf) lb, args := fb ++ #[.func (.yield (D + 1)) #[] #[]] }, V, gf, fb ++ #[.func (.yield (D + 1)) #[] #[]] ++ lb, V, ?_, ?_, ?_, ?_, fun _ => h1, ?_⟩
  · rw [← hV]; exact run_enterLoop_outer _ _ _ _ _
  · simp only [resolve, hg]; simp [go_sem]
  · intro f' hf'; trivial
  · simp [invoke, go_sem, eg]
  -- between two rounds the record is ready and nothing is deferred; a round that has left lays its jump
  refine (hseq (D + 1) (fun pre W => I pre W ∧ W.heap[D + 1]? = some (.loop (rec0 .ready none)) ∧ W.heap[D]? = some (.deferred (some [])))
    (fun pre W => ∃ c, Ix c pre W ∧ W.heap[D + 1]? = some (.loop (rec0 .done (some c))) ∧ W.heap[D]? = some (.deferred (some []))) V (hb0.trans (KpG.of_below bV (Nat.le_refl _))) (by rw [sV2]; exact Nat.lt_succ_self _)
    (fun pre X Y h hE => ?_) (fun pre X Y h hE => ?_) ?_ ⟨iV, lV, dV⟩).mono ?_
  · rw [sV2] at hE
    exact ⟨hIE _ _ _ h.1 hE, hE.same _ _ h.2.1 (.inl (Nat.lt_succ_self _)), hE.same _ _ h.2.2 (.inl (by show w.heap.size < _; omega))⟩
  · rw [sV2] at hE
    obtain ⟨c, hc, hl, hd⟩ := h
    exact ⟨c, hXE _ _ _ _ hc hE, hE.same _ _ hl (.inl (Nat.lt_succ_self _)), hE.same _ _ hd (.inl (by show w.heap.size < _; omega))⟩
  · rw [sV2]
    rintro pre v t W ⟨hi, hl, hd⟩ hsz hv hpre
    refine ⟨fn, _, assign, body, run_yield hl (by simp [rec0, hps _ _ hv]), roundIn_of_wpIn hfn (hround (D + 1) pre v t W _ hpre hv fun a' W' hBW hbody => ⟨_, run_beginRound ((hBW.block _ (Array.getElem?_eq_some_iff.1 hl).1).trans hl) rfl, ?_⟩)⟩
    have hl1 := (hBW.block _ (Array.getElem?_eq_some_iff.1 hl).1).trans hl
    have hd1 := (hBW.block _ (Array.getElem?_eq_some_iff.1 hd).1).trans hd
    have hi1 := hIE pre W W' hi (OwnIt.of_below hBW (Nat.le_refl _))
    have hl2 := put_here (.loop { rec0 .ready none with state := .busy }) hl1
    have hd2 : (W'.putObj (D + 1) (.loop { rec0 .ready none with state := .busy })).heap[D]? = some (.deferred (some [])) := put_else hd1 (by omega)
    have hk2 : KpIt (w.heap.size + 2) m Gd W (W'.putObj (D + 1) (.loop { rec0 .ready none with state := .busy })) := (KpIt.of_below hBW (Nat.le_refl _)).trans (KpIt.put _ (by show w.heap.size + 1 < _; omega) hl1 rfl)
    have hk3 : KeepsFrom (w.heap.size + 2) W (W'.putObj (D + 1) (.loop { rec0 .ready none with state := .busy })) := (kf_below hBW (Nat.le_refl _)).trans (kf_put _ (by show w.heap.size + 1 < _; omega))
    refine wpIn_mono (hbody _ ⟨_, _, hl1, rfl, rfl⟩ (by simp; exact Nat.le_trans hsz hBW.size) (hIP _ _ _ _ _ hi1 (.inr rfl) hl1 rfl)) ?_
    generalize W'.putObj (D + 1) (.loop { rec0 .ready none with state := .busy }) = X at hl2 hd2 hk2 hk3
    -- the end of a round
    have fin : ∀ (jump : Option Code) (Y : World), KeepsFrom w.heap.size X Y → Y.heap[D + 1]? = some (.loop { rec0 .ready none with state := .busy }) ∧
        (Instr.endRound (D + 1) jump).run P Y = .ok (.bool jump.isNone) (Y.putObj (D + 1) (.loop (rec0 (if jump.isNone then .ready else .done) jump))) ∧
        (Y.putObj (D + 1) (.loop (rec0 (if jump.isNone then .ready else .done) jump))).heap[D + 1]? = some (.loop (rec0 (if jump.isNone then .ready else .done) jump)) ∧
        (Y.putObj (D + 1) (.loop (rec0 (if jump.isNone then .ready else .done) jump))).heap[D]? = some (.deferred (some [])) := fun jump Y hY => by
      have l3 := hY.same _ _ (Nat.le_succ _) hl2 rfl
      exact ⟨l3, run_endRound jump l3, put_here _ l3, put_else (hY.same _ _ (Nat.le_refl _) hd2 rfl) (by omega)⟩
    intro e a3 Y hp
    have left : ∀ c : Code, KeepsFrom w.heap.size X Y → Ix c (pre ++ [t]) Y → ∃ v w', (Instr.endRound (D + 1) (some c)).run P Y = .ok v w' ∧ ((Ending.returned v = .returned (.bool true) ∧ (I (pre ++ [t]) w' ∧ w'.heap[D + 1]? = some (.loop (rec0 .ready none)) ∧ w'.heap[D]? = some (.deferred (some []))) ∧ KpIt (w.heap.size + 2) m Gd W w') ∨
        (Ending.returned v = .returned (.bool false) ∧ (∃ c, Ix c (pre ++ [t]) w' ∧ w'.heap[D + 1]? = some (.loop (rec0 .done (some c))) ∧ w'.heap[D]? = some (.deferred (some []))) ∧ KeepsFrom (w.heap.size + 2) W w')) := fun c hY hx => by
      obtain ⟨l3, r3, l4, d4⟩ := fin (some c) Y hY
      exact ⟨_, _, r3, .inr ⟨rfl, ⟨c, hXP _ _ _ _ _ _ hx (.inr rfl) l3 rfl, l4, d4⟩, (hk3.trans (kf_up hY (by omega))).trans (kf_put _ (by show w.heap.size + 1 < _; omega))⟩⟩
    cases e with
    | normal =>
      obtain ⟨hY, hkp, hi3⟩ := hp
      obtain ⟨l3, r3, l4, d4⟩ := fin none Y hY
      exact ⟨_, _, r3, .inl ⟨rfl, ⟨hIP _ _ _ _ _ hi3 (.inr rfl) l3 rfl, l4, d4⟩, (hk2.trans hkp).trans (KpIt.put _ (by show w.heap.size + 1 < _; omega) l3 rfl)⟩⟩
    | ret => exact left .ret hp.1 hp.2
    | exit id => exact left (.exit id) hp.1 hp.2
    | goto t => exact left (.goto t) hp.1 hp.2
    | panic ch => exact hp.elim
    | outgrown => exact hp.elim
  · rintro e Y ⟨⟨v, rfl⟩, ⟨hi, hl, hd⟩ | ⟨pre, hpre, c, hx, hl, hd⟩⟩
    · exact ⟨none, _, run_endLoop hl (by simp [rec0]), hdone D _ rfl (hIP _ _ _ _ _ hi (.inr rfl) hl rfl) (put_else hd (by omega))⟩
    · exact ⟨some c, _, run_endLoop hl (by simp [rec0]), hstop D c pre _ rfl hpre (hXP _ _ _ _ _ _ hx (.inr rfl) hl rfl) (put_else hd (by omega))⟩
end
theorem wpListIn_append_lies {F : Fence} {n : Nat} {P : Program} (w : World) {ops : Array Oper} {rest : List Oper} {o : Oper} {a : Act} {Q : Exit → Act → World → Prop}
    (hg : o.guard = none) (s x : Operand) (t : TypeId) (hop : o.op = Op.call { callee := Callee.builtin Builtin.append, args := #[s, x], argTypes := #[t, t] })
    (base : Nat) (e : TypeId) (i : TypeInfo) (z : Value) (size bytes : Nat) (h1 : P.underlying t = some (.slice e)) (h2 : P.info? e = some i) (h3 : i.zero = some z) (h4 : i.size = size) (h5 : i.bytes = bytes) (h6 : z.cells.size = size) (h7 : 0 < size)
    (v : Value) (k : Nat) (xs : List Value) (hs : a.eval s = v) (hown : w.ownsRow base e size v k xs) (ad : Addr) (m c : Nat) (news : List Value) (hx : a.eval x = .slice (some ad) m c) (hn : news.length = m * size)
    (hc : ∀ j u, news[j]? = some u → w.cell? (ad.add j) = some u) (h1c : ∀ u ∈ news, u.oneCell' = true) (hm : 0 < m) (b1 : k + m ≤ maxLen) (b2 : (k + m) * bytes ≤ 140737488355328) (b3 : base ≤ w.heap.size) (H : Nat) (hH : w.heap.size = H)
    (hK : ∀ g cap w', w'.ownsRow base e size (.slice (some ⟨g, 0, none⟩) (k + m) cap) (k + m) (xs ++ news) → w.grownBy w' v.ownBlock → (v.ownBlock = some g ∨ g = H) → wpListIn F n P ops Q rest (a.put o.dst (.slice (some ⟨g, 0, none⟩) (k + m) cap)) w') :
    wpListIn F n P ops Q (o :: rest) a w := by
  refine wpListIn_plain hg fun K hK' => ?_
  obtain ⟨g, cap, w', hrun, r1, r2, r3, -⟩ := run_append_lies (P := P) w t o.type base e i z size bytes h1 h2 h3 h4 h5 h6 h7 v k xs hown ad m c news hn hc h1c hm b1 b2 b3 H hH
  unfold Oper.wpIn
  refine ⟨?_, ?_⟩
  · simp [Oper.about, hop, resolve, Target.leads, Sem.run_pure]
  · rw [Oper.semAt_plain F _ _ (by rw [hop]; intro c hc'; cases hc')]
    simp [execOp, hop, resolve, invoke, builtin, hs, hx, hrun, Result.andThen]
    exact hK' _ _ (hK g cap w' r1 r2 r3)

theorem below_own {w0 X Y : World} {S m : Nat} (h : Below w0.heap.size w0 X) (hE : OwnIt S m X Y) (hS : w0.heap.size ≤ S) : Below w0.heap.size w0 Y := by
  refine ⟨hE.os.trans h.os, hE.tape.trans h.tape, hE.output.trans h.output, Nat.le_trans h.size hE.size, fun k hk => ?_⟩
  have hlt : k < X.heap.size := Nat.lt_of_lt_of_le hk h.size
  have h3 := Array.getElem?_eq_getElem hlt
  have := hE.same k _ h3 (.inl (by omega))
  rw [this, ← h3]
  exact h.block k hk
theorem below_put {B l : Nat} {o' : Obj} {w X : World} (h : Below B w X) (hl : B ≤ l) : Below B w (X.putObj l o') :=
  ⟨h.os, h.tape, h.output, by simpa using h.size, fun k hk => (World.putObj_heap_other (by omega)).trans (h.block k hk)⟩
theorem own_row_kept {X Y : World} {base : Nat} {e : TypeId} {size n : Nat} {v : Value} {xs : List Value} (h : X.ownsRow base e size v n xs) (hs : ∀ g cur, v.ownBlock = some g → X.heap[g]? = some (.cells cur e (0, 0)) → Y.heap[g]? = some (.cells cur e (0, 0))) : Y.ownsRow base e size v n xs := by
  obtain ⟨k1, h | ⟨g, cap, cur, rfl, k3, k4, k⟩⟩ := h
  · exact ⟨k1, .inl h⟩
  · exact ⟨k1, .inr ⟨g, cap, cur, rfl, k3, hs g cur rfl k4, k⟩⟩
theorem take_snoc {α : Type} {l : List α} {k : Nat} {x : α} (h : l[k]? = some x) : l.take (k + 1) = l.take k ++ [x] := by
  obtain ⟨hk, e⟩ := List.getElem?_eq_some_iff.1 h
  rw [List.take_succ_eq_append_getElem hk, e]
end Go.Proofs.Ytjheaeeeeggncaa

namespace Go.Proofs.Ytjheaeeeeggncaa
open Go.RowKit Go.Shelf
attribute [local go_sem] Oper.semAt_some
set_option maxRecDepth 100000
set_option linter.unusedVariables false
set_option linter.unusedSimpArgs false

/-- One element is yielded. -/
def okE (v : Array Value) (x : Nat) : Prop := v = #[.int .i64 (x : Int)]
theorem lst_pre (k s : Nat) : ∀ j, lst k s <+: lst (k + j) s
  | 0 => List.prefix_refl _
  | j + 1 => (lst_pre k s j).trans (by rw [show k + (j + 1) = (k + j) + 1 by omega, lst_next]; exact List.prefix_append _ _)
theorem lst_pre12 {k s : Nat} (h : k ≤ 12) : lst k s <+: lst 12 s := by
  have := lst_pre k s (12 - k)
  rwa [show k + (12 - k) = 12 by omega] at this
/-- Between two rounds of each. -/
def EaI (Gd : Nat → Prop) (w : World) (S s : Nat) (J : List Nat → World → Prop) (i : Value) (wr : World) : Prop :=
  ∃ (k : Nat) (pre : List Nat), i = .int .i64 (k : Int) ∧ k ≤ 12 ∧ Hid (pre = lst k s) ∧ Hid (KpG Gd w wr) ∧ S ≤ wr.heap.size ∧ J pre wr
set_option maxHeartbeats 4000000 in
theorem c_each (d : Nat) (hd : 1 ≤ d) (Gd : Nat → Prop) (s : Nat) (hs : s < 2 ^ 12) (w : World) :
    SeqIt d Try.prog 77 #[.int .u16 (s : Int)] #[] 0 Gd okE (lst 12 s) w := by
  intro lp J Jx W hKW hlp hJE _ hY h0
  have hinit : EaI Gd w W.heap.size s J (.int .i64 0) W := ⟨0, [], rfl, by omega, Lib.hid rfl, Lib.hid hKW, Nat.le_refl _, h0⟩
  have HY := Lib.hid hY
  have HJ := Lib.hid hJE
  have HI := Lib.hid hinit
  clear hinit hY hJE h0 hKW
  refine callsIn_of_wp Try.func77 rfl trivial ?_ rfl
  simp only [Try.ntmps77, List.size_toArray, List.length_cons, List.length_nil, Nat.reduceAdd, Nat.reduceSub, Array.replicate_succ, Array.replicate_zero, List.push_toArray, List.append_toArray, List.nil_append, List.cons_append]
  gi_wp2_with (fail)
  gi_loopw [5] (fun i wr => EaI Gd w W.heap.size s J i wr) (fun i wr => 12 - (intOf i).toNat)
  case atStart => exact HI.out
  case round =>
    obtain ⟨k, pre, rfl, hk, hpre, hK, hsz, hj⟩ := hrel
    have HJr := Lib.hid hj
    have hki : ((k : Nat) : Int).toNat = k := by omega
    by_cases hlt : k < 12
    · have hkl : (k : Int) < 12 := by omega
      rcases hb : s.testBit k with _ | _
      · have HB := Lib.hid (show (decide (0 ≤ (k : Int)) && s.testBit ((k : Nat) : Int).toNat) = false by rw [hki, hb]; simp)
        have HPR := Lib.hid (show pre = lst (k + 1) s by rw [lst_next, hb, hpre.out]; simp)
        clear hb hj
        gi_wp2_with (fail)
        refine ⟨trivial, ?_⟩
        gi_at_call 76
        refine (calls_wide (c_has s (by omega) (k : Int) false HB.out _)).mono ?_
        rintro e w1 ⟨rfl, hw1⟩
        rw [hw1]
        clear hw1 w1
        gi_wp2_with (fail)
        refine ⟨fun f hf => (by cases hf), ?_⟩
        gi_wp2_with (fail)
        refine ⟨⟨k + 1, pre, by go_num, by omega, HPR, hK, hsz, HJr.out⟩, ?_⟩
        simp only [intOf]; omega
      · have HB := Lib.hid (show (decide (0 ≤ (k : Int)) && s.testBit ((k : Nat) : Int).toNat) = true by rw [hki, hb]; simp)
        have HPR := Lib.hid (show pre ++ [k] = lst (k + 1) s by rw [lst_next, hb, hpre.out]; simp)
        have HPF := Lib.hid (show pre ++ [k] <+: lst 12 s by rw [HPR.out]; exact lst_pre12 (by omega))
        clear hb hj
        obtain ⟨fn, tmps, assign, body, hy, hR⟩ := HY.out pre #[.int .i64 k] k wr HJr.out hsz rfl HPF.out
        gi_wp2_with (fail)
        refine ⟨trivial, ?_⟩
        gi_at_call 76
        refine (calls_wide (c_has s (by omega) (k : Int) true HB.out _)).mono ?_
        rintro e w1 ⟨rfl, hw1⟩
        rw [hw1]
        clear hw1 w1
        gi_wp2_with (fail)
        refine hR.mono ?_
        rintro e W3 (⟨rfl, hJ3, hk3⟩ | ⟨rfl, hJx3, -⟩)
        · have HJ3 := Lib.hid hJ3
          have HK3 := Lib.hid (hK.out.trans hk3.good)
          have hz3 := Nat.le_trans hsz hk3.size
          clear hJ3 hy hk3
          gi_wp2_with (fail)
          refine ⟨⟨k + 1, pre ++ [k], by go_num, by omega, HPR, HK3, hz3, HJ3.out⟩, ?_⟩
          simp only [intOf]; omega
        · have Hx := Lib.hid hJx3
          clear hJx3 hy
          gi_wp2_with (fail)
          refine bodyPost_ret (results_none rfl _ _ _) rfl ?_
          exact ⟨⟨_, rfl⟩, .inr ⟨_, HPF.out, Hx.out⟩⟩
    · obtain rfl : k = 12 := by omega
      have HTE := Lib.hid hpre.out
      clear hj
      gi_wp2_with (fail)
      refine bodyPost_end (results_none rfl _ _ _) rfl ?_
      exact ⟨⟨_, rfl⟩, .inl (by rw [← HTE.out]; exact HJr.out)⟩
theorem eg_each : ∀ args w, (callFunc 77 args).run Try.prog w = .ok (.enter 77 args) w := enters_of Try.func77 (by kernel_rfl) rfl
end Go.Proofs.Ytjheaeeeeggncaa

namespace Go.Proofs.Ytjheaeeeeggncaa
open Go.RowKit Go.Shelf
attribute [local go_sem] Oper.semAt_some
set_option maxRecDepth 100000
set_option linter.unusedVariables false
set_option linter.unusedSimpArgs false

theorem row_new (W : World) (o : Obj) (b : Nat) (hb : b = W.heap.size) : (W.alloc o).heap[b]? = some o := by subst hb; exact heap_alloc_new W o
theorem boxed_put {X : World} {b l : Nat} {T : TypeId} {v : Value} {o o' : Obj} (h : Boxed X b T v) (hl : X.heap[l]? = some o) (ho : o.isCells = false) : Boxed (X.putObj l o') b T v := put_cells h hl ho
theorem Blk.on {w w' : World} {g n B : Nat} {f : Nat → Nat} (h : Blk w g n f) (hb : Below B w w') (hB : w.heap.size ≤ B) : Blk w' g n f := box_on h hb hB
/-- Whether a set is an ideal. -/
def idB (f : Nat → Nat) (s : Nat) : Bool := (lst 12 s).all fun i => decide (f i &&& s = f i)
/-- Those so far are well. -/
structure IsI (w : World) (g n : Nat) (f : Nat → Nat) (s : Nat) (pre : List Nat) (X : World) : Prop where
  bb : Boxed X w.heap.size 64 (.slice (some ⟨g, 0, none⟩) n n)
  bs : Boxed X (w.heap.size + 1) 72 (.int .u16 (s : Int))
  br : Boxed X (w.heap.size + 2) 4 (.bool false)
  bel : Below w.heap.size w X
  well : ∀ i ∈ pre, f i &&& s = f i
structure IsX (w : World) (r : Bool) (X : World) : Prop where
  br : Boxed X (w.heap.size + 2) 4 (.bool r)
  bel : Below w.heap.size w X
section
variable {w X Y : World} {g n s : Nat} {f : Nat → Nat} {pre : List Nat} {r : Bool} {S m : Nat}
theorem IsI.own (h : IsI w g n f s pre X) (hE : OwnIt S m X Y) (hS : w.heap.size + 3 ≤ S) : IsI w g n f s pre Y :=
  ⟨hE.same _ _ h.bb (.inl (by omega)), hE.same _ _ h.bs (.inl (by omega)), hE.same _ _ h.br (.inl (by omega)), below_own h.bel hE (by omega), h.well⟩
theorem IsX.own (h : IsX w r X) (hE : OwnIt S m X Y) (hS : w.heap.size + 3 ≤ S) : IsX w r Y := ⟨hE.same _ _ h.br (.inl (by omega)), below_own h.bel hE (by omega)⟩
theorem IsI.put {l : Nat} {o o' : Obj} (h : IsI w g n f s pre X) (hw : w.heap.size ≤ l) (hl : X.heap[l]? = some o) (ho : o.isCells = false) : IsI w g n f s pre (X.putObj l o') :=
  ⟨put_cells h.bb hl ho, put_cells h.bs hl ho, put_cells h.br hl ho, below_put h.bel hw, h.well⟩
theorem IsX.put {l : Nat} {o o' : Obj} (h : IsX w r X) (hw : w.heap.size ≤ l) (hl : X.heap[l]? = some o) (ho : o.isCells = false) : IsX w r (X.putObj l o') := ⟨put_cells h.br hl ho, below_put h.bel hw⟩
end
set_option maxHeartbeats 8000000 in
theorem c_isIdeal (g n : Nat) (f : Nat → Nat) (hn : n ≤ 12) (hf : ∀ j, f j < 2 ^ 12) (s : Nat) (hs : s < 2 ^ n) (w : World) (h : Blk w g n f) :
    Calls Try.prog 55 #[.slice (some ⟨g, 0, none⟩) n n, .int .u16 (s : Int)] w fun e w' => e = .returned (.bool (idB f s)) ∧ Below w.heap.size w w' := by
  have hs12 : s < 2 ^ 12 := Nat.lt_of_lt_of_le hs (Nat.pow_le_pow_right (by omega) hn)
  obtain ⟨r, hr⟩ : ∃ r, idB f s = r := ⟨_, rfl⟩
  have HR := Lib.hid hr
  rw [hr]
  clear hr
  obtain ⟨W, hW⟩ : ∃ W, W = ((w.alloc (.cells #[.slice (some ⟨g, 0, none⟩) n n] 64)).alloc (.cells #[.int .u16 (s : Int)] 72)).alloc (.cells #[.bool false] 4) := ⟨_, rfl⟩
  have HB := Lib.hid (show Below w.heap.size w W by subst hW; exact ((((Below.refl _ _).alloc (Nat.le_refl _) _).alloc (by simp) _).alloc (by simp; omega) _))
  have H0 := Lib.hid (show Boxed W w.heap.size 64 (.slice (some ⟨g, 0, none⟩) n n) by subst hW; exact old_heap _ (old_heap _ (heap_alloc_new _ _)))
  have H1 := Lib.hid (show Boxed W (w.heap.size + 1) 72 (.int .u16 (s : Int)) by subst hW; exact old_heap _ (row_new _ _ _ (by simp)))
  have H2 := Lib.hid (show Boxed W (w.heap.size + 2) 4 (.bool false) by subst hW; exact row_new _ _ _ (by simp))
  have x1 := H1.out.cell
  have hzW : W.heap.size = w.heap.size + 3 := by subst hW; simp
  have HSQ := Lib.hid (c_each 7 (by omega) (fun k => k < w.heap.size) s hs12 w)
  have HK := Lib.hid h
  have HF := Lib.hid hf
  have HBIT := Lib.hid (show ∀ i ∈ lst 12 s, i < n from fun i hi => by
    rcases Nat.lt_or_ge i n with h | h
    · exact h
    · have := (lst_mem.1 hi).2
      rw [Nat.testBit_lt_two_pow (Nat.lt_of_lt_of_le hs (Nat.pow_le_pow_right (by omega) h))] at this
      cases this)
  clear h hf hs
  refine (callsIn_wide (n := 8)).1 ?_
  refine callsIn_of_wp_marks Try.func55 rfl trivial ?_ rfl
  simp only [Try.ntmps55, List.size_toArray, List.length_cons, List.length_nil, Nat.reduceAdd, Nat.reduceSub, Array.replicate_succ, Array.replicate_zero, List.push_toArray, List.append_toArray, List.nil_append, List.cons_append]
  rw [wpIn_wide]
  go_wp2_with (fail)
  rw [← hW]
  clear hW
  refine (wpIn_wide (n := 8)).1 ?_
  refine wpIn_it (n := 8) (by omega) (gf := 77) (fb := #[.int .u16 (s : Int)]) (lb := #[]) rfl eg_each (m := 0) (Gd := fun k => k < w.heap.size) (ok := okE) (ts := lst 12 s) (w0 := w) HSQ.out (KpG.of_below HB.out (Nat.le_refl _)) (fun v t h => by rw [h]; rfl)
    (fun pre X => IsI w g n f s pre X) (fun c _ X => c = .ret ∧ IsX w r X)
    (fun pre X Y h hE => h.own hE (by omega)) (fun c pre X Y h hE => ⟨h.1, h.2.own hE (by omega)⟩)
    (fun pre X l o o' h hl ho hc => h.put (by omega) ho hc) (fun c pre X l o o' h hl ho hc => ⟨h.1, h.2.put (by omega) ho hc⟩)
    ⟨H0.out, H1.out, H2.out, HB.out, fun y hy => absurd hy List.not_mem_nil⟩ ?round ?done ?stop
  case round =>
    intro l pre v i X K hpre hok hK
    obtain rfl : v = #[.int .i64 (i : Int)] := hok
    gi_wp2_with (fail)
    refine hK _ _ (Below.refl _ _) ?_
    rintro Y ⟨o, o', ho, hoc, hYe⟩ hsz hI
    have him : i ∈ lst 12 s := hpre.subset (by simp)
    have hin := HBIT.out i him
    have hil : (i : Int) < (n : Int) := by omega
    have y0 := hI.bb.cell
    have y1 := hI.bs.cell
    have y2 := hI.br.cell
    have f2 := hI.br.frozen
    have y3 := (HK.out.on hI.bel (Nat.le_refl _)).at_ hin
    have hq := HF.out i
    have HI := Lib.hid hI
    have HIM := Lib.hid him
    have hfm : Try.prog.follows Departure.mixedOrders = true := by kernel_rfl
    clear hYe ho hoc o o' hK hI hpre him
    rcases hc : decide (f i &&& s = f i) with _ | _
    · obtain ⟨q, hq0⟩ : ∃ q, f i = q := ⟨_, rfl⟩
      have HRF := Lib.hid (show false = r by
        rw [← HR.out]
        cases e : idB f s
        · rfl
        · have := List.all_eq_true.1 e i HIM.out
          rw [this] at hc
          cases hc)
      rw [hq0] at y3 hq hc
      have HC := Lib.hid hc
      clear hc hq0
      gi_wp2_with (fail)
      gi_region_with_o (refine ⟨trivial, ?_⟩; gi_at_call 79; refine (CallsIn.inRound l (calls_wide (c_contains s q (by omega) (by omega) false HC.out _))).mono ?_; rintro e wa ⟨rfl, hwa⟩; rw [hwa]; clear hwa wa)
      all_goals gi_wp2_with (fail)
      all_goals
        have hk := kf_store (B := W.heap.size) (o := 0) (.bool false) HI.out.br
        exact ⟨⟨hk.size, hk.same⟩, rfl, by rw [← HRF.out]; exact HI.out.br.set _, (HI.out.bel.setCell (p := ⟨w.heap.size + 2, 0, none⟩) (by show w.heap.size ≤ w.heap.size + 2; omega) _).drew⟩
    · obtain ⟨q, hq0⟩ : ∃ q, f i = q := ⟨_, rfl⟩
      have HIN := Lib.hid (show IsI w g n f s (pre ++ [i]) Y from ⟨HI.out.bb, HI.out.bs, HI.out.br, HI.out.bel, fun j hj => by
        rcases List.mem_append.1 hj with hj | hj
        · exact HI.out.well j hj
        · rw [List.mem_singleton.1 hj]; exact of_decide_eq_true hc⟩)
      rw [hq0] at y3 hq hc
      have HC := Lib.hid hc
      clear hc hq0
      gi_wp2_with (fail)
      gi_region_with_o (refine ⟨trivial, ?_⟩; gi_at_call 79; refine (CallsIn.inRound l (calls_wide (c_contains s q (by omega) (by omega) true HC.out _))).mono ?_; rintro e wa ⟨rfl, hwa⟩; rw [hwa]; clear hwa wa)
      all_goals gi_wp2_with (fail)
      all_goals
        have hk := KeepsFrom.refl W.heap.size Y
        have hm := KpIt.refl (S := W.heap.size + 2) (m := 0) (Gd := fun k => k < w.heap.size) Y
        exact ⟨⟨hk.size, hk.same⟩, ⟨hm.size, hm.cells, hm.others⟩, HIN.out.bb, HIN.out.bs, HIN.out.br, HIN.out.bel.drew, HIN.out.well⟩
  case done =>
    rintro D X rfl hI hdef
    have HRX := Lib.hid (show true = r by
      rw [← HR.out]
      exact (List.all_eq_true.2 fun i hi => decide_eq_true (hI.well i hi)).symm)
    have y2 := hI.br.cell
    have f2 := hI.br.frozen
    have HDEF := Lib.hid hdef
    have HI := Lib.hid hI
    clear hI hdef
    go_wp2_with (fail)
    have hD2 : (X.setCell ⟨w.heap.size + 2, 0, none⟩ (.bool true)).heap[W.heap.size]? = some (.deferred (some [])) := by
      rw [Below.heap_setCell _ ⟨w.heap.size + 2, 0, none⟩ _ W.heap.size (by show W.heap.size ≠ w.heap.size + 2; omega)]
      exact HDEF.out
    have n1 := (boxed_put (o' := .deferred none) (HI.out.br.set (.bool true)) hD2 rfl).cell
    refine ⟨by simp, .inl ⟨_, _, rfl, run_takeDeferred hD2, ?_⟩⟩
    exact ⟨.bool true, by simp [results, Try.results55, go_sem, n1], by rw [HRX.out], below_put (HI.out.bel.setCell (p := ⟨w.heap.size + 2, 0, none⟩) (by show w.heap.size ≤ w.heap.size + 2; omega) _) (by omega)⟩
  case stop =>
    rintro D c pre X rfl hpre ⟨rfl, i1, i2⟩ hdef
    have n1 := (boxed_put (o' := .deferred none) i1 hdef rfl).cell
    have HDEF := Lib.hid hdef
    have H2 := Lib.hid i2
    clear i1 i2 hdef hpre
    gi_wp2_with (fail)
    refine ⟨by simp, .inl ⟨_, _, rfl, run_takeDeferred HDEF.out, ?_⟩⟩
    exact ⟨.bool r, by simp [results, Try.results55, go_sem, n1], rfl, below_put H2.out (by omega)⟩
end Go.Proofs.Ytjheaeeeeggncaa

namespace Go.Proofs.Ytjheaeeeeggncaa
open Go.RowKit Go.Shelf
attribute [local go_sem] Oper.semAt_some
set_option maxRecDepth 100000
set_option linter.unusedVariables false
set_option linter.unusedSimpArgs false

/-- One set is yielded. -/
def okS (v : Array Value) (x : Nat) : Prop := v = #[.int .u16 (x : Int)]
/-- The ideals that are less than a number. -/
def idL (f : Nat → Nat) (k : Nat) : List Nat := (List.range k).filter (idB f)
theorem idL_next (f : Nat → Nat) (k : Nat) : idL f (k + 1) = idL f k ++ if idB f k = true then [k] else [] := by
  unfold idL
  rw [List.range_succ, List.filter_append]
  by_cases h : idB f k = true <;> simp [h]
theorem idL_pre (f : Nat → Nat) (k : Nat) : ∀ j, idL f k <+: idL f (k + j)
  | 0 => List.prefix_refl _
  | j + 1 => (idL_pre f k j).trans (by rw [show k + (j + 1) = (k + j) + 1 by omega, idL_next]; exact List.prefix_append _ _)
theorem idL_pre' {f : Nat → Nat} {k m : Nat} (h : k ≤ m) : idL f k <+: idL f m := by
  have := idL_pre f k (m - k)
  rwa [show k + (m - k) = m by omega] at this
/-- Between two rounds of ideals. -/
def DaI (Gd : Nat → Prop) (w : World) (S : Nat) (f : Nat → Nat) (N : Nat) (J : List Nat → World → Prop) (i : Value) (wr : World) : Prop :=
  ∃ (k : Nat) (pre : List Nat), i = .int .u16 (k : Int) ∧ k ≤ N ∧ Hid (pre = idL f k) ∧ Hid (KpG Gd w wr) ∧ S ≤ wr.heap.size ∧ J pre wr
set_option maxHeartbeats 4000000 in
theorem c_ideals (d : Nat) (hd : 1 ≤ d) (Gd : Nat → Prop) (g n : Nat) (f : Nat → Nat) (hn : n ≤ 12) (hf : ∀ j, f j < 2 ^ 12) (w : World) (h : Blk w g n f) (hg : Gd g) :
    SeqIt d Try.prog 58 #[.slice (some ⟨g, 0, none⟩) n n] #[] 0 Gd okS (idL f (2 ^ n)) w := by
  intro lp J Jx W hKW hlp hJE _ hY h0
  have h1 : (2 : Nat) ^ n ≤ 4096 := Nat.le_trans (Nat.pow_le_pow_right (by omega) hn) (by decide)
  have h00 : 1 ≤ (2 : Nat) ^ n := Nat.one_le_two_pow
  obtain ⟨N, hN⟩ : ∃ N : Nat, 2 ^ n = N := ⟨_, rfl⟩
  have hall := c_all (some ⟨g, 0, none⟩) n n hn W
  have HC := Lib.hid (fun (k : Nat) (hk : k < N) (X : World) (hX : KpG Gd w X) => c_isIdeal g n f hn hf k (by rw [hN]; exact hk) X (hX.same _ _ _ _ hg h))
  rw [hN] at h1 h00 hall hY ⊢
  have hinit : DaI Gd w W.heap.size f N J (.int .u16 0) W := ⟨0, [], rfl, by omega, Lib.hid rfl, Lib.hid hKW, Nat.le_refl _, h0⟩
  have hw1 : IntKind.u16.wrap (((N - 1 : Nat) : Int) + 1) = (N : Int) := by
    rw [show (((N - 1 : Nat) : Int) + 1) = ((N : Nat) : Int) by omega]
    exact wrap16 _ (by omega)
  have HAL := Lib.hid hall
  have HY := Lib.hid hY
  have HJ := Lib.hid hJE
  have HI := Lib.hid hinit
  clear hinit hY hJE h0 hKW hN hall h hf
  refine callsIn_of_wp Try.func58 rfl trivial ?_ rfl
  simp only [Try.ntmps58, List.size_toArray, List.length_cons, List.length_nil, Nat.reduceAdd, Nat.reduceSub, Array.replicate_succ, Array.replicate_zero, List.push_toArray, List.append_toArray, List.nil_append, List.cons_append]
  gi_wp2_with (fail)
  refine ⟨trivial, ?_⟩
  gi_at_call 78
  refine (calls_wide HAL.out).mono ?_
  rintro e w1 ⟨rfl, hw⟩
  rw [hw]
  clear hw w1
  gi_wp2_with (fail)
  gi_loopw [8] (fun i wr => DaI Gd w W.heap.size f N J i wr) (fun i wr => N - (intOf i).toNat)
  case atStart => exact HI.out
  case round =>
    obtain ⟨k, pre, rfl, hk, hpre, hK, hsz, hj⟩ := hrel
    have HJr := Lib.hid hj
    have hki : ((k : Nat) : Int).toNat = k := by omega
    by_cases hlt : k < N
    · have hkl : (k : Int) < (N : Int) := by omega
      have hwk : IntKind.u16.wrap ((k : Int) + 1) = ((k + 1 : Nat) : Int) := by
        rw [show ((k : Int) + 1) = ((k + 1 : Nat) : Int) by omega]
        exact wrap16 _ (by omega)
      have HCK := Lib.hid (HC.out k hlt wr hK.out)
      rcases hb : idB f k with _ | _
      · have HPR := Lib.hid (show pre = idL f (k + 1) by rw [idL_next, hb, hpre.out]; simp)
        rw [hb] at HCK
        clear hb hj
        gi_wp2_with (fail)
        refine ⟨trivial, ?_⟩
        gi_at_call 55
        refine (calls_wide HCK.out).mono ?_
        rintro e w1 ⟨rfl, b1⟩
        have HK1 := Lib.hid (hK.out.trans (KpG.of_below b1 (Nat.le_refl _)))
        have hz1 := Nat.le_trans hsz b1.size
        have HJ1 := Lib.hid (HJ.out _ _ _ HJr.out (OwnIt.of_below b1 (Nat.le_refl _)))
        clear b1
        gi_wp2_with (fail)
        refine ⟨fun f hf => (by cases hf), ?_⟩
        gi_wp2_with (fail)
        refine ⟨⟨k + 1, pre, by simp, by omega, HPR, HK1, hz1, HJ1.out⟩, ?_⟩
        simp only [intOf]; omega
      · have HPR := Lib.hid (show pre ++ [k] = idL f (k + 1) by rw [idL_next, hb, hpre.out]; simp)
        have HPF := Lib.hid (show pre ++ [k] <+: idL f N by rw [HPR.out]; exact idL_pre' (by omega))
        rw [hb] at HCK
        clear hb hj
        gi_wp2_with (fail)
        refine ⟨trivial, ?_⟩
        gi_at_call 55
        refine (calls_wide HCK.out).mono ?_
        rintro e w1 ⟨rfl, b1⟩
        have HK1 := Lib.hid (hK.out.trans (KpG.of_below b1 (Nat.le_refl _)))
        have hz1 := Nat.le_trans hsz b1.size
        have HJ1 := Lib.hid (HJ.out _ _ _ HJr.out (OwnIt.of_below b1 (Nat.le_refl _)))
        clear b1
        obtain ⟨fn, tmps, assign, body, hy, hR⟩ := HY.out pre #[.int .u16 k] k w1 HJ1.out hz1 rfl HPF.out
        gi_wp2_with (fail)
        refine hR.mono ?_
        rintro e W3 (⟨rfl, hJ3, hk3⟩ | ⟨rfl, hJx3, -⟩)
        · have HJ3 := Lib.hid hJ3
          have HK3 := Lib.hid (HK1.out.trans hk3.good)
          have hz3 := Nat.le_trans hz1 hk3.size
          clear hJ3 hy hk3
          gi_wp2_with (fail)
          refine ⟨⟨k + 1, pre ++ [k], by simp, by omega, HPR, HK3, hz3, HJ3.out⟩, ?_⟩
          simp only [intOf]; omega
        · have Hx := Lib.hid hJx3
          clear hJx3 hy
          gi_wp2_with (fail)
          refine bodyPost_ret (results_none rfl _ _ _) rfl ?_
          exact ⟨⟨_, rfl⟩, .inr ⟨_, HPF.out, Hx.out⟩⟩
    · obtain rfl : k = N := by omega
      have HTE := Lib.hid hpre.out
      clear hj
      gi_wp2_with (fail)
      refine bodyPost_end (results_none rfl _ _ _) rfl ?_
      exact ⟨⟨_, rfl⟩, .inl (by rw [← HTE.out]; exact HJr.out)⟩
theorem eg_ideals : ∀ args w, (callFunc 58 args).run Try.prog w = .ok (.enter 58 args) w := enters_of Try.func58 (by kernel_rfl) rfl
end Go.Proofs.Ytjheaeeeeggncaa

namespace Go.Proofs.Ytjheaeeeeggncaa
open Go.RowKit Go.Shelf
attribute [local go_sem] Oper.semAt_some
set_option maxRecDepth 100000
set_option linter.unusedVariables false
set_option linter.unusedSimpArgs false

theorem one_cell {W : World} {b : Nat} {x0 : Value} {T : TypeId} (h : W.heap[b]? = some (.cells #[x0] T (0, 0))) : W.cell? ⟨b, 0, none⟩ = some x0 := by simp [World.cell?, h]
theorem one_at {W : World} {b : Nat} {x : Value} {T : TypeId} (hb : W.heap[b]? = some (.cells #[x] T (0, 0))) (j : Nat) (u : Value) (hj : [x][j]? = some u) : W.cell? ((⟨b, 0, none⟩ : Addr).add j) = some u := by
  have e : (⟨b, 0, none⟩ : Addr).add j = ⟨b, j, none⟩ := by unfold Addr.add; split <;> simp_all
  rw [e]
  match j, hj with
  | 0, hj => simp at hj; subst hj; exact one_cell hb
/-- What a walk over an iterator has collected in a box. -/
structure ColI (w0 : World) (bc S : Nat) (xs : List Nat) (X : World) : Prop where
  row : ∃ v, Boxed X bc 33 v ∧ X.ownsRow w0.heap.size 3 1 v xs.length (elV xs) ∧ ∀ g, v.ownBlock = some g → S ≤ g
  bel : Below w0.heap.size w0 X
section
variable {w0 X Y : World} {bc S m : Nat} {xs : List Nat}
theorem ColI.own (h : ColI w0 bc (S + m) xs X) (hE : OwnIt S m X Y) (hb : bc < S) (hS : w0.heap.size ≤ S) : ColI w0 bc (S + m) xs Y := by
  obtain ⟨⟨v, k1, k2, k3⟩, k4⟩ := h
  exact ⟨⟨v, hE.same _ _ k1 (.inl hb), own_row_kept k2 (fun g cur hg hc => hE.same _ _ hc (.inr ⟨rfl, k3 g hg⟩)), k3⟩, below_own k4 hE hS⟩
theorem ColI.put {l : Nat} {o o' : Obj} (h : ColI w0 bc S xs X) (hw : w0.heap.size ≤ l) (hl : X.heap[l]? = some o) (ho : o.isCells = false) : ColI w0 bc S xs (X.putObj l o') := by
  obtain ⟨⟨v, k1, k2, k3⟩, k4⟩ := h
  exact ⟨⟨v, put_cells k1 hl ho, own_row_kept k2 (fun g cur hg hc => put_cells hc hl ho), k3⟩, below_put k4 hw⟩
end
/-- A number is appended in a round and its slice stored into the box. -/
theorem col_step {w0 Y Z : World} {bc S0 m : Nat} {Gd : Nat → Prop} {pre : List Nat} {x : Nat} {v : Value} {g2 cap2 q : Nat} (hq : pre.length = q) (hb : bc < S0) (hw : w0.heap.size ≤ bc) (hG : ∀ k, Gd k → k < S0 ∧ k ≠ bc) (hsz : S0 + m ≤ Y.heap.size)
    (k1 : Boxed Y bc 33 v) (k2 : Y.ownsRow w0.heap.size 3 1 v pre.length (elV pre)) (k3 : ∀ g, v.ownBlock = some g → S0 + m ≤ g) (k4 : Below w0.heap.size w0 Y) {tmp : Obj}
    (hown : Z.ownsRow w0.heap.size 3 1 (.slice (some ⟨g2, 0, none⟩) (q + 1) cap2) (q + 1) (elV pre ++ [.int .i64 (x : Int)])) (hgrow : (Y.alloc tmp).grownBy Z v.ownBlock) (hat : v.ownBlock = some g2 ∨ g2 = Y.heap.size + 1) :
    Boxed Z bc 33 v ∧ ColI w0 bc (S0 + m) (pre ++ [x]) (Z.setCell ⟨bc, 0, none⟩ (.slice (some ⟨g2, 0, none⟩) (q + 1) cap2)) ∧ KpIt S0 m Gd Y (Z.setCell ⟨bc, 0, none⟩ (.slice (some ⟨g2, 0, none⟩) (q + 1) cap2)) ∧ (∀ B, KeepsFrom B Y (Z.setCell ⟨bc, 0, none⟩ (.slice (some ⟨g2, 0, none⟩) (q + 1) cap2))) := by
  subst hq
  obtain ⟨hv1, hv2, hr2, hk2, hb2⟩ := k1.appended (by decide) k2 k4.size hw hown hgrow
  refine ⟨hv1, ⟨⟨_, hv2, by rw [List.length_append, elV_snoc]; exact hr2, fun g hg => ?_⟩, k4.trans hb2⟩, ⟨hb2.size, fun k cs t fr hk hc => ?_, fun k o _ hc ho => hk2.same k o hc ho⟩, fun B => hk2.from B⟩
  · obtain rfl : g2 = g := by simpa [Value.ownBlock] using hg
    rcases hat with h | h
    · exact k3 _ h
    · omega
  · have hkl := at_lt hc
    have hlt : k < S0 + m := by rcases hk with h | h; have := hG k h; omega; omega
    have hne : k ≠ bc := by rcases hk with h | h; exact (hG k h).2; omega
    rw [Below.heap_setCell Z ⟨bc, 0, none⟩ _ k hne, hgrow.block k (by simp; omega) (fun e => by have := k3 k e.symm; omega), Below.heap_alloc _ _ _ hkl]
    exact hc
set_option maxHeartbeats 4000000 in
theorem c_list (s : Nat) (hs : s < 2 ^ 12) (w : World) :
    Calls Try.prog 60 #[.int .u16 (s : Int)] w fun e w' => ∃ v, e = .returned v ∧ w'.ownsRow w.heap.size 3 1 v (lst 12 s).length (elV (lst 12 s)) ∧ Below w.heap.size w w' := by
  obtain ⟨W, hW⟩ : ∃ W, W = w.alloc (.cells #[.slice none 0 0] 33) := ⟨_, rfl⟩
  have HB := Lib.hid (show Below w.heap.size w W by subst hW; exact (Below.refl _ _).alloc (Nat.le_refl _) _)
  have HX := Lib.hid (show Boxed W w.heap.size 33 (.slice none 0 0) by subst hW; exact Boxed.new _ _ _)
  have hzW : W.heap.size = w.heap.size + 1 := by subst hW; simp
  have HSQ := Lib.hid (c_each 7 (by omega) (fun k => k < w.heap.size) s hs w)
  have HLN := Lib.hid (lst_len 12 s)
  refine (callsIn_wide (n := 8)).1 ?_
  refine callsIn_of_wp_marks Try.func60 rfl trivial ?_ rfl
  simp only [Try.ntmps60, List.size_toArray, List.length_cons, List.length_nil, Nat.reduceAdd, Nat.reduceSub, Array.replicate_succ, Array.replicate_zero, List.push_toArray, List.append_toArray, List.nil_append, List.cons_append]
  rw [wpIn_wide]
  go_wp2_with (fail)
  rw [← hW]
  clear hW
  obtain ⟨i0, hi0, hzz0, hzz1, hzz2⟩ := info_parts int_info
  refine (wpIn_wide (n := 8)).1 ?_
  refine wpIn_it (n := 8) (by omega) (gf := 77) (fb := #[.int .u16 (s : Int)]) (lb := #[]) rfl eg_each (m := 0) (Gd := fun k => k < w.heap.size) (ok := okE) (ts := lst 12 s) (w0 := w) HSQ.out (KpG.of_below HB.out (Nat.le_refl _)) (fun v t h => by rw [h]; rfl)
    (fun pre X => ColI w w.heap.size (W.heap.size + 2 + 0) pre X) (fun _ _ _ => False)
    (fun pre X Y h hE => h.own hE (by omega) (by omega)) (fun _ _ _ _ h _ => h.elim)
    (fun pre X l o o' h hl ho hc => h.put (by omega) ho hc) (fun _ _ _ _ _ _ h _ _ _ => h.elim)
    ⟨⟨_, HX.out, World.ownsRow_nil _ _ _ _, fun g hg => by cases hg⟩, HB.out⟩ ?round ?done (fun _ _ _ _ _ _ h _ => h.elim)
  case round =>
    intro l pre v x X K hpre hok hK
    obtain rfl : v = #[.int .i64 (x : Int)] := hok
    gi_wp2_with (fail)
    refine hK _ _ (Below.refl _ _) ?_
    rintro Y ⟨o, o', ho, hoc, hYe⟩ hsz ⟨⟨v, k1, k2, k3⟩, k4⟩
    have hlen : pre.length + 1 ≤ (lst 12 s).length := by have := hpre.length_le; simpa using this
    have hl12 : pre.length + 1 ≤ 12 := Nat.le_trans hlen HLN.out
    have hcell := k1.cell
    have HK1 := Lib.hid k1
    have HK2 := Lib.hid k2
    have HK3 := Lib.hid k3
    have HK4 := Lib.hid k4
    have hbs := k4.size
    clear hYe ho hoc o o' hK k1 k2 k3 k4 hpre hlen
    gi_wp2_with (gi_at_builtin; refine wpListIn_append_lies _ rfl _ _ 33 rfl w.heap.size 3 i0 (.int .i64 0) 1 8 Try.underlying33 hi0 hzz0 hzz1 hzz2 rfl (by decide) _ _ _ rfl (HK2.out.alloc _) ⟨Y.heap.size, 0, none⟩ 1 1 [.int .i64 (x : Int)] rfl rfl (one_at (heap_alloc_new _ _)) (by simp [Value.oneCell']) (by decide) (by unfold maxLen; omega) (by omega) (by simp; omega) (Y.heap.size + 1) (by simp) ?_)
    intro g2 cap2 Z hown hgrow hat
    obtain ⟨hv1, hc2, hkp, hkf⟩ := col_step (S0 := W.heap.size + 2) (m := 0) (Gd := fun k => k < w.heap.size) rfl (by omega) (Nat.le_refl _) (fun k hk => by omega) hsz HK1.out HK2.out HK3.out HK4.out hown hgrow hat
    have hc1 := hv1.cell
    have hf1 := hv1.frozen
    have HC := Lib.hid hc2
    have HKP := Lib.hid hkp
    have HKF := Lib.hid hkf
    clear hv1 hc2 hkp hkf hown hgrow hat
    gi_wp2_with (fail)
    exact ⟨HKF.out _, HKP.out, HC.out⟩
  case done =>
    rintro D X rfl ⟨⟨v, k1, k2, k3⟩, k4⟩ hdef
    have hcell := k1.cell
    have HDEF := Lib.hid hdef
    have HR := Lib.hid (show (X.putObj W.heap.size (.deferred none)).ownsRow w.heap.size 3 1 v (lst 12 s).length (elV (lst 12 s)) from own_row_kept k2 (fun g cur _ hc => put_cells hc hdef rfl))
    have HB4 := Lib.hid (below_put (o' := .deferred none) k4 (by omega : w.heap.size ≤ W.heap.size))
    clear k1 k2 k3 k4 hdef
    go_wp2_with (fail)
    refine ⟨by simp, .inl ⟨_, _, rfl, run_takeDeferred HDEF.out, ?_⟩⟩
    exact ⟨v, by simp [results, Try.results60, go_sem], _, rfl, HR.out, HB4.out⟩
end Go.Proofs.Ytjheaeeeeggncaa

namespace Go.Proofs.Ytjheaeeeeggncaa
open Go.RowKit
attribute [local go_sem] Oper.semAt_some
set_option maxRecDepth 100000
set_option linter.unusedVariables false
set_option linter.unusedSimpArgs false

/-- A set without another one. -/
def dif (a b : Nat) : Nat := a ^^^ (a &&& b)
theorem dif_tb (a b k : Nat) : (dif a b).testBit k = (a.testBit k && !b.testBit k) := by
  unfold dif
  rw [Nat.testBit_xor, Nat.testBit_and]
  cases a.testBit k <;> cases b.testBit k <;> rfl
theorem dif_lt {a b m : Nat} (h : a < 2 ^ m) : dif a b < 2 ^ m := Nat.xor_lt_two_pow h (Nat.lt_of_le_of_lt Nat.and_le_left h)
/-- A set without those of some others. -/
def redF (f : Nat → Nat) (s : Nat) (l : List Nat) : Nat := l.foldl (fun d i => dif d (f i)) s
theorem redF_snoc (f : Nat → Nat) (s : Nat) (l : List Nat) (i : Nat) : redF f s (l ++ [i]) = dif (redF f s l) (f i) := by simp [redF]
theorem redF_lt {f : Nat → Nat} {m : Nat} : ∀ (l : List Nat) {s : Nat}, s < 2 ^ m → redF f s l < 2 ^ m
  | [], _, h => h
  | i :: l, s, h => redF_lt (f := f) l (dif_lt h)
theorem bits_dif16 (a b : Nat) (ha : a < 65536) (hb : b < 65536) : bits BinOp.andNot IntKind.u16 (a : Int) (b : Int) = ((dif a b : Nat) : Int) := by
  have h1 : (BitVec.ofInt 16 (a : Int)) = BitVec.ofNat 16 a := BitVec.ofInt_natCast _ _
  have h2 : (BitVec.ofInt 16 (b : Int)) = BitVec.ofNat 16 b := BitVec.ofInt_natCast _ _
  have h3 : bits BinOp.andNot IntKind.u16 (a : Int) (b : Int) = ((BitVec.ofNat 16 a &&& ~~~BitVec.ofNat 16 b).toNat : Int) := by
    show IntKind.u16.wrap ((BitVec.ofInt 16 (a : Int) &&& ~~~BitVec.ofInt 16 (b : Int)).toNat : Int) = _
    rw [h1, h2]
    exact wrap16 _ (BitVec.ofNat 16 a &&& ~~~BitVec.ofNat 16 b).isLt
  rw [h3]
  have hd : dif a b < 2 ^ 16 := dif_lt (by omega)
  have e : BitVec.ofNat 16 a &&& ~~~BitVec.ofNat 16 b = BitVec.ofNat 16 (dif a b) := BitVec.eq_of_getLsbD_eq fun i hi => by
    rw [BitVec.getLsbD_and, BitVec.getLsbD_not, BitVec.getLsbD_ofNat, BitVec.getLsbD_ofNat, BitVec.getLsbD_ofNat, dif_tb]
    simp [hi]
  rw [e, BitVec.toNat_ofNat, Nat.mod_eq_of_lt hd]
theorem nat64 (k : Nat) (h : k < 9223372036854775808) : IntKind.i64.wrap (k : Int) = (k : Int) := by
  simp [IntKind.wrap, IntKind.bits, IntKind.signed]
  omega
/-- Sets in memory. -/
def unV (x : Nat) (_ : Nat) : Value := .int .u16 (x : Int)
theorem unV_at {w : World} {b o c : Nat} {l : List Nat} (h : Rv 1 unV w (some ⟨b, o, none⟩) c l) {j : Nat} {x : Nat} (hj : l[j]? = some x) : w.cell? ⟨b, o + j, none⟩ = some (.int .u16 (x : Int)) := by
  obtain ⟨b', o', e, -, h0⟩ := h.at_ hj
  injection e with e
  injection e with e1 e2
  subst e1 e2
  have := h0 0 (by omega)
  simpa [unV] using this
def fL (n : Nat) (f : Nat → Nat) : List Nat := (List.range n).map f
theorem fL_len (n : Nat) (f : Nat → Nat) : (fL n f).length = n := by simp [fL]
theorem Blk.rv {w : World} {g n : Nat} {f : Nat → Nat} (h : Blk w g n f) (hn : n ≤ 12) : Rv 1 unV w (some ⟨g, 0, none⟩) n (fL n f) := by
  refine ⟨by rw [fL_len]; exact Nat.le_refl _, by unfold maxLen; omega, (by intro h; cases h), fun _ => ⟨g, 0, rfl, at_lt h, fun j x hj i hi => ?_⟩⟩
  obtain rfl : i = 0 := by omega
  have hj' : j < n := by have := (List.getElem?_eq_some_iff.1 hj).1; rwa [fL_len] at this
  have hx : f j = x := by simp [fL, hj'] at hj; exact hj
  have := h.at_ hj'
  rw [hx] at this
  rw [show 0 + j * 1 + 0 = j by omega]
  exact this
/-- Sets as lists. -/
def listsU (l : List Nat) : List (List Int) := l.map fun s => intsN (lst 12 s)
theorem listsU_fL (n : Nat) (f : Nat → Nat) : listsU (fL n f) = setsL f n := by simp [listsU, fL, setsL]
set_option maxHeartbeats 16000000 in
theorem c_listsOf (A : Option Addr) (c : Nat) (l : List Nat) (hl : l.length ≤ 12) (h12 : ∀ x ∈ l, x < 2 ^ 12) (w : World) (h : Rv 1 unV w A c l) :
    Calls Try.prog 49 #[.slice A l.length c] w fun e w' => ∃ v ys, e = .returned v ∧ OutL w.heap.size w' v ys ∧ ys.map (·.l) = listsU l ∧ Below w.heap.size w w' := by
  have H := Lib.hid h
  have k1 := h.1; have k2 := h.2.1
  unfold maxLen at k2
  have HL := Lib.hid h12
  clear h h12
  obtain ⟨i1, hi1, hz1, hz2, hz3⟩ := info_parts li_info
  go_enter Try.func49, Try.ntmps49
  go_wp2_with (fail)
  go_loopw [3, 8] (fun v i wr => ∃ k : Nat, k ≤ l.length ∧ i = .int .i64 (k : Int) ∧ Hid (Below w.heap.size w wr) ∧ ∃ ys : List LsV, ys.length = k ∧ Hid (OutL w.heap.size wr v ys) ∧ Hid (ys.map (·.l) = listsU (l.take k))) (fun _ i _ => l.length - (intOf i).toNat)
  case atStart => exact ⟨0, Nat.zero_le _, rfl, Lib.hid (Below.refl _ _), [], rfl, Lib.hid ⟨World.ownsRow_nil _ _ _ _, fun y hy => by cases hy⟩, Lib.hid (by simp [listsU])⟩
  case round =>
    obtain ⟨k, hk, rfl, hK, ys, hyl, ho, hm⟩ := hrel
    have hki : ((k : Nat) : Int).toNat = k := by omega
    by_cases hlt : k < l.length
    · have hkl : (k : Int) < ((l.length : Nat) : Int) := by omega
      obtain ⟨s, hs⟩ : ∃ s, l[k]? = some s := ⟨_, List.getElem?_eq_getElem hlt⟩
      have HK := H.out.on hK.out (Nat.le_refl _)
      obtain ⟨pb, o, rfl, -, -⟩ := HK.at_ hs
      have b0 := unV_at HK hs
      have hs12 := HL.out s (List.mem_of_getElem? hs)
      have HNX := Lib.hid (show listsU (l.take (k + 1)) = listsU (l.take k) ++ [intsN (lst 12 s)] by rw [take_snoc hs]; simp [listsU])
      obtain ⟨As, cs, rfl⟩ := own_shape ho.out.1
      have hln : ys.length ≤ 12 := by omega
      have HYL := Lib.hid hyl
      clear hs HK hyl
      go_wp2_with (fail)
      go_at_call 60
      refine (c_list s hs12 wr).mono ?_
      rintro e w3 ⟨v3, rfl, o3, b3⟩
      obtain ⟨A3, c3, rfl⟩ := own_shape o3
      have K3 := Lib.hid (below_join hK.out b3 hK.out.size)
      have O3 := Lib.hid (ho.out.on b3 (Nat.le_refl _))
      have Y3 := Lib.hid (show w3.ownsRow w.heap.size 3 1 (.slice A3 (intsN (lst 12 s)).length c3) (intsN (lst 12 s)).length (cellsV 1 inV (intsN (lst 12 s))) by
        rw [intsN_len, ← elV_ints]; exact own_mono o3 hK.out.size)
      have hz4 := K3.out.size
      obtain ⟨l', hl'⟩ : ∃ l', intsN (lst 12 s) = l' := ⟨_, rfl⟩
      have hll : (lst 12 s).length = l'.length := by rw [← hl', intsN_len]
      rw [hll]
      rw [hl'] at Y3 HNX
      clear b3 o3 b0 hl' hll
      go_wp2_with (at_builtin; refine wpList_append_lies _ rfl _ _ 22 rfl w.heap.size 33 i1 (.slice none 0 0) 1 24 Try.underlying22 hi1 hz1 hz2 hz3 rfl (by decide) (.slice As ys.length cs) ys.length _ rfl (O3.out.1.alloc _) ⟨w3.heap.size, 0, none⟩ 1 1 [.slice A3 l'.length c3] rfl rfl (World.news_of_block (heap_alloc_new _ _)) (by simp [Value.oneCell']) (by decide) (by unfold maxLen; omega) (by omega) (by simp; omega) (w3.heap.size + 1) (by simp) ?_; intro g4 cap4 Z hown hgrow _ _; have HBZ := Lib.hid ((K3.out.alloc K3.out.size _).grown hgrow (by have := K3.out.size; simp; omega) (fun k hk => (ownsRow_lt O3.out.1 hk).1)); have HOZ := Lib.hid (O3.out.push ⟨A3, c3, l'⟩ Y3.out hown hgrow); clear hown hgrow)
      go_roundw
      case rel => exact ⟨k + 1, by omega, by go_num, HBZ, _, by simp [HYL.out], HOZ, Lib.hid (by rw [List.map_append, hm.out, HNX.out]; rfl)⟩
      case measure => simp only [intOf]; omega
    · obtain rfl : k = l.length := by omega
      have HM := Lib.hid (show ys.map (·.l) = listsU l by rw [hm.out, List.take_of_length_le (Nat.le_refl _)])
      go_wp2_with (fail)
      go_ret
      exact ⟨_, ys, rfl, ho.out, HM.out, hK.out⟩
set_option maxHeartbeats 8000000 in
theorem c_Closure (A : Option Addr) (c : Nat) (xs : List LsV) (w : World) (h : LsAt w A c xs) : Calls Try.prog 13 #[.slice A xs.length c] w (LsTo w (rdN xs) (setsL (ordF xs) xs.length)) := by
  have H := Lib.hid h
  obtain ⟨R, hR⟩ : ∃ R, R = LsTo w (rdN xs) (setsL (ordF xs) xs.length) := ⟨_, rfl⟩
  rw [← hR]
  have HRR := Lib.hid hR
  clear hR h
  go_enter Try.func13, Try.ntmps13
  go_wp2_with (fail)
  go_at_call 48
  refine (c_read A c xs w H.out).mono ?_
  rintro e w1 ⟨⟨h0, rfl⟩ | ⟨h0, hl, hok, -, g, rfl, hg, hblk⟩, b1⟩
  · have H0 := Lib.hid h0
    have K1 := Lib.hid b1
    have hne : (rdN xs != 0) = true := by simpa using h0
    have hd0 : (rdN xs == 0) = false := by simpa using h0
    clear h0 b1
    go_wp2_with (fail)
    rw [HRR.out]
    exact ⟨.inl ⟨H0.out, rfl⟩, K1.out⟩
  · have H0 := Lib.hid h0
    have K1 := Lib.hid b1
    have HC := Lib.hid (c_listsOf (some ⟨g, 0, none⟩) xs.length (fL xs.length (ordF xs)) (by rw [fL_len]; exact hl) (fun x hx => by
      obtain ⟨j, -, rfl⟩ := List.mem_map.1 hx
      exact ordF_lt hl hok j) w1 (hblk.rv hl))
    rw [fL_len, listsU_fL] at HC
    clear h0 b1 hblk
    go_wp2_with (fail)
    go_at_call 49
    refine HC.out.mono ?_
    rintro e w2 ⟨v, ys, rfl, ho, hm, b2⟩
    have K2 := Lib.hid (below_join K1.out b2 K1.out.size)
    have HO := Lib.hid ho
    have HM := Lib.hid hm
    have hs1 := K1.out.size
    clear b2 ho hm
    go_wp2_with (fail)
    rw [HRR.out, H0.out]
    exact ⟨.inr ⟨rfl, _, ys, rfl, ⟨own_mono HO.out.1 hs1, fun y hy => own_mono (HO.out.2 y hy) hs1⟩, HM.out⟩, K2.out⟩
end Go.Proofs.Ytjheaeeeeggncaa

namespace Go.Proofs.Ytjheaeeeeggncaa
open Go.RowKit Go.Shelf
attribute [local go_sem] Oper.semAt_some
set_option maxRecDepth 100000
set_option linter.unusedVariables false
set_option linter.unusedSimpArgs false

/-- All blocks but b stand. -/
structure But (b : Nat) (X Y : World) : Prop where
  os : Y.os = X.os
  tape : Y.tape = X.tape
  output : Y.output = X.output
  size : X.heap.size ≤ Y.heap.size
  same : ∀ (k : Nat) (o : Obj), k ≠ b → X.heap[k]? = some o → Y.heap[k]? = some o
section
variable {b S m : Nat} {X Y Z : World}
theorem But.refl (X : World) : But b X X := ⟨rfl, rfl, rfl, Nat.le_refl _, fun _ _ _ h => h⟩
theorem But.trans (h : But b X Y) (k : But b Y Z) : But b X Z := ⟨k.os.trans h.os, k.tape.trans h.tape, k.output.trans h.output, Nat.le_trans h.size k.size, fun i o ho hi => k.same i o ho (h.same i o ho hi)⟩
theorem But.of_below {B : Nat} (h : Below B X Y) (hB : X.heap.size ≤ B) : But b X Y := ⟨h.os, h.tape, h.output, h.size, fun k _ _ hk => (h.block k (Nat.lt_of_lt_of_le (at_lt hk) hB)).trans hk⟩
theorem But.store (x : Value) (o : Nat) : But b X (X.setCell ⟨b, o, none⟩ x) :=
  ⟨rfl, rfl, rfl, by simp [World.setCell], fun k u hne hk => by rw [Below.heap_setCell _ ⟨b, o, none⟩ x k hne]; exact hk⟩
theorem But.drew : But b X X.drew := ⟨rfl, rfl, rfl, Nat.le_refl _, fun _ _ _ h => h⟩
theorem But.below {w : World} {B : Nat} (h : But b X Y) (k : Below B w X) (hb : B ≤ b) (hB : B ≤ w.heap.size) : Below B w Y := by
  refine ⟨h.os.trans k.os, h.tape.trans k.tape, h.output.trans k.output, Nat.le_trans k.size h.size, fun i hi => ?_⟩
  have hlt : i < X.heap.size := Nat.lt_of_lt_of_le (Nat.lt_of_lt_of_le hi hB) k.size
  have h3 := Array.getElem?_eq_getElem hlt
  have := h.same i _ (by omega) h3
  rw [this, ← h3]
  exact k.block i hi
theorem But.own (h : But b X Y) (hE : OwnIt S m Y Z) (hS : X.heap.size ≤ S) : But b X Z :=
  ⟨hE.os.trans h.os, hE.tape.trans h.tape, hE.output.trans h.output, Nat.le_trans h.size hE.size, fun k o hne hk => hE.same k o (h.same k o hne hk) (.inl (by have := at_lt hk; omega))⟩
theorem But.put {l : Nat} (o' : Obj) (h : But b X Y) (hl : X.heap.size ≤ l) : But b X (Y.putObj l o') :=
  ⟨h.os, h.tape, h.output, by simpa using h.size, fun k o hne hk => put_else (h.same k o hne hk) (by have := at_lt hk; omega)⟩
end
/-- Marks of ranges that have ended. -/
def marks (bs : List Nat) : List Deferred := bs.map fun b => { target := .collected b, args := #[] }
structure Mks (B : Nat) (bs : List Nat) (W : World) : Prop where
  nodup : bs.Nodup
  at_ : ∀ b ∈ bs, B ≤ b ∧ W.heap[b]? = some (.deferred (some []))
structure Off (bs : List Nat) (X Y : World) : Prop where
  os : Y.os = X.os
  tape : Y.tape = X.tape
  output : Y.output = X.output
  size : X.heap.size ≤ Y.heap.size
  same : ∀ (k : Nat) (o : Obj), k ∉ bs → X.heap[k]? = some o → Y.heap[k]? = some o
theorem Mks.nil (B : Nat) (W : World) : Mks B [] W := ⟨List.nodup_nil, fun b hb => by cases hb⟩
theorem Mks.lt {B : Nat} {bs : List Nat} {W : World} (h : Mks B bs W) {b : Nat} (hb : b ∈ bs) : b < W.heap.size := at_lt (h.at_ b hb).2
theorem Mks.kept {B : Nat} {bs : List Nat} {X Y : World} (h : Mks B bs X) (hs : ∀ (k : Nat) (o : Obj), X.heap[k]? = some o → o.isCells = false → Y.heap[k]? = some o) : Mks B bs Y :=
  ⟨h.nodup, fun b hb => ⟨(h.at_ b hb).1, hs _ _ (h.at_ b hb).2 rfl⟩⟩
theorem Mks.on {B C : Nat} {bs : List Nat} {X Y : World} (h : Mks B bs X) (hb : Below C X Y) (hC : X.heap.size ≤ C) : Mks B bs Y := h.kept fun k o hk _ => (hb.block _ (Nat.lt_of_lt_of_le (at_lt hk) hC)).trans hk
theorem Mks.but {B c : Nat} {bs : List Nat} {X Y : World} {cs : Array Value} {T : TypeId} (h : Mks B bs X) (hb : But c X Y) (hc : X.heap[c]? = some (.cells cs T (0, 0))) : Mks B bs Y := h.kept fun k o hk ho => hb.same k o (fun e => by subst e; rw [hc] at hk; cases hk; cases ho) hk
theorem Mks.push {B D : Nat} {bs : List Nat} {X Y : World} (h : Mks B bs X) (k : Mks B bs Y) (hD : X.heap.size ≤ D) (hB : B ≤ D) (hd : Y.heap[D]? = some (.deferred (some []))) : Mks B (D :: bs) Y :=
  ⟨List.nodup_cons.2 ⟨fun hm => by have := h.lt hm; omega, h.nodup⟩, fun b hb => by
    rcases List.mem_cons.1 hb with rfl | hb
    · exact ⟨hB, hd⟩
    · exact k.at_ b hb⟩
theorem Off.below {B : Nat} {bs : List Nat} {w X Y : World} (h : Off bs X Y) (hb : ∀ b ∈ bs, B ≤ b) (k : Below B w X) (hB : B ≤ w.heap.size) : Below B w Y := by
  refine ⟨h.os.trans k.os, h.tape.trans k.tape, h.output.trans k.output, Nat.le_trans k.size h.size, fun i hi => ?_⟩
  have hlt : i < X.heap.size := Nat.lt_of_lt_of_le (Nat.lt_of_lt_of_le hi hB) k.size
  have h3 := Array.getElem?_eq_getElem hlt
  have := h.same i _ (fun hm => by have := hb i hm; omega) h3
  rw [this, ← h3]
  exact k.block i hi
theorem Off.cells {B : Nat} {bs : List Nat} {X Y : World} (h : Off bs X Y) (hm : Mks B bs X) {k : Nat} {cs : Array Value} {T : TypeId} {fr : Nat × Nat} (hk : X.heap[k]? = some (.cells cs T fr)) : Y.heap[k]? = some (.cells cs T fr) :=
  h.same k _ (fun hb => by have := (hm.at_ k hb).2; rw [hk] at this; cases this) hk
theorem Off.own {B : Nat} {bs : List Nat} {X Y : World} (h : Off bs X Y) (hm : Mks B bs X) {base : Nat} {e : TypeId} {size n : Nat} {v : Value} {xs : List Value} (ho : X.ownsRow base e size v n xs) : Y.ownsRow base e size v n xs :=
  own_row_kept ho fun g cur _ hc => h.cells hm hc
theorem own_cells {X : World} {base : Nat} {e : TypeId} {size n : Nat} {v : Value} {xs : List Value} (h : X.ownsRow base e size v n xs) {g : Nat} (hg : v.ownBlock = some g) : ∃ cs, X.heap[g]? = some (.cells cs e (0, 0)) := by
  obtain ⟨k1, ⟨rfl, -⟩ | ⟨g', cap, cur, rfl, k3, k4, k⟩⟩ := h
  · cases hg
  · have hg2 : some g' = some g := hg
    injection hg2 with hg2
    subst hg2
    exact ⟨_, k4⟩
/-- Marks stand when a row grows. -/
theorem Mks.grown {B : Nat} {bs : List Nat} {X Z : World} {base : Nat} {e : TypeId} {size n : Nat} {v : Value} {xs : List Value} {tmp : Obj} (h : Mks B bs X) (ho : X.ownsRow base e size v n xs) (hg : (X.alloc tmp).grownBy Z v.ownBlock) : Mks B bs Z :=
  h.kept fun k o hk hc => by
    have hl := at_lt hk
    rw [hg.block k (by simp; omega) (fun e => by obtain ⟨cs, h2⟩ := own_cells ho e.symm; rw [hk] at h2; cases h2; cases hc), Below.heap_alloc _ _ _ hl]
    exact hk
theorem leaves_marks {F : Fence} {n : Nat} {P : Program} {fn : Func} {tmps : Array Value} {R : Ending → World → Prop} {u : FrameMode} (hu : u ≠ .run) {B : Nat} : ∀ (bs : List Nat) (W : World), Mks B bs W →
    (∀ W', Off bs W W' → LeavesInM F n P fn tmps R [] u W') → LeavesInM F n P fn tmps R (marks bs) u W
  | [], W, _, h => h W ⟨rfl, rfl, rfl, Nat.le_refl _, fun _ _ _ hk => hk⟩
  | b :: bs, W, hm, h => by
    have hn := List.nodup_cons.1 hm.nodup
    refine ⟨hu, .inl ⟨b, _, rfl, run_takeDeferred (hm.at_ b (by simp)).2, leaves_marks (B := B) hu bs _ ⟨hn.2, fun c hc => ?_⟩ fun W' hW' => h W' ?_⟩⟩
    · have := hm.at_ c (by simp [hc])
      exact ⟨this.1, put_else this.2 (fun e => hn.1 (e ▸ hc))⟩
    · exact ⟨hW'.os, hW'.tape, hW'.output, Nat.le_trans (by simp) hW'.size, fun k o hk ho => hW'.same k o (fun h => hk (by simp [h])) (put_else ho (fun e => hk (by simp [e])))⟩
end Go.Proofs.Ytjheaeeeeggncaa
