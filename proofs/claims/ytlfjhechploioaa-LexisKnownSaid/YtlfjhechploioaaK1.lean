/-
  DERIVED. The walk of the law LexisKnown.
-/
import Derived.Test.YtlfjhechploioaaW
import Derived.Test.YtlfjhechploioaaS
namespace Go.Proofs.Ytlfjhechploioaa
open Go.RowKit

def knA : ByteArray := ⟨#[97, 45, 49, 123, 98, 44, 99, 125]⟩
def knL : List Tok := [⟨1, ⟨#[97, 45, 49]⟩, 0, 0⟩, ⟨3, ⟨#[123]⟩, 0, 3⟩, ⟨1, ⟨#[98]⟩, 0, 4⟩, ⟨3, ⟨#[44]⟩, 0, 5⟩, ⟨1, ⟨#[99]⟩, 0, 6⟩, ⟨3, ⟨#[125]⟩, 0, 7⟩]
theorem kn_toks : toksOf knA = (knL, 0, 0) := by kernel_rfl

def knT (k : Nat) : ByteArray := [(⟨#[97, 32, 46, 32, 98]⟩ : ByteArray), ⟨#[48, 49]⟩, ⟨#[32, 65]⟩, ⟨#[120, 32, 45]⟩, ⟨#[97, 98, 99, 100, 101, 102, 103, 104, 105, 106, 107, 108, 32, 97, 98, 99, 100, 101, 102, 103, 104, 105, 106, 107, 108, 109]⟩,
  ⟨#[57, 57, 57, 57, 57, 57, 57, 57, 57, 32, 49, 48, 48, 48, 48, 48, 48, 48, 48, 48]⟩, ⟨#[48, 49, 50, 51, 52, 53, 54, 55, 56, 57]⟩, ⟨#[97, 95, 98]⟩, ⟨#[120, 34]⟩, ⟨#[49, 97, 32, 50]⟩].getD k ⟨#[]⟩
def knO (k : Nat) : Int := [(2 : Int), 0, 1, 2, 13, 10, 0, 1, 1, 0].getD k 0
def knE (k : Nat) : Int := [(4 : Int), 4, 4, 4, 3, 3, 4, 4, 4, 0].getD k 0
theorem kn0 : (toksOf (knT 0)).2 = (knO 0, knE 0) := by kernel_rfl
theorem kn1 : (toksOf (knT 1)).2 = (knO 1, knE 1) := by kernel_rfl
theorem kn2 : (toksOf (knT 2)).2 = (knO 2, knE 2) := by kernel_rfl
theorem kn3 : (toksOf (knT 3)).2 = (knO 3, knE 3) := by kernel_rfl
theorem kn4 : (toksOf (knT 4)).2 = (knO 4, knE 4) := by kernel_rfl
theorem kn5 : (toksOf (knT 5)).2 = (knO 5, knE 5) := by kernel_rfl
theorem kn6 : (toksOf (knT 6)).2 = (knO 6, knE 6) := by kernel_rfl
theorem kn7 : (toksOf (knT 7)).2 = (knO 7, knE 7) := by kernel_rfl
theorem kn8 : (toksOf (knT 8)).2 = (knO 8, knE 8) := by kernel_rfl
theorem kn9 : (toksOf (knT 9)).2 = (knO 9, knE 9) := by kernel_rfl
theorem kn_all (k : Nat) (h : k < 10) : (toksOf (knT k)).2 = (knO k, knE k) := by
  match k, h with
  | 0, _ => exact kn0
  | 1, _ => exact kn1
  | 2, _ => exact kn2
  | 3, _ => exact kn3
  | 4, _ => exact kn4
  | 5, _ => exact kn5
  | 6, _ => exact kn6
  | 7, _ => exact kn7
  | 8, _ => exact kn8
  | 9, _ => exact kn9
theorem kn_size (k : Nat) (h : k < 10) : (knT k).size ≤ maxLen := by
  have : (knT k).size ≤ 26 := by
    match k, h with
    | 0, _ => decide
    | 1, _ => decide
    | 2, _ => decide
    | 3, _ => decide
    | 4, _ => decide
    | 5, _ => decide
    | 6, _ => decide
    | 7, _ => decide
    | 8, _ => decide
    | 9, _ => decide
  unfold maxLen; omega

theorem kn_cells {w : World} {B : Nat} {v : Value} (h : TokSl w B v knL) : ∃ b o c, v = .slice (some ⟨b, o, none⟩) 6 c ∧ 6 ≤ c ∧ c ≤ maxLen ∧
    w.cell? ⟨b, o + 1, none⟩ = some (.string ⟨#[97, 45, 49]⟩) ∧ w.cell? ⟨b, o + 5, none⟩ = some (.string ⟨#[123]⟩) ∧ w.cell? ⟨b, o + 13, none⟩ = some (.string ⟨#[44]⟩) ∧ w.cell? ⟨b, o + 23, none⟩ = some (.int .i64 7) := by
  obtain ⟨A, c, rfl, h2, h3, h4⟩ := h
  obtain ⟨b, o, rfl, _, hc⟩ := h4 (by decide)
  exact ⟨b, o, c, rfl, h2, h3, hc 1 _ rfl, hc 5 _ rfl, hc 13 _ rfl, hc 23 _ rfl⟩

theorem TokSl.one (w : World) (t : Tok) : TokSl (w.alloc (.cells #[.int .u8 t.kind, .string t.text, .int .i64 t.num, .int .i64 t.off] 34)) (w.heap.size + 1) (.slice (some ⟨w.heap.size, 0, none⟩) 1 1) [t] := by
  refine ⟨_, 1, rfl, Nat.le_refl _, by decide, fun _ => ⟨w.heap.size, 0, rfl, by omega, fun j u hj => ?_⟩⟩
  have := cell_four_new w (.int .u8 t.kind) (.string t.text) (.int .i64 t.num) (.int .i64 t.off) 34 j u (by simpa [tokCells, Tok.cells] using hj)
  rw [add0] at this
  rwa [Nat.zero_add]

def sc : Tok := ⟨3, ⟨#[59]⟩, 0, 0⟩
theorem sc_valid : validT sc = true := by kernel_rfl
theorem sc_join (n : Nat) : (joinB (List.replicate (n + 1) sc)).size = 2 * n + 1 := by
  induction n with
  | zero => rfl
  | succ n ih =>
    rw [List.replicate_succ', joinB_snoc _ _ (by simp [List.replicate_succ]), ByteArray.size_append, ByteArray.size_append, ih]
    have e1 : (⟨#[32]⟩ : ByteArray).size = 1 := rfl
    have e2 : sc.text.size = 1 := rfl
    omega
theorem sc_all (n : Nat) : (List.replicate n sc).all validT = true := by
  rw [List.all_eq_true]
  intro t ht
  rw [List.eq_of_mem_replicate ht]
  exact sc_valid
theorem sc_print (n : Nat) (h : n + 1 ≤ 2048) : (printOf (List.replicate (n + 1) sc)).2 = 0 := by
  unfold printOf
  rw [if_pos (sc_all _), if_neg (by rw [sc_join]; omega)]
theorem sc_print2 : (printOf (List.replicate (2048 + 1) sc)).2 = 3 := by
  unfold printOf
  rw [if_pos (sc_all _), if_pos (by rw [sc_join]; omega)]

theorem three_blocks (w : World) (A B C : Array Value) (tA tB tC : TypeId) :
    (∀ i, (((w.alloc (.cells A tA)).alloc (.cells B tB)).alloc (.cells C tC)).cell? ⟨w.heap.size, i, none⟩ = A[i]?) ∧
    (∀ i, (((w.alloc (.cells A tA)).alloc (.cells B tB)).alloc (.cells C tC)).cell? ⟨w.heap.size + 1, i, none⟩ = B[i]?) ∧
    (∀ i, (((w.alloc (.cells A tA)).alloc (.cells B tB)).alloc (.cells C tC)).cell? ⟨w.heap.size + 1 + 1, i, none⟩ = C[i]?) ∧
    Below w.heap.size w (((w.alloc (.cells A tA)).alloc (.cells B tB)).alloc (.cells C tC)) := by
  refine ⟨fun i => ?_, fun i => ?_, fun i => ?_, (((Below.refl _ _).alloc (Nat.le_refl _) _).alloc (by simp) _).alloc (by simp; omega) _⟩
  · rw [World.cell?_alloc_lt _ _ ⟨w.heap.size, i, none⟩ (by simp; omega), World.cell?_alloc_lt _ _ ⟨w.heap.size, i, none⟩ (by simp)]
    exact World.cell?_alloc_mark w _ _ _ _
  · rw [World.cell?_alloc_lt _ _ ⟨w.heap.size + 1, i, none⟩ (by simp)]
    have h := World.cell?_alloc_mark (w.alloc (.cells A tA)) B tB (0, 0) i
    rwa [World.size_alloc] at h
  · have h := World.cell?_alloc_mark ((w.alloc (.cells A tA)).alloc (.cells B tB)) C tC (0, 0) i
    rwa [World.size_alloc, World.size_alloc] at h

/-- What stands between two rounds of the first loop. -/
def KnRel (w1 : World) (iv : Value) (wr : World) : Prop := ∃ k : Nat, iv = .int .i64 k ∧ k ≤ 10 ∧ w1.heap.size + 3 ≤ wr.heap.size ∧ (∀ i, i < 10 → wr.cell? ⟨w1.heap.size, i, none⟩ = some (.string (knT i))) ∧
  (∀ i, i < 10 → wr.cell? ⟨w1.heap.size + 1, i, none⟩ = some (.int .i64 (knO i))) ∧ (∀ i, i < 10 → wr.cell? ⟨w1.heap.size + 1 + 1, i, none⟩ = some (.int .i64 (knE i))) ∧ Below w1.heap.size w1 wr

theorem ten {P : Nat → Prop} (h0 : P 0) (h1 : P 1) (h2 : P 2) (h3 : P 3) (h4 : P 4) (h5 : P 5) (h6 : P 6) (h7 : P 7) (h8 : P 8) (h9 : P 9) : ∀ i, i < 10 → P i := by
  intro i hi
  match i, hi with
  | 0, _ => exact h0
  | 1, _ => exact h1
  | 2, _ => exact h2
  | 3, _ => exact h3
  | 4, _ => exact h4
  | 5, _ => exact h5
  | 6, _ => exact h6
  | 7, _ => exact h7
  | 8, _ => exact h8
  | 9, _ => exact h9

theorem kp1 : printOf [⟨1, ⟨#[97, 32, 98]⟩, 0, 0⟩] = (⟨#[]⟩, 1) := by kernel_rfl
theorem kp2 : printOf [⟨2, ⟨#[53]⟩, 6, 0⟩] = (⟨#[]⟩, 1) := by kernel_rfl
theorem kp3 : printOf [⟨3, ⟨#[61, 61]⟩, 0, 0⟩] = (⟨#[]⟩, 1) := by kernel_rfl

theorem mk_many (W : World) : (Instr.makeSlice 22 (.int .i64 2049) (.int .i64 2049)).run Try.prog W = .ok (.slice (some ⟨W.heap.size, 0, none⟩) 2049 2049) (W.alloc (.cells (madeCells Tok.zero.val.cells 8196) 34)) := by
  obtain ⟨i0, hi, hz0, hz1, hz2⟩ := info_parts info34
  have h := run_make (P := Try.prog) W 22 34 i0 Tok.zero.val Try.underlying22 hi hz0 .i64 .i64 2049 2049 (by omega) (by omega) (by rw [hz2]; omega) (by omega)
  rw [hz1] at h
  exact h

theorem many_cell {w : World} {g : Nat} {cs : Array Value} {t : TypeId} (h : w.heap[g]? = some (.cells cs t (0, 0))) (i : Nat) (hi : i < cs.size) : w.cell? ⟨g, i, none⟩ = some cs[i] := by
  simp [World.cell?, h, hi]
theorem many_frozen {w : World} {g : Nat} {cs : Array Value} {t : TypeId} (h : w.heap[g]? = some (.cells cs t (0, 0))) (i : Nat) : w.frozen? ⟨g, i, none⟩ = false := by
  simp [World.frozen?, h]

theorem sc_sl {w : World} {g : Nat} {cs : Array Value} (hg : w.heap[g]? = some (.cells cs 34 (0, 0))) (hall : ∀ j, j < 2049 → ∀ f u, (Tok.cells sc)[f]? = some u → cs[j * 4 + f]? = some u) (n : Nat) (hn : n ≤ 2049) :
    TokSl w (g + 1) (.slice (some ⟨g, 0, none⟩) n 2049) (List.replicate n sc) := by
  refine ⟨_, 2049, by rw [List.length_replicate], by rw [List.length_replicate]; exact hn, by decide, fun _ => ⟨g, 0, rfl, by omega, fun j u hj => ?_⟩⟩
  obtain ⟨t, h1, h2⟩ := tokCells_of _ j u hj
  have hi : j / 4 < n := by have := (List.getElem?_eq_some_iff.1 h1).1; rwa [List.length_replicate] at this
  have ht : t = sc := by
    rw [List.getElem?_replicate, if_pos hi] at h1
    injection h1 with h1; exact h1.symm
  subst ht
  have h3 := hall (j / 4) (by omega) (j % 4) u h2
  rw [show j / 4 * 4 + j % 4 = j from by omega] at h3
  have hlt := (Array.getElem?_eq_some_iff.1 h3).1
  rw [Nat.zero_add, many_cell hg j hlt, ← h3, Array.getElem?_eq_getElem hlt]

/-- What stands between two rounds of the second loop. -/
def KmRel (g : Nat) (w1 : World) (iv : Value) (wr : World) : Prop := ∃ (k : Nat) (cs : Array Value), iv = .int .i64 k ∧ k ≤ 2049 ∧ wr.heap[g]? = some (.cells cs 34 (0, 0)) ∧ cs.size = 8196 ∧
  (∀ j, j < k → ∀ f u, (Tok.cells sc)[f]? = some u → cs[j * 4 + f]? = some u) ∧ g + 1 ≤ wr.heap.size ∧ Below w1.heap.size w1 wr

theorem kn_hash : toksOf ⟨#[35]⟩ = ([], 0, 0) := by kernel_rfl

theorem setc_blk {w : World} {g : Nat} {cs : Array Value} {t : TypeId} (h : w.heap[g]? = some (.cells cs t (0, 0))) (i : Nat) (u : Value) : (w.setCell ⟨g, i, none⟩ u).heap[g]? = some (.cells (cs.setIfInBounds i u) t (0, 0)) := by
  simp [World.setCell, Array.getElem?_modify, h]

theorem km_step {w1 wr : World} {g k : Nat} {cs : Array Value} (hg : wr.heap[g]? = some (.cells cs 34 (0, 0))) (hcs : cs.size = 8196) (hlt : k < 2049) (hall : ∀ j, j < k → ∀ f u, (Tok.cells sc)[f]? = some u → cs[j * 4 + f]? = some u) (hgz : g + 1 ≤ wr.heap.size)
    (hB : Below w1.heap.size w1 wr) (hw : w1.heap.size ≤ g) :
    KmRel g w1 (.int .i64 ((k : Int) + 1)) ((((wr.setCell ⟨g, k * 4, none⟩ (.int .u8 3)).setCell ⟨g, k * 4 + 1, none⟩ (.string ⟨#[59]⟩)).setCell ⟨g, k * 4 + 2, none⟩ (.int .i64 0)).setCell ⟨g, k * 4 + 3, none⟩ (.int .i64 0)) := by
  refine ⟨k + 1, _, by go_num, by omega, setc_blk (setc_blk (setc_blk (setc_blk hg _ _) _ _) _ _) _ _, by simp [hcs], fun j hj f u hu => ?_, ?_, ?_⟩
  · have hf : f < 4 := (List.getElem?_eq_some_iff.1 hu).1
    by_cases hjk : j < k
    · have h := hall j hjk f u hu
      rw [Array.getElem?_setIfInBounds_ne (by omega), Array.getElem?_setIfInBounds_ne (by omega), Array.getElem?_setIfInBounds_ne (by omega), Array.getElem?_setIfInBounds_ne (by omega)]
      exact h
    · obtain rfl : j = k := by omega
      match f, hf, hu with
      | 0, _, hu =>
        rw [Array.getElem?_setIfInBounds_ne (by omega), Array.getElem?_setIfInBounds_ne (by omega), Array.getElem?_setIfInBounds_ne (by omega), Nat.add_zero, Array.getElem?_setIfInBounds_self_of_lt (by omega)]
        exact hu
      | 1, _, hu =>
        rw [Array.getElem?_setIfInBounds_ne (by omega), Array.getElem?_setIfInBounds_ne (by omega), Array.getElem?_setIfInBounds_self_of_lt (by simp [hcs]; omega)]
        exact hu
      | 2, _, hu =>
        rw [Array.getElem?_setIfInBounds_ne (by omega), Array.getElem?_setIfInBounds_self_of_lt (by simp [hcs]; omega)]
        exact hu
      | 3, _, hu =>
        rw [Array.getElem?_setIfInBounds_self_of_lt (by simp [hcs]; omega)]
        exact hu
  · simp; omega
  · exact (((hB.setCell (p := ⟨g, k * 4, none⟩) hw _).setCell (p := ⟨g, k * 4 + 1, none⟩) hw _).setCell (p := ⟨g, k * 4 + 2, none⟩) hw _).setCell (p := ⟨g, k * 4 + 3, none⟩) hw _

set_option maxHeartbeats 4000000 in
set_option maxRecDepth 100000 in
theorem w_LexisKnown (w : World) : Calls Try.prog 9 #[] w fun e w' => e = .returned (.bool true) ∧ Below w.heap.size w w' := by
  have h1 := c_Tokens knA (by decide)
  rw [kn_toks] at h1
  unfold knA at h1
  have H1 := Lib.hid h1
  clear h1
  go_enter Try.func9, Try.ntmps9
  go_wp2_with fail
  refine (H1.out _).mono ?_
  rintro e w1 ⟨v1, rfl, hr1, hb1⟩
  obtain ⟨b, o, c, rfl, hc, hcm, q1, q2, q3, q4⟩ := kn_cells (TokSl.of_own hr1)
  clear hr1 H1
  unfold maxLen at hcm
  go_wp2_with fail
  clear q1 q2 q3 q4
  go_loopw [8] (fun iv wr => KnRel w1 iv wr) (fun iv wr => 10 - (intOf iv).toNat)
  case atStart =>
    obtain ⟨x1, x2, x3, x4⟩ := three_blocks w1 _ _ _ _ _ _
    refine ⟨0, rfl, Nat.zero_le _, by simp, ?_, ?_, ?_, x4⟩
    · apply ten <;> (rw [x1]; rfl)
    · apply ten <;> (rw [x2]; rfl)
    · apply ten <;> (rw [x3]; rfl)
  case round =>
    obtain ⟨k, rfl, hk, hz, y1, y2, y3, hB⟩ := hrel
    by_cases hlt : k < 10
    · have h1 := y1 k hlt
      have h2 := y2 k hlt
      have h3 := y3 k hlt
      have Y := Lib.hid (And.intro y1 (And.intro y2 y3))
      have ht := c_Tokens (knT k) (kn_size k hlt)
      have hall := kn_all k hlt
      generalize toksOf (knT k) = r at ht hall
      obtain ⟨l, r2⟩ := r
      dsimp only at hall
      subst hall
      have Ht := Lib.hid ht
      clear ht y1 y2 y3
      generalize knT k = T at *
      generalize knO k = O at *
      generalize knE k = E at *
      go_wp2_with fail
      refine (Ht.out _).mono ?_
      rintro e w2 ⟨v2, rfl, hr2, hb2⟩
      have l2 : w1.heap.size + 1 < wr.heap.size := by omega
      have l3 : w1.heap.size + 1 + 1 < wr.heap.size := by omega
      have h2' := (hb2.cell (p := ⟨w1.heap.size + 1, k, none⟩) l2).trans h2
      have h3' := (hb2.cell (p := ⟨w1.heap.size + 1 + 1, k, none⟩) l3).trans h3
      have Hr2 := Lib.hid hr2
      clear hr2 h1 h2 h3
      go_wp2_with fail
      have hZ := hb2.size
      refine ⟨⟨k + 1, by go_num, by omega, by omega, fun i hi => ?_, fun i hi => ?_, fun i hi => ?_, hB.trans (hb2.mono (by omega))⟩, by simp [intOf]; omega⟩
      · exact (hb2.cell (p := ⟨w1.heap.size, i, none⟩) (show w1.heap.size < wr.heap.size by omega)).trans (Y.out.1 i hi)
      · exact (hb2.cell (p := ⟨w1.heap.size + 1, i, none⟩) l2).trans (Y.out.2.1 i hi)
      · exact (hb2.cell (p := ⟨w1.heap.size + 1 + 1, i, none⟩) l3).trans (Y.out.2.2 i hi)
    · clear y1 y2 y3
      have hz1 := hB.size
      have P1 := Lib.hid (fun v w => c_Print v [⟨1, ⟨#[97, 32, 98]⟩, 0, 0⟩] (by decide) (by decide) w)
      have P2 := Lib.hid (fun v w => c_Print v [⟨2, ⟨#[53]⟩, 6, 0⟩] (by decide) (by decide) w)
      have P3 := Lib.hid (fun v w => c_Print v [⟨3, ⟨#[61, 61]⟩, 0, 0⟩] (by decide) (by decide) w)
      rw [kp1] at P1
      rw [kp2] at P2
      rw [kp3] at P3
      go_wp2_with fail
      refine (P1.out _ _ ((TokSl.one wr ⟨1, ⟨#[97, 32, 98]⟩, 0, 0⟩).more (by simp))).mono ?_
      rintro e w3 ⟨rfl, hb3⟩
      have B3 : Below w1.heap.size w1 w3 := hB.trans (((Below.refl _ _).alloc hz1 _).trans (hb3.mono (by simp; omega)))
      clear hb3 P1 hB
      have z3 := B3.size
      go_wp2_with fail
      refine (P2.out _ _ ((TokSl.one w3 ⟨2, ⟨#[53]⟩, 6, 0⟩).more (by simp))).mono ?_
      rintro e w4 ⟨rfl, hb4⟩
      have B4 : Below w1.heap.size w1 w4 := B3.trans (((Below.refl _ _).alloc z3 _).trans (hb4.mono (by simp; omega)))
      clear hb4 P2 B3
      have z4 := B4.size
      go_wp2_with fail
      refine (P3.out _ _ ((TokSl.one w4 ⟨3, ⟨#[61, 61]⟩, 0, 0⟩).more (by simp))).mono ?_
      rintro e w5 ⟨rfl, hb5⟩
      have B5 : Below w1.heap.size w1 w5 := B4.trans (((Below.refl _ _).alloc z4 _).trans (hb5.mono (by simp; omega)))
      clear hb5 P3 B4
      have z5 := B5.size
      have hmk := mk_many
      go_wp2_with fail
      clear hmk
      go_loopw [19] (fun iv wr => KmRel w5.heap.size w1 iv wr) (fun iv wr => 2049 - (intOf iv).toNat)
      case atStart =>
        exact ⟨0, _, rfl, Nat.zero_le _, heap_alloc_new w5 _, size_madeCells _ _, fun j hj => absurd hj (Nat.not_lt_zero _), by simp, B5.alloc z5 _⟩
      case round =>
        obtain ⟨k, cs, rfl, hk, hg, hcs, hall, hgz, hB⟩ := hrel
        by_cases hlt : k < 2049
        · obtain ⟨x0, c0⟩ : ∃ x, wr.cell? ⟨w5.heap.size, k * 4, none⟩ = some x := ⟨_, many_cell hg (k * 4) (by omega)⟩
          obtain ⟨x1, c1⟩ : ∃ x, wr.cell? ⟨w5.heap.size, k * 4 + 1, none⟩ = some x := ⟨_, many_cell hg (k * 4 + 1) (by omega)⟩
          obtain ⟨x2, c2⟩ : ∃ x, wr.cell? ⟨w5.heap.size, k * 4 + 2, none⟩ = some x := ⟨_, many_cell hg (k * 4 + 2) (by omega)⟩
          obtain ⟨x3, c3⟩ : ∃ x, wr.cell? ⟨w5.heap.size, k * 4 + 3, none⟩ = some x := ⟨_, many_cell hg (k * 4 + 3) (by omega)⟩
          have f0 : wr.frozen? ⟨w5.heap.size, k * 4, none⟩ = false := many_frozen hg _
          have f1 : wr.frozen? ⟨w5.heap.size, k * 4 + 1, none⟩ = false := many_frozen hg _
          have f2 : wr.frozen? ⟨w5.heap.size, k * 4 + 2, none⟩ = false := many_frozen hg _
          have f3 : wr.frozen? ⟨w5.heap.size, k * 4 + 3, none⟩ = false := many_frozen hg _
          have Hall := Lib.hid hall
          have Hg := Lib.hid hg
          have Hcs := Lib.hid hcs
          clear hall hg hcs
          go_wp2_with fail
          exact ⟨km_step Hg.out Hcs.out hlt Hall.out hgz hB z5, by simp [intOf]; omega⟩
        · have hkk : k = 2049 := by omega
          subst hkk
          have T1 := Lib.hid (sc_sl hg hall 2048 (by omega))
          have T2 := Lib.hid (sc_sl hg hall 2049 (by omega))
          have hp1 := sc_print 2047 (by omega)
          have hp2 := sc_print2
          have Q1 := fun v w => c_Print v (List.replicate (2047 + 1) sc) (by simp) (fun t ht => by rw [List.eq_of_mem_replicate ht]; decide) w
          have Q2 := fun v w => c_Print v (List.replicate (2048 + 1) sc) (by simp) (fun t ht => by rw [List.eq_of_mem_replicate ht]; decide) w
          simp only [Nat.reduceAdd] at hp1 hp2 Q1 Q2
          generalize List.replicate 2048 sc = L1 at *
          generalize List.replicate 2049 sc = L2 at *
          generalize printOf L1 = r1 at *
          generalize printOf L2 = r2 at *
          obtain ⟨S1, E1⟩ := r1
          obtain ⟨S2, E2⟩ := r2
          dsimp only at hp1 hp2 Q1 Q2
          subst hp1 hp2
          have Q1 := Lib.hid Q1
          have Q2 := Lib.hid Q2
          have HT := c_Tokens ⟨#[35]⟩ (by decide)
          rw [kn_hash] at HT
          have HT := Lib.hid HT
          clear hg hcs hall
          go_wp2_with fail
          refine (Q1.out _ _ (T1.out.more hgz)).mono ?_
          rintro e w6 ⟨rfl, hb6⟩
          have Z6 := hb6.size
          have B6 : Below w1.heap.size w1 w6 := hB.trans (hb6.mono (by omega))
          go_wp2_with fail
          refine (Q2.out _ _ ((T2.out.below hb6 hgz).more (by omega))).mono ?_
          rintro e w7 ⟨rfl, hb7⟩
          have z6 := B6.size
          have B7 : Below w1.heap.size w1 w7 := B6.trans (hb7.mono (by omega))
          clear hb6 hb7 Q1 Q2 hB
          have z7 := B7.size
          go_wp2_with fail
          refine (HT.out _).mono ?_
          rintro e w8 ⟨v8, rfl, hr8, hb8⟩
          have B8 : Below w1.heap.size w1 w8 := B7.trans (hb8.mono (by omega))
          obtain ⟨A8, c8, rfl, -⟩ := TokSl.of_own hr8
          clear hr8 hb8 B7
          have z8 := B8.size
          go_wp2_with fail
          refine (l_awake _).mono ?_
          rintro e w9 ⟨rfl, hb9⟩
          go_wp2_with fail
          go_ret
          exact ⟨rfl, hb1.trans ((B8.trans (hb9.mono (by omega))).mono hb1.size)⟩
end Go.Proofs.Ytlfjhechploioaa
