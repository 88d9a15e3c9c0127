/-
  DERIVED. The contract of lexis.read.
-/
import Derived.Test.YtlfjhechploioaaD
namespace Go.Proofs.Ytlfjhechploioaa
open Go.RowKit

def readOf (s : ByteArray) : Tok × Int :=
  match (bt s).head? with
  | none => (.zero, 4)
  | some c =>
    if isLe c then nameOf (s.extract 0 (fr inNa (bt s)))
    else if isDi c then numberOf (s.extract 0 (fr isDi (bt s)))
    else if isSi c then (⟨3, s.extract 0 1, 0, 0⟩, 0)
    else (.zero, 4)

theorem bt_head (s : ByteArray) (h : 0 < s.size) : (bt s).head? = some s[0] := by
  have := bt_drop s 0 h
  rw [List.drop_zero] at this
  rw [this]; rfl
theorem bt_take (s : ByteArray) (n : Nat) : bt (s.extract 0 n) = (bt s).take n := by
  unfold bt
  rw [ByteArray.data_extract, Array.toList_extract]
  simp [List.extract]
theorem fr_all (p : UInt8 → Bool) : ∀ l : List UInt8, ∀ c ∈ l.take (fr p l), p c = true
  | [] => by simp [fr]
  | c :: r => by
    by_cases h : p c = true
    · simp only [fr, if_pos h, List.take_succ_cons, List.mem_cons]
      rintro x (rfl | hx)
      · exact h
      · exact fr_all p r x hx
    · simp [fr, h]

theorem empty_no (s : ByteArray) (h : 0 < s.size) : s.toList.isEmpty = false := by
  rw [ByteArray.toList_eq, List.isEmpty_eq_false_iff]
  intro h2
  have := bt_len s
  unfold bt at this
  rw [h2] at this
  simp at this
  omega
theorem empty_yes (s : ByteArray) (h : ¬ 0 < s.size) : s.toList.isEmpty = true := by
  rw [ByteArray.toList_eq, List.isEmpty_iff]
  have := bt_len s
  unfold bt at this
  exact List.eq_nil_of_length_eq_zero (by omega)

/-- A result's block is as it was laid, behind a call that leaves what lay. -/
theorem res4 {w w' : World} {a b c d : Value} {t : TypeId} (hb : Below (w.alloc (.cells #[a, b, c, d] t)).heap.size (w.alloc (.cells #[a, b, c, d] t)) w') :
    (w'.cell? ⟨w.heap.size, 0, none⟩ = some a ∧ w'.cell? ⟨w.heap.size, 1, none⟩ = some b ∧ w'.cell? ⟨w.heap.size, 2, none⟩ = some c ∧ w'.cell? ⟨w.heap.size, 3, none⟩ = some d) ∧
    (w'.frozen? ⟨w.heap.size, 0, none⟩ = false ∧ w'.frozen? ⟨w.heap.size, 1, none⟩ = false ∧ w'.frozen? ⟨w.heap.size, 2, none⟩ = false ∧ w'.frozen? ⟨w.heap.size, 3, none⟩ = false) ∧ w.heap.size < w'.heap.size := by
  have h1 : ∀ i, w'.cell? ⟨w.heap.size, i, none⟩ = #[a, b, c, d][i]? := fun i => by
    rw [hb.cell (p := ⟨w.heap.size, i, none⟩) (by simp)]
    exact World.cell?_alloc_mark w _ _ _ _
  have h2 : ∀ i, w'.frozen? ⟨w.heap.size, i, none⟩ = false := fun i => by
    rw [hb.frozen (p := ⟨w.heap.size, i, none⟩) (by simp)]
    have := World.frozen?_alloc_mark w #[a, b, c, d] t 0 0 i
    rw [this]; simp
  have := hb.size
  simp at this
  exact ⟨⟨h1 0, h1 1, h1 2, h1 3⟩, ⟨h2 0, h2 1, h2 2, h2 3⟩, by omega⟩

theorem set4 {w w' : World} {o : Obj} (hb : Below (w.alloc o).heap.size (w.alloc o) w') (a b c d : Value) :
    Below w.heap.size w ((((w'.setCell ⟨w.heap.size, 0, none⟩ a).setCell ⟨w.heap.size, 1, none⟩ b).setCell ⟨w.heap.size, 2, none⟩ c).setCell ⟨w.heap.size, 3, none⟩ d) :=
  ((((((Below.refl _ _).alloc (Nat.le_refl _) _).trans (hb.mono (by simp))).setCell (p := ⟨w.heap.size, 0, none⟩) (Nat.le_refl _) _).setCell (p := ⟨w.heap.size, 1, none⟩) (Nat.le_refl _) _).setCell (p := ⟨w.heap.size, 2, none⟩) (Nat.le_refl _) _).setCell (p := ⟨w.heap.size, 3, none⟩) (Nat.le_refl _) _

set_option maxHeartbeats 400000 in
theorem c_read (s : ByteArray) (hs : s.size ≤ maxLen) (w : World) :
    Calls Try.prog 26 #[.string s] w (Two (readOf s) w) := by
  have Hm := Lib.hid hs
  unfold maxLen at hs
  by_cases h0 : 0 < s.size
  · have hh := bt_head s h0
    have hse := empty_no s h0
    cases hl : isLe s[0]
    · cases hdg : isDi s[0]
      · cases hsg : isSi s[0]
        · have hv : readOf s = (.zero, 4) := by unfold readOf; rw [hh]; simp [hl, hdg, hsg]
          rw [hv]
          have Hl := Lib.hid hl
          have Hd := Lib.hid hdg
          have Hs := Lib.hid hsg
          clear hl hdg hsg hh hv
          go_enter Try.func26, Try.ntmps26
          go_wp2_with (first | (go_at_call 39; refine (c_isLetter _ _).mono ?_; rintro e w' ⟨rfl, rfl⟩; rw [Hl.out]) | (go_at_call 42; refine (c_isDigit _ _).mono ?_; rintro e w' ⟨rfl, rfl⟩; rw [Hd.out]) | (go_at_call 44; refine (c_isSign _ _).mono ?_; rintro e w' ⟨rfl, rfl⟩; rw [Hs.out]))
          exact bodyPost_ret (v := .tuple #[Tok.val .zero, .int .i64 4]) (by simp [results, Try.results26, Tok.val, Tok.zero, go_sem]) rfl ⟨rfl, (Below.refl _ _).alloc (Nat.le_refl _) _⟩
        · have hv : readOf s = (⟨3, s.extract 0 1, 0, 0⟩, 0) := by unfold readOf; rw [hh]; simp [hl, hdg, hsg]
          rw [hv]
          have Hl := Lib.hid hl
          have Hd := Lib.hid hdg
          have Hs := Lib.hid hsg
          clear hl hdg hsg hh hv
          go_enter Try.func26, Try.ntmps26
          go_wp2_with (first | (go_at_call 39; refine (c_isLetter _ _).mono ?_; rintro e w' ⟨rfl, rfl⟩; rw [Hl.out]) | (go_at_call 42; refine (c_isDigit _ _).mono ?_; rintro e w' ⟨rfl, rfl⟩; rw [Hd.out]) | (go_at_call 44; refine (c_isSign _ _).mono ?_; rintro e w' ⟨rfl, rfl⟩; rw [Hs.out]))
          exact bodyPost_ret (v := .tuple #[Tok.val ⟨3, s.extract 0 1, 0, 0⟩, .int .i64 0]) (by simp [results, Try.results26, Tok.val, go_sem]) rfl ⟨rfl, (Below.refl _ _).alloc (Nat.le_refl _) _⟩
      · have hv : readOf s = numberOf (s.extract 0 (fr isDi (bt s))) := by unfold readOf; rw [hh]; simp [hl, hdg]
        rw [hv]
        have hf : 0 < fr isDi (bt s) := by
          have := fr_yes isDi s 0 h0 hdg
          rw [List.drop_zero] at this; omega
        have hfl := fr_le isDi (bt s)
        rw [bt_len] at hfl
        have hc := c_number (s.extract 0 (fr isDi (bt s))) (by simp only [ByteArray.size_extract, maxLen]; omega) (by simp only [ByteArray.size_extract]; omega) (by rw [bt_take]; exact fr_all isDi _)
        generalize numberOf (s.extract 0 (fr isDi (bt s))) = r at hc ⊢
        obtain ⟨t, x⟩ := r
        obtain ⟨k0, t0, n0, o0⟩ := t
        have Hl := Lib.hid hl
        have Hd := Lib.hid hdg
        have HC := Lib.hid hc
        clear hl hdg hh hv hc
        go_enter Try.func26, Try.ntmps26
        go_wp2_with (first | (go_at_call 39; refine (c_isLetter _ _).mono ?_; rintro e w' ⟨rfl, rfl⟩; rw [Hl.out]) | (go_at_call 37; refine (c_front_isDi _ Hm.out _).mono ?_; rintro e w' ⟨rfl, rfl⟩) | (go_at_call 42; refine (c_isDigit _ _).mono ?_; rintro e w' ⟨rfl, rfl⟩; rw [Hd.out]) | (go_at_call 43; refine (HC.out _).mono ?_; rintro e w' ⟨rfl, hb⟩; obtain ⟨⟨g0, g1, g2, g3⟩, ⟨f0, f1, f2, f3⟩, hsz⟩ := res4 hb; simp only [Tok.val]))
        exact bodyPost_ret (v := .tuple #[Tok.val ⟨k0, t0, n0, o0⟩, .int .i64 x]) (by simp [results, Try.results26, Tok.val, go_sem, g0, g1, g2, g3]) rfl ⟨rfl, set4 hb _ _ _ _⟩
    · have hv : readOf s = nameOf (s.extract 0 (fr inNa (bt s))) := by unfold readOf; rw [hh]; simp [hl]
      rw [hv]
      have hfl := fr_le inNa (bt s)
      rw [bt_len] at hfl
      have hc := c_name (s.extract 0 (fr inNa (bt s))) (by simp only [ByteArray.size_extract, maxLen]; omega)
      generalize nameOf (s.extract 0 (fr inNa (bt s))) = r at hc ⊢
      obtain ⟨t, x⟩ := r
      obtain ⟨k0, t0, n0, o0⟩ := t
      have Hl := Lib.hid hl
      have HC := Lib.hid hc
      clear hl hh hv hc
      go_enter Try.func26, Try.ntmps26
      go_wp2_with (first | (go_at_call 39; refine (c_isLetter _ _).mono ?_; rintro e w' ⟨rfl, rfl⟩; rw [Hl.out]) | (go_at_call 37; refine (c_front_inNa _ Hm.out _).mono ?_; rintro e w' ⟨rfl, rfl⟩) | (go_at_call 40; refine (HC.out _).mono ?_; rintro e w' ⟨rfl, hb⟩; obtain ⟨⟨g0, g1, g2, g3⟩, ⟨f0, f1, f2, f3⟩, hsz⟩ := res4 hb; simp only [Tok.val]))
      exact bodyPost_ret (v := .tuple #[Tok.val ⟨k0, t0, n0, o0⟩, .int .i64 x]) (by simp [results, Try.results26, Tok.val, go_sem, g0, g1, g2, g3]) rfl ⟨rfl, set4 hb _ _ _ _⟩
  · have hv : readOf s = (.zero, 4) := by
      unfold readOf
      rw [show bt s = [] from List.eq_nil_of_length_eq_zero (by rw [bt_len]; omega)]; rfl
    rw [hv]
    have hse := empty_yes s h0
    clear hv
    go_enter Try.func26, Try.ntmps26
    go_wp2
    exact bodyPost_ret (v := .tuple #[Tok.val .zero, .int .i64 4]) (by simp [results, Try.results26, Tok.val, Tok.zero, go_sem]) rfl ⟨rfl, (Below.refl _ _).alloc (Nat.le_refl _) _⟩
end Go.Proofs.Ytlfjhechploioaa
