/-
  DERIVED. The contract of the reference's one.
-/
import Derived.Test.YtlfjhechploioaaE
import Derived.Test.YtlfjhechploioaaH
import Derived.Deep.RegionWith
namespace Go.Proofs.Ytlfjhechploioaa
open Go.RowKit

def oneOf (s : ByteArray) (i : Nat) : Tok × Int :=
  if (readOf (s.extract i s.size)).2 = 0 then ({ (readOf (s.extract i s.size)).1 with off := (i : Int) }, 0) else (.zero, (readOf (s.extract i s.size)).2)

theorem extract2 (s : ByteArray) (i n : Nat) (h : i + n ≤ s.size) : (s.extract i s.size).extract 0 n = s.extract i (i + n) := by
  apply ByteArray.ext
  rw [ByteArray.data_extract, ByteArray.data_extract, ByteArray.data_extract, Array.extract_extract]
  congr 1 <;> omega

theorem head_extract (s : ByteArray) (i : Nat) (h : i < s.size) : (bt (s.extract i s.size)).head? = some s[i] := by
  rw [bt_extract, bt_drop s i h]; rfl

theorem slice_run (s : ByteArray) (i n : Nat) (h : i + n ≤ s.size) (W : World) :
    (Instr.slice 9 (.string s) (some (.int .i64 (i : Int))) (some (.int .i64 ((i : Int) + (n : Int)))) none).run Try.prog W = .ok (.string (s.extract i (i + n))) W := by
  have h1 := run_slice_string (P := Try.prog) (w := W) 9 s .i64 .i64 (i : Int) ((i : Int) + (n : Int)) Try.underlying9 (by omega) (by omega) (by omega)
  have e1 : (i : Int).toNat = i := by omega
  have e2 : ((i : Int) + (n : Int)).toNat = i + n := by omega
  rw [e1, e2] at h1
  exact h1

theorem one_name (s : ByteArray) (i : Nat) (h : i < s.size) (hl : isLe s[i] = true) :
    oneOf s i = if 12 < fr inNa ((bt s).drop i) then (.zero, 3) else (⟨1, s.extract i (i + fr inNa ((bt s).drop i)), 0, i⟩, 0) := by
  have hle := fr_le inNa ((bt s).drop i)
  rw [List.length_drop, bt_len] at hle
  have hr : readOf (s.extract i s.size) = nameOf (s.extract i (i + fr inNa ((bt s).drop i))) := by
    unfold readOf; rw [head_extract s i h]; simp only [hl, if_true]; rw [bt_extract, extract2 s i _ (by omega)]
  have hs : (s.extract i (i + fr inNa ((bt s).drop i))).size = fr inNa ((bt s).drop i) := by simp only [ByteArray.size_extract]; omega
  unfold oneOf
  rw [hr]
  unfold nameOf
  rw [hs]
  by_cases h1 : 12 < fr inNa ((bt s).drop i)
  · simp [h1]
  · simp [h1]

theorem one_number (s : ByteArray) (i : Nat) (h : i < s.size) (hl : isLe s[i] = false) (hd : isDi s[i] = true) :
    oneOf s i = if s[i].toNat = 48 ∧ 1 < fr isDi ((bt s).drop i) then (.zero, 4) else if 9 < fr isDi ((bt s).drop i) then (.zero, 3)
      else (⟨2, s.extract i (i + fr isDi ((bt s).drop i)), nv (bt (s.extract i (i + fr isDi ((bt s).drop i)))), i⟩, 0) := by
  have hle := fr_le isDi ((bt s).drop i)
  rw [List.length_drop, bt_len] at hle
  have hpos : 0 < fr isDi ((bt s).drop i) := by have := fr_yes isDi s i h hd; omega
  have hr : readOf (s.extract i s.size) = numberOf (s.extract i (i + fr isDi ((bt s).drop i))) := by
    unfold readOf; rw [head_extract s i h]; simp only [hl, hd, if_true, Bool.false_eq_true, if_false]; rw [bt_extract, extract2 s i _ (by omega)]
  have hs : (s.extract i (i + fr isDi ((bt s).drop i))).size = fr isDi ((bt s).drop i) := by simp only [ByteArray.size_extract]; omega
  have hh : (bt (s.extract i (i + fr isDi ((bt s).drop i)))).head? = some s[i] := by
    rw [← extract2 s i _ (by omega), bt_take, bt_extract, bt_drop s i h]
    cases hf : fr isDi (s[i] :: (bt s).drop (i + 1)) with
    | zero => rw [bt_drop s i h] at hpos; omega
    | succ m => rfl
  have he : (some s[i] = some (48 : UInt8)) ↔ s[i].toNat = 48 := by
    constructor
    · intro h; injection h with h; rw [h]; rfl
    · intro h; congr 1; exact UInt8.toNat_inj.1 h
  have hn : numberOf (s.extract i (i + fr isDi ((bt s).drop i))) = if s[i].toNat = 48 ∧ 1 < fr isDi ((bt s).drop i) then (.zero, 4) else if 9 < fr isDi ((bt s).drop i) then (.zero, 3)
      else (⟨2, s.extract i (i + fr isDi ((bt s).drop i)), nv (bt (s.extract i (i + fr isDi ((bt s).drop i)))), 0⟩, 0) := by
    unfold numberOf
    rw [hs, hh]
    by_cases h1 : s[i].toNat = 48 ∧ 1 < fr isDi ((bt s).drop i)
    · rw [if_pos h1, if_pos ⟨h1.2, he.2 h1.1⟩]
    · rw [if_neg h1, if_neg (fun h => h1 ⟨he.1 h.2, h.1⟩)]
  unfold oneOf
  rw [hr, hn]
  by_cases h1 : s[i].toNat = 48 ∧ 1 < fr isDi ((bt s).drop i)
  · simp [h1.1, h1.2]
  · rw [if_neg h1, if_neg h1]
    by_cases h3 : 9 < fr isDi ((bt s).drop i)
    · simp [h3]
    · simp [h3]

theorem one_sign (s : ByteArray) (i : Nat) (h : i < s.size) (hl : isLe s[i] = false) (hd : isDi s[i] = false) :
    oneOf s i = if isSi s[i] then (⟨3, s.extract i (i + 1), 0, i⟩, 0) else (.zero, 4) := by
  have hr : readOf (s.extract i s.size) = if isSi s[i] then (⟨3, s.extract i (i + 1), 0, 0⟩, 0) else (.zero, 4) := by
    unfold readOf; rw [head_extract s i h]; simp only [hl, hd, Bool.false_eq_true, if_false]; rw [extract2 s i 1 (by omega)]
  unfold oneOf
  rw [hr]
  cases isSi s[i] <;> simp

theorem r_one_no (s : ByteArray) (hs : s.size ≤ maxLen) (i : Nat) (h : i < s.size) (hl : isLe s[i] = false) (hd : isDi s[i] = false) (w : World) :
    Calls Try.prog 20 #[.string s, .int .i64 i] w (Two (oneOf s i) w) := by
  have Hs := Lib.hid hs
  unfold maxLen at hs
  rw [one_sign s i h hl hd]
  have Hl := Lib.hid hl
  have Hd := Lib.hid hd
  have hsl := slice_run s i 1 (by omega)
  simp only [Int.natCast_one] at hsl
  clear hl hd
  by_cases h1 : s[i].toNat = 123
  · have hg : isSi s[i] = true := by simp [isSi, h1]
    rw [hg, if_pos rfl]
    have b1 : ((s[i].toNat : Int) == 123) = true := by rw [beq_iff_eq]; omega
    clear hg h1
    go_enter Try.func20, Try.ntmps20
    go_wp2_with (first | (go_at_call 28; refine (r_letter _ _).mono ?_; rintro e w' ⟨rfl, rfl⟩; rw [Hl.out]) | (go_at_call 30; refine (r_digit _ _).mono ?_; rintro e w' ⟨rfl, rfl⟩; rw [Hd.out]))
    exact bodyPost_ret (v := .tuple #[Tok.val ⟨3, s.extract i (i + 1), 0, i⟩, .int .i64 0]) (by simp [results, Try.results20, Tok.val, go_sem]) rfl ⟨rfl, ((Below.refl _ _).alloc (Nat.le_refl _) _)⟩
  have b1 : ((s[i].toNat : Int) == 123) = false := by rw [beq_eq_false_iff_ne]; omega
  by_cases h2 : s[i].toNat = 125
  · have hg : isSi s[i] = true := by simp [isSi, h2]
    rw [hg, if_pos rfl]
    have b2 : ((s[i].toNat : Int) == 125) = true := by rw [beq_iff_eq]; omega
    clear hg h1 h2
    go_enter Try.func20, Try.ntmps20
    go_wp2_with (first | (go_at_call 28; refine (r_letter _ _).mono ?_; rintro e w' ⟨rfl, rfl⟩; rw [Hl.out]) | (go_at_call 30; refine (r_digit _ _).mono ?_; rintro e w' ⟨rfl, rfl⟩; rw [Hd.out]))
    exact bodyPost_ret (v := .tuple #[Tok.val ⟨3, s.extract i (i + 1), 0, i⟩, .int .i64 0]) (by simp [results, Try.results20, Tok.val, go_sem]) rfl ⟨rfl, ((Below.refl _ _).alloc (Nat.le_refl _) _)⟩
  have b2 : ((s[i].toNat : Int) == 125) = false := by rw [beq_eq_false_iff_ne]; omega
  by_cases h3 : s[i].toNat = 59
  · have hg : isSi s[i] = true := by simp [isSi, h3]
    rw [hg, if_pos rfl]
    have b3 : ((s[i].toNat : Int) == 59) = true := by rw [beq_iff_eq]; omega
    clear hg h1 h2 h3
    go_enter Try.func20, Try.ntmps20
    go_wp2_with (first | (go_at_call 28; refine (r_letter _ _).mono ?_; rintro e w' ⟨rfl, rfl⟩; rw [Hl.out]) | (go_at_call 30; refine (r_digit _ _).mono ?_; rintro e w' ⟨rfl, rfl⟩; rw [Hd.out]))
    exact bodyPost_ret (v := .tuple #[Tok.val ⟨3, s.extract i (i + 1), 0, i⟩, .int .i64 0]) (by simp [results, Try.results20, Tok.val, go_sem]) rfl ⟨rfl, ((Below.refl _ _).alloc (Nat.le_refl _) _)⟩
  have b3 : ((s[i].toNat : Int) == 59) = false := by rw [beq_eq_false_iff_ne]; omega
  by_cases h4 : s[i].toNat = 44
  · have hg : isSi s[i] = true := by simp [isSi, h4]
    rw [hg, if_pos rfl]
    have b4 : ((s[i].toNat : Int) == 44) = true := by rw [beq_iff_eq]; omega
    clear hg h1 h2 h3 h4
    go_enter Try.func20, Try.ntmps20
    go_wp2_with (first | (go_at_call 28; refine (r_letter _ _).mono ?_; rintro e w' ⟨rfl, rfl⟩; rw [Hl.out]) | (go_at_call 30; refine (r_digit _ _).mono ?_; rintro e w' ⟨rfl, rfl⟩; rw [Hd.out]))
    exact bodyPost_ret (v := .tuple #[Tok.val ⟨3, s.extract i (i + 1), 0, i⟩, .int .i64 0]) (by simp [results, Try.results20, Tok.val, go_sem]) rfl ⟨rfl, ((Below.refl _ _).alloc (Nat.le_refl _) _)⟩
  have b4 : ((s[i].toNat : Int) == 44) = false := by rw [beq_eq_false_iff_ne]; omega
  have hg : isSi s[i] = false := by simp [isSi, h1, h2, h3, h4]
  rw [hg]
  simp only [Bool.false_eq_true, if_false]
  clear hg h1 h2 h3 h4
  go_enter Try.func20, Try.ntmps20
  go_wp2_with (first | (go_at_call 28; refine (r_letter _ _).mono ?_; rintro e w' ⟨rfl, rfl⟩; rw [Hl.out]) | (go_at_call 30; refine (r_digit _ _).mono ?_; rintro e w' ⟨rfl, rfl⟩; rw [Hd.out]))
  exact bodyPost_ret (v := .tuple #[Tok.val .zero, .int .i64 4]) (by simp [results, Try.results20, Tok.val, Tok.zero, go_sem]) rfl ⟨rfl, ((Below.refl _ _).alloc (Nat.le_refl _) _)⟩

set_option maxHeartbeats 1000000 in
theorem r_one_num (s : ByteArray) (hs : s.size ≤ maxLen) (i : Nat) (h : i < s.size) (hl : isLe s[i] = false) (hd : isDi s[i] = true) (w : World) :
    Calls Try.prog 20 #[.string s, .int .i64 i] w (Two (oneOf s i) w) := by
  have Hs := Lib.hid hs
  unfold maxLen at hs
  rw [one_number s i h hl hd]
  have hle := fr_le isDi ((bt s).drop i)
  rw [List.length_drop, bt_len] at hle
  have hdg : ∀ c ∈ bt (s.extract i (i + fr isDi ((bt s).drop i))), isDi c = true := by
    rw [← extract2 s i _ (by omega), bt_take, bt_extract]; exact fr_all isDi _
  have hv := r_Value (s.extract i (i + fr isDi ((bt s).drop i)))
  have hsz : (s.extract i (i + fr isDi ((bt s).drop i))).size = fr isDi ((bt s).drop i) := by simp only [ByteArray.size_extract]; omega
  rw [hsz] at hv
  have hne := r_numberEnd s Hs.out i (by omega)
  replace hle : i + fr isDi ((bt s).drop i) ≤ s.size := by omega
  have hsl := slice_run s i _ hle
  generalize fr isDi ((bt s).drop i) = n at *
  have Hl := Lib.hid hl
  have Hd := Lib.hid hd
  have Hdg := Lib.hid hdg
  have Hv := Lib.hid hv
  have Hne := Lib.hid hne
  clear hl hd hdg hv hsz hne
  by_cases h48 : s[i].toNat = 48
  · have hb : ((s[i].toNat : Int) == 48) = true := by rw [beq_iff_eq]; omega
    by_cases h1 : 1 < n
    · rw [if_pos ⟨h48, h1⟩]
      clear h48
      go_enter Try.func20, Try.ntmps20
      go_wp2_with (first | (go_at_call 28; refine (r_letter _ _).mono ?_; rintro e w' ⟨rfl, rfl⟩; rw [Hl.out]) | (go_at_call 30; refine (r_digit _ _).mono ?_; rintro e w' ⟨rfl, rfl⟩; rw [Hd.out]) | (go_at_call 31; refine (Hne.out _).mono ?_; rintro e w' ⟨rfl, rfl⟩))
      exact bodyPost_ret (v := .tuple #[Tok.val .zero, .int .i64 4]) (by simp [results, Try.results20, Tok.val, Tok.zero, go_sem]) rfl ⟨rfl, ((Below.refl _ _).alloc (Nat.le_refl _) _)⟩
    · rw [if_neg (fun h => h1 h.2), if_neg (by omega)]
      clear h48
      have hv := Hv.out (by omega) Hdg.out
      have Hv2 := Lib.hid hv
      clear hv
      go_enter Try.func20, Try.ntmps20
      go_wp2_with (first | (go_at_call 28; refine (r_letter _ _).mono ?_; rintro e w' ⟨rfl, rfl⟩; rw [Hl.out]) | (go_at_call 30; refine (r_digit _ _).mono ?_; rintro e w' ⟨rfl, rfl⟩; rw [Hd.out]) | (go_at_call 31; refine (Hne.out _).mono ?_; rintro e w' ⟨rfl, rfl⟩))
      go_region_with (go_at_call 32; refine (Hv2.out _).mono ?_; rintro e w' ⟨rfl, rfl⟩)
      all_goals go_wp2
      all_goals exact bodyPost_ret (v := .tuple #[Tok.val ⟨2, s.extract i (i + n), nv (bt (s.extract i (i + n))), i⟩, .int .i64 0]) (by simp [results, Try.results20, Tok.val, go_sem]) rfl ⟨rfl, ((Below.refl _ _).alloc (Nat.le_refl _) _).drew⟩
  · have hb : ((s[i].toNat : Int) == 48) = false := by rw [beq_eq_false_iff_ne]; omega
    rw [if_neg (fun h => h48 h.1)]
    clear h48
    by_cases h9 : 9 < n
    · rw [if_pos h9]
      go_enter Try.func20, Try.ntmps20
      go_wp2_with (first | (go_at_call 28; refine (r_letter _ _).mono ?_; rintro e w' ⟨rfl, rfl⟩; rw [Hl.out]) | (go_at_call 30; refine (r_digit _ _).mono ?_; rintro e w' ⟨rfl, rfl⟩; rw [Hd.out]) | (go_at_call 31; refine (Hne.out _).mono ?_; rintro e w' ⟨rfl, rfl⟩))
      exact bodyPost_ret (v := .tuple #[Tok.val .zero, .int .i64 3]) (by simp [results, Try.results20, Tok.val, Tok.zero, go_sem]) rfl ⟨rfl, ((Below.refl _ _).alloc (Nat.le_refl _) _)⟩
    · rw [if_neg h9]
      have hv := Hv.out (by omega) Hdg.out
      have Hv2 := Lib.hid hv
      clear hv
      go_enter Try.func20, Try.ntmps20
      go_wp2_with (first | (go_at_call 28; refine (r_letter _ _).mono ?_; rintro e w' ⟨rfl, rfl⟩; rw [Hl.out]) | (go_at_call 30; refine (r_digit _ _).mono ?_; rintro e w' ⟨rfl, rfl⟩; rw [Hd.out]) | (go_at_call 31; refine (Hne.out _).mono ?_; rintro e w' ⟨rfl, rfl⟩))
      go_region_with (go_at_call 32; refine (Hv2.out _).mono ?_; rintro e w' ⟨rfl, rfl⟩)
      all_goals go_wp2
      all_goals exact bodyPost_ret (v := .tuple #[Tok.val ⟨2, s.extract i (i + n), nv (bt (s.extract i (i + n))), i⟩, .int .i64 0]) (by simp [results, Try.results20, Tok.val, go_sem]) rfl ⟨rfl, ((Below.refl _ _).alloc (Nat.le_refl _) _).drew⟩

set_option maxHeartbeats 1000000 in
theorem r_one (s : ByteArray) (hs : s.size ≤ maxLen) (i : Nat) (h : i < s.size) (w : World) :
    Calls Try.prog 20 #[.string s, .int .i64 i] w (Two (oneOf s i) w) := by
  have Hs := Lib.hid hs
  cases hl : isLe s[i]
  · cases hd : isDi s[i]
    · exact r_one_no s hs i h hl hd w
    · exact r_one_num s hs i h hl hd w
  · unfold maxLen at hs
    rw [one_name s i h hl]
    have hle := fr_le inNa ((bt s).drop i)
    rw [List.length_drop, bt_len] at hle
    have hne := r_nameEnd s Hs.out i (by omega)
    replace hle : i + fr inNa ((bt s).drop i) ≤ s.size := by omega
    have hsl := slice_run s i _ hle
    generalize fr inNa ((bt s).drop i) = n at *
    have Hl := Lib.hid hl
    have Hne := Lib.hid hne
    clear hl hne
    by_cases h1 : 12 < n
    · rw [if_pos h1]
      go_enter Try.func20, Try.ntmps20
      go_wp2_with (first | (go_at_call 28; refine (r_letter _ _).mono ?_; rintro e w' ⟨rfl, rfl⟩; rw [Hl.out]) | (go_at_call 29; refine (Hne.out _).mono ?_; rintro e w' ⟨rfl, rfl⟩))
      exact bodyPost_ret (v := .tuple #[Tok.val .zero, .int .i64 3]) (by simp [results, Try.results20, Tok.val, Tok.zero, go_sem]) rfl ⟨rfl, ((Below.refl _ _).alloc (Nat.le_refl _) _)⟩
    · rw [if_neg h1]
      go_enter Try.func20, Try.ntmps20
      go_wp2_with (first | (go_at_call 28; refine (r_letter _ _).mono ?_; rintro e w' ⟨rfl, rfl⟩; rw [Hl.out]) | (go_at_call 29; refine (Hne.out _).mono ?_; rintro e w' ⟨rfl, rfl⟩))
      exact bodyPost_ret (v := .tuple #[Tok.val ⟨1, s.extract i (i + n), 0, i⟩, .int .i64 0]) (by simp [results, Try.results20, Tok.val, go_sem]) rfl ⟨rfl, ((Below.refl _ _).alloc (Nat.le_refl _) _)⟩
end Go.Proofs.Ytlfjhechploioaa
