/-
  DERIVED. The contracts of lexis.name, lexis.number, lexis.isSign, lexis.read.
-/
import Derived.Test.YtlfjhechploioaaC
import Derived.Laws.IdiomStrings
import Derived.Below
import Derived.Deep.DeepFit
namespace Go.Proofs.Ytlfjhechploioaa
open Go.RowKit

theorem c_isSign (c : UInt8) (w : World) :
    Calls Try.prog 44 #[.int .u8 c.toNat] w fun e w' => e = .returned (.bool (isSi c)) ∧ w' = w := by
  go_enter Try.func44, Try.ntmps44
  go_wp2
  all_goals go_ret
  all_goals refine ⟨ret_bool ?_, rfl⟩
  all_goals (unfold isSi; rw [Bool.eq_iff_iff]; simp; try omega)

/-- A token as the program holds it. -/
structure Tok where
  kind : Int
  text : ByteArray
  num : Int
  off : Int
def Tok.zero : Tok := ⟨0, ⟨#[]⟩, 0, 0⟩
def Tok.val (t : Tok) : Value := .agg #[.int .u8 t.kind, .string t.text, .int .i64 t.num, .int .i64 t.off]
def Tok.cells (t : Tok) : List Value := [.int .u8 t.kind, .string t.text, .int .i64 t.num, .int .i64 t.off]

def nameOf (s : ByteArray) : Tok × Int := if 12 < s.size then (.zero, 3) else (⟨1, s, 0, 0⟩, 0)
def nv (l : List UInt8) : Nat := l.foldl (fun n c => 10 * n + (c.toNat - 48)) 0
def numberOf (s : ByteArray) : Tok × Int :=
  if 1 < s.size ∧ (bt s).head? = some 48 then (.zero, 4) else if 9 < s.size then (.zero, 3) else (⟨2, s, nv (bt s), 0⟩, 0)

def Two (r : Tok × Int) (w : World) (e : Ending) (w' : World) : Prop := e = .returned (.tuple #[r.1.val, .int .i64 r.2]) ∧ Below w.heap.size w w'

theorem c_name (s : ByteArray) (hs : s.size ≤ maxLen) (w : World) :
    Calls Try.prog 40 #[.string s] w (Two (nameOf s) w) := by
  unfold maxLen at hs
  by_cases h : 12 < s.size
  · have hv : nameOf s = (.zero, 3) := by unfold nameOf; rw [if_pos h]
    rw [hv]
    go_enter Try.func40, Try.ntmps40
    go_wp2
    exact bodyPost_ret (v := .tuple #[Tok.val .zero, .int .i64 3]) (by simp [results, Try.results40, Tok.val, Tok.zero, go_sem]) rfl ⟨rfl, (Below.refl _ _).alloc (Nat.le_refl _) _⟩
  · have hv : nameOf s = (⟨1, s, 0, 0⟩, 0) := by unfold nameOf; rw [if_neg h]
    rw [hv]
    go_enter Try.func40, Try.ntmps40
    go_wp2
    exact bodyPost_ret (v := .tuple #[Tok.val ⟨1, s, 0, 0⟩, .int .i64 0]) (by simp [results, Try.results40, Tok.val, go_sem]) rfl ⟨rfl, (Below.refl _ _).alloc (Nat.le_refl _) _⟩

theorem nv_snoc (l : List UInt8) (c : UInt8) : nv (l ++ [c]) = 10 * nv l + (c.toNat - 48) := by unfold nv; rw [List.foldl_append]; rfl
theorem snoc_ind {α : Type} {P : List α → Prop} (h0 : P []) (h1 : ∀ l c, P l → P (l ++ [c])) (l : List α) : P l := by
  have h : ∀ r : List α, P r.reverse := by
    intro r
    induction r with
    | nil => exact h0
    | cons c r ih => rw [List.reverse_cons]; exact h1 _ _ ih
  have := h l.reverse
  rwa [List.reverse_reverse] at this
theorem nv_lt (l : List UInt8) : (∀ c ∈ l, isDi c = true) → nv l < 10 ^ l.length := by
  induction l using snoc_ind with
  | h0 => intro _; simp [nv]
  | h1 l c ih =>
    intro h
    have h1 := ih (fun c hc => h c (by simp [hc]))
    have h2 := h c (by simp)
    simp [isDi] at h2
    rw [nv_snoc, List.length_append, List.length_singleton, Nat.pow_succ]
    omega

theorem take_snoc (s : ByteArray) (k : Nat) (h : k < s.size) : (bt s).take (k + 1) = (bt s).take k ++ [s[k]] := by
  rw [List.take_succ_eq_append_getElem (by rw [bt_len]; exact h)]; rfl

set_option maxHeartbeats 400000 in
theorem c_number (s : ByteArray) (hs : s.size ≤ maxLen) (h0 : 0 < s.size) (hd : ∀ c ∈ bt s, isDi c = true) (w : World) :
    Calls Try.prog 43 #[.string s] w (Two (numberOf s) w) := by
  unfold maxLen at hs
  have hh : (bt s).head? = some s[0] := by
    have := bt_drop s 0 h0
    rw [List.drop_zero] at this
    rw [this]; rfl
  have Hh := Lib.hid hh
  clear hh
  by_cases h1 : 1 < s.size ∧ s[0].toNat = 48
  · have hv : numberOf s = (.zero, 4) := by
      unfold numberOf; rw [if_pos ⟨h1.1, by rw [Hh.out]; congr 1; exact UInt8.toNat_inj.1 h1.2⟩]
    rw [hv]
    obtain ⟨h1, h2⟩ := h1
    have hb : ((s[0].toNat : Int) == 48) = true := by rw [beq_iff_eq]; omega
    clear h2 hd hv
    go_enter Try.func43, Try.ntmps43
    go_wp2
    exact bodyPost_ret (v := .tuple #[Tok.val .zero, .int .i64 4]) (by simp [results, Try.results43, Tok.val, Tok.zero, go_sem]) rfl ⟨rfl, (Below.refl _ _).alloc (Nat.le_refl _) _⟩
  · have hn : ¬ (1 < s.size ∧ (bt s).head? = some 48) := by
      rintro ⟨a, b⟩
      rw [Hh.out] at b
      injection b with b
      exact h1 ⟨a, by rw [b]; rfl⟩
    by_cases h9 : 9 < s.size
    · have hv : numberOf s = (.zero, 3) := by unfold numberOf; rw [if_neg hn, if_pos h9]
      rw [hv]
      have hb : ((s[0].toNat : Int) == 48) = false := by rw [beq_eq_false_iff_ne]; intro h; exact h1 ⟨by omega, by omega⟩
      clear hn hd hv h1
      go_enter Try.func43, Try.ntmps43
      go_wp2
      exact bodyPost_ret (v := .tuple #[Tok.val .zero, .int .i64 3]) (by simp [results, Try.results43, Tok.val, Tok.zero, go_sem]) rfl ⟨rfl, (Below.refl _ _).alloc (Nat.le_refl _) _⟩
    · have hv : numberOf s = (⟨2, s, nv (bt s), 0⟩, 0) := by unfold numberOf; rw [if_neg hn, if_neg h9]
      rw [hv]
      have hb : (decide (1 < s.size) && ((s[0].toNat : Int) == 48)) = false := by
        rw [Bool.and_eq_false_iff]
        by_cases h : 1 < s.size
        · right; rw [beq_eq_false_iff_ne]; intro h2; exact h1 ⟨h, by omega⟩
        · left; simpa using h
      have hm : nv (bt s) < 1000000000 := by
        refine Nat.lt_of_lt_of_le (nv_lt _ hd) ?_
        rw [bt_len]
        exact Nat.pow_le_pow_right (by omega) (by omega : s.size ≤ 9)
      clear hn hv h1
      obtain ⟨CP, hconv⟩ : ∃ CP : World → Nat, ∀ W : World, (convert 9 52 (.string s)).run Try.prog W = .ok (.slice (some ⟨W.heap.size, 0, none⟩) s.size (CP W))
          (W.alloc (.cells (bytesRow s (CP W)) 5 ((bytesRow s (CP W)).size, (bytesRow s (CP W)).size + 1))).drew :=
        ⟨fun W => grownCap W s.size 0 5, fun W => run_bytes_of_string W 9 52 5 s Try.underlying9 Try.underlying52 Try.underlying5⟩
      by_cases hs1 : 1 < s.size
      · have hb2 : ((s[0].toNat : Int) == 48) = false := by simpa [hs1] using hb
        clear hb
        go_enter Try.func43, Try.ntmps43
        go_wp2
        generalize CP _ = cap
        have hcells : ∀ k (hk : k < s.size), ((w.alloc (.cells #[.int .u8 0, .string { data := #[] }, .int .i64 0, .int .i64 0] 34)).alloc
            (.cells (bytesRow s cap) 5 ((bytesRow s cap).size, (bytesRow s cap).size + 1))).cell? ⟨w.heap.size + 1, k, none⟩ = some (.int .u8 (s[k].toNat : Int)) := fun k hk => by
          have h := World.cell?_alloc_mark (w.alloc (.cells #[.int .u8 0, .string { data := #[] }, .int .i64 0, .int .i64 0] 34)) (bytesRow s cap) 5 ((bytesRow s cap).size, (bytesRow s cap).size + 1) k
          rw [World.size_alloc] at h
          exact h.trans (bytesRow_at s cap k hk)
        have Hc := Lib.hid hcells
        clear hcells
        have Hd := Lib.hid hd
        clear hd
        go_loop [4, 23] (fun n i => ∃ k : Nat, k ≤ s.size ∧ i = .int .i64 k ∧ n = .int .i64 (nv ((bt s).take k) : Nat)) (fun _ i => s.size - (intOf i).toNat)
        case atStart => exact ⟨0, Nat.zero_le _, rfl, rfl⟩
        case round =>
          obtain ⟨k, hk, rfl, rfl⟩ := hrel
          by_cases hlt : k < s.size
          · have hc := Hc.out k hlt
            have hm2 : nv ((bt s).take k) < 1000000000 := by
              refine Nat.lt_of_lt_of_le (nv_lt _ (fun c hc => Hd.out c (List.mem_of_mem_take hc))) (Nat.pow_le_pow_right (by omega) (?_ : _ ≤ 9))
              rw [List.length_take]; omega
            have hdi := Hd.out s[k] (by have := bt_drop s k hlt; exact List.mem_of_mem_drop (this ▸ List.mem_cons_self))
            simp only [isDi, Bool.and_eq_true, decide_eq_true_eq] at hdi
            obtain ⟨hd1, hd2⟩ := hdi
            have hts : nv ((bt s).take (k + 1)) = 10 * nv ((bt s).take k) + (s[k].toNat - 48) := by rw [take_snoc s k hlt, nv_snoc]
            have Hts := Lib.hid hts
            clear hts
            go_wp2
            go_round
            case rel => exact ⟨k + 1, by omega, by go_num, by rw [Hts.out]; congr 1; omega⟩
            case measure => simp [intOf]; omega
          · go_wp2
            have hk2 : (bt s).take k = bt s := List.take_of_length_le (by rw [bt_len]; omega)
            rw [hk2]
            exact bodyPost_ret (v := .tuple #[Tok.val ⟨2, s, nv (bt s), 0⟩, .int .i64 0]) (by simp [results, Try.results43, Tok.val, go_sem]) rfl ⟨rfl, (((Below.refl _ _).alloc (Nat.le_refl _) _).alloc (by simp) _).drew⟩
      · have hb2 : decide (1 < s.size) = false := by simpa using hs1
        clear hb
        go_enter Try.func43, Try.ntmps43
        go_wp2
        generalize CP _ = cap
        have hcells : ∀ k (hk : k < s.size), ((w.alloc (.cells #[.int .u8 0, .string { data := #[] }, .int .i64 0, .int .i64 0] 34)).alloc
            (.cells (bytesRow s cap) 5 ((bytesRow s cap).size, (bytesRow s cap).size + 1))).cell? ⟨w.heap.size + 1, k, none⟩ = some (.int .u8 (s[k].toNat : Int)) := fun k hk => by
          have h := World.cell?_alloc_mark (w.alloc (.cells #[.int .u8 0, .string { data := #[] }, .int .i64 0, .int .i64 0] 34)) (bytesRow s cap) 5 ((bytesRow s cap).size, (bytesRow s cap).size + 1) k
          rw [World.size_alloc] at h
          exact h.trans (bytesRow_at s cap k hk)
        have Hc := Lib.hid hcells
        clear hcells
        have Hd := Lib.hid hd
        clear hd
        go_loop [4, 23] (fun n i => ∃ k : Nat, k ≤ s.size ∧ i = .int .i64 k ∧ n = .int .i64 (nv ((bt s).take k) : Nat)) (fun _ i => s.size - (intOf i).toNat)
        case atStart => exact ⟨0, Nat.zero_le _, rfl, rfl⟩
        case round =>
          obtain ⟨k, hk, rfl, rfl⟩ := hrel
          by_cases hlt : k < s.size
          · have hc := Hc.out k hlt
            have hm2 : nv ((bt s).take k) < 1000000000 := by
              refine Nat.lt_of_lt_of_le (nv_lt _ (fun c hc => Hd.out c (List.mem_of_mem_take hc))) (Nat.pow_le_pow_right (by omega) (?_ : _ ≤ 9))
              rw [List.length_take]; omega
            have hdi := Hd.out s[k] (by have := bt_drop s k hlt; exact List.mem_of_mem_drop (this ▸ List.mem_cons_self))
            simp only [isDi, Bool.and_eq_true, decide_eq_true_eq] at hdi
            obtain ⟨hd1, hd2⟩ := hdi
            have hts : nv ((bt s).take (k + 1)) = 10 * nv ((bt s).take k) + (s[k].toNat - 48) := by rw [take_snoc s k hlt, nv_snoc]
            have Hts := Lib.hid hts
            clear hts
            go_wp2
            go_round
            case rel => exact ⟨k + 1, by omega, by go_num, by rw [Hts.out]; congr 1; omega⟩
            case measure => simp [intOf]; omega
          · go_wp2
            have hk2 : (bt s).take k = bt s := List.take_of_length_le (by rw [bt_len]; omega)
            rw [hk2]
            exact bodyPost_ret (v := .tuple #[Tok.val ⟨2, s, nv (bt s), 0⟩, .int .i64 0]) (by simp [results, Try.results43, Tok.val, go_sem]) rfl ⟨rfl, (((Below.refl _ _).alloc (Nat.le_refl _) _).alloc (by simp) _).drew⟩

end Go.Proofs.Ytlfjhechploioaa
