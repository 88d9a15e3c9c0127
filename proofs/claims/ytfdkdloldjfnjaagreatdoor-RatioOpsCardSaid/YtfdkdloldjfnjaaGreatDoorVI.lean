/-
  DERIVED. The law RatioOps, at every argument. (Written by gen/genVI.py.)
-/
import Derived.Test.YtfdkdloldjfnjaaGreatDoorVH
import Derived.Test.YtfdkdloldjfnjaaGreatDoorUT
set_option linter.unusedVariables false
set_option linter.unusedSimpArgs false
namespace Go.Proofs.YtfdkdloldjfnjaaGreatDoor
open Go.RowKit
set_option maxRecDepth 100000

theorem Rc.two {w : World} {v : Value} {s : Bool} {a b : List Nat} (h : Rc w v s a b) : ∃ va vb, v = .agg #[.bool s, va, vb] ∧ Ls w va a ∧ Ls w vb b := by
  obtain ⟨va, vb, e, h1, -, h2, -⟩ := h
  exact ⟨va, vb, e, h1, h2⟩
theorem zero_len : (nat 0).length ≤ 100000 := by rw [nat, dif_pos rfl]; exact Nat.zero_le _
theorem one_len : (nat 1).length ≤ 100000 := by have := nat_len_le (n := 1) (k := 1); unfold BB at this; omega
theorem row_RatioOps (s : Bool) (a b : List Nat) (x : Value) (t : Bool) (c d : List Nat) (y : Value) (w : World) (hx : Rc w x s a b) (hy : Rc w y t c d) (he : Env w) :
    Calls Tryz.prog 4 #[x, y] w fun e w' => e = .returned (.bool true) ∧ Below w.heap.size w w' := by
  have hla := lb_take hx.lb'.1 40
  have hlb := lb_take hx.lb'.2 40
  have hlc := lb_take hy.lb'.1 40
  have hld := lb_take hy.lb'.2 40
  have l1 : (a.take 40).length ≤ 100000 := by simp; omega
  have l2 : (b.take 40).length ≤ 100000 := by simp; omega
  have l3 : (c.take 40).length ≤ 100000 := by simp; omega
  have l4 : (d.take 40).length ≤ 100000 := by simp; omega
  obtain ⟨la, ela⟩ : ∃ l, l = a.take 40 := ⟨_, rfl⟩
  obtain ⟨lb, elb⟩ : ∃ l, l = b.take 40 := ⟨_, rfl⟩
  obtain ⟨lc, elc⟩ : ∃ l, l = c.take 40 := ⟨_, rfl⟩
  obtain ⟨ld, eld⟩ : ∃ l, l = d.take 40 := ⟨_, rfl⟩
  have W := ops_walk s t a b c d la lb lc ld (Lib.hid ela) (Lib.hid elb) (Lib.hid elc) (Lib.hid eld)
  rw [← ela] at hla l1
  rw [← elb] at hlb l2
  rw [← elc] at hlc l3
  rw [← eld] at hld l4
  clear ela elb elc eld
  obtain ⟨p1, hp1⟩ : ∃ p, validB s la lb = p := ⟨_, rfl⟩
  obtain ⟨p2, hp2⟩ : ∃ p, validB t lc ld = p := ⟨_, rfl⟩
  by_cases hpp : (p1 && p2) = true
  · obtain ⟨h1, h2⟩ := Bool.and_eq_true_iff.1 hpp
    subst h1 h2
    obtain ⟨m, n', rfl, rfl⟩ := raw_valid' hla hlb hp1
    obtain ⟨n, b', rfl, rfl⟩ := raw_valid' hlc hld hp2
    obtain ⟨k1, k2, pa, -⟩ := valid_facts hp1
    obtain ⟨k3, k4, pb, -⟩ := valid_facts hp2
    have hab : 0 < n' * b' := Nat.mul_pos pa pb
    have eA : redP (sumP s m n' t n b').1 (sumP s m n' t n b').2 (n' * b') = lowR (quo s m n' + quo t n b') := by rw [redP_low _ _ (by omega), sumP_quo (by omega) (by omega)]
    have eM : redP (s != t) (m * n) (n' * b') = lowR (quo s m n' * quo t n b') := by rw [redP_low _ _ (by omega), qmul]
    obtain ⟨R3, Z3, hF3, hG3⟩ : ∃ (R3 : Option (Bool × Nat × Nat)) (Z3 : Int), (∀ X v u, Env X → Rc X v s (nat m) (nat n') → Rc X u t (nat n) (nat b') → Calls Tryz.prog 27 #[v, u] X (ResPost R3 Z3 X)) ∧ (∀ X v u, Rc X v s (nat m) (nat n') → Rc X u t (nat n) (nat b') → Calls Tryz.prog 31 #[v, u] X (ResPost R3 Z3 X)) := by
      rcases Nat.eq_zero_or_pos n with h0 | h0
      · subst h0
        refine ⟨none, 2, fun X v u hE hv hu => c_DivQ0 s t m n' b' v u X hE.1 hv.fr hu.fr hp1 hp2, fun X v u hv hu => ?_⟩
        obtain ⟨v1, v2, rfl, j1, j2⟩ := hv.two
        obtain ⟨u1, u2, rfl, j3, j4⟩ := hu.two
        exact c_eDivZ s t m n' b' hp1 hp2 v1 v2 u1 u2 X j1 j2 j3 j4
      · have han : 0 < n' * n := Nat.mul_pos pa h0
        have eD : redP (s != t) (m * b') (n' * n) = lowR (quo s m n' / quo t n b') := by rw [redP_low _ _ (by omega), qdiv]
        refine ⟨_, 3, fun X v u hE hv hu => c_DivQ s t m n' n b' v u X hE.1 hv.fr hu.fr hp1 hp2 h0, fun X v u hv hu => ?_⟩
        obtain ⟨v1, v2, rfl, j1, j2⟩ := hv.two
        obtain ⟨u1, u2, rfl, j3, j4⟩ := hu.two
        rw [← eD]
        exact c_eDivV s t m n n' b' hp1 hp2 han k1 k3 k2 k4 v1 v2 u1 u2 X j1 j2 j3 j4
    refine W (lowR (quo s m n' + quo t n b')) (lowR (quo s m n' - quo t n b')) (lowR (quo s m n' * quo t n b')) R3 3 3 3 Z3 (qcmp (quo s m n') (quo t n b')) 0
      (Lib.hid fun X v u hE hv hu => c_AddQ s t m n' n b' v u X hE.1 hv.fr hu.fr hp1 hp2) (Lib.hid fun X v u hv hu => ?_)
      (Lib.hid fun X v u hE hv hu => c_SubQ s t m n' n b' v u X hE.1 hv.fr hu.fr hp1 hp2) (Lib.hid fun X v u hv hu => ?_)
      (Lib.hid fun X v u hE hv hu => c_MulQ s t m n' n b' v u X hE.1 hv.fr hu.fr hp1 hp2) (Lib.hid fun X v u hv hu => ?_)
      (Lib.hid hF3) (Lib.hid hG3)
      (Lib.hid fun X v u hE hv hu => c_CmpQ s t m n' n b' v u X hE.1 hv.fr hu.fr hp1 hp2) (Lib.hid fun X v u hv hu => ?_) x y w he hx hy
    all_goals (
      obtain ⟨v1, v2, rfl, j1, j2⟩ := hv.two
      obtain ⟨u1, u2, rfl, j3, j4⟩ := hu.two)
    · rw [← eA]; exact c_eAddV s t m n n' b' hp1 hp2 hab k1 k3 k2 k4 v1 v2 u1 u2 X j1 j2 j3 j4
    · exact c_eSubV s t m n n' b' hp1 hp2 v1 v2 u1 u2 X j1 j2 j3 j4
    · rw [← eM]; exact c_eMulV s t m n n' b' hp1 hp2 hab k1 k3 k2 k4 v1 v2 u1 u2 X j1 j2 j3 j4
    · exact c_eCmpV s t m n n' b' hp1 hp2 v1 v2 u1 u2 X j1 j2 j3 j4
  · have hpf : (p1 && p2) = false := by simpa using hpp
    have no : p1 = true → p2 = true → False := fun h1 h2 => by rw [h1, h2] at hpf; cases hpf
    have nAdd : ∀ X v u, Env X → Rc X v s la lb → Rc X u t lc ld → Calls Tryz.prog 24 #[v, u] X (ResPost none 1 X) := fun X v u hE hv hu =>
      c_Add s t la lb lc ld v u X hE.1 (hv.fr0' l1 l2) (hu.fr0' l3 l4) false 0 1 (by omega) zero_len one_len p1 p2 hp1 hp2 (fun h1 h2 => (no h1 h2).elim) none 1 (fun h1 h2 => (no h1 h2).elim) (fun _ => ⟨rfl, rfl⟩)
    have nSub : ∀ X v u, Env X → Rc X v s la lb → Rc X u t lc ld → Calls Tryz.prog 25 #[v, u] X (ResPost none 1 X) := fun X v u hE hv hu =>
      c_Sub s t la lb lc ld v u X hE.1 (hv.fr0' l1 l2) (hu.fr0' l3 l4) false 0 1 (by omega) zero_len one_len p1 p2 hp1 hp2 (fun h1 h2 => (no h1 h2).elim) none 1 (fun h1 h2 => (no h1 h2).elim) (fun _ => ⟨rfl, rfl⟩)
    have nMul : ∀ X v u, Env X → Rc X v s la lb → Rc X u t lc ld → Calls Tryz.prog 26 #[v, u] X (ResPost none 1 X) := fun X v u hE hv hu =>
      c_Mul s t la lb lc ld v u X hE.1 (hv.fr0' l1 l2) (hu.fr0' l3 l4) false 0 1 (by omega) zero_len one_len p1 p2 hp1 hp2 (fun h1 h2 => (no h1 h2).elim) none 1 (fun h1 h2 => (no h1 h2).elim) (fun _ => ⟨rfl, rfl⟩)
    have nDiv : ∀ X v u, Env X → Rc X v s la lb → Rc X u t lc ld → Calls Tryz.prog 27 #[v, u] X (ResPost none 1 X) := fun X v u hE hv hu =>
      c_Div s t la lb lc ld v u X hE.1 (hv.fr0' l1 l2) (hu.fr0' l3 l4) false 0 1 (fun _ => by omega) zero_len one_len p1 p2 hp1 hp2 (fun h1 h2 => (no h1 h2).elim) none 1 (fun h1 h2 => (no h1 h2).elim) (fun h1 h2 => (no h1 h2).elim) (fun _ => ⟨rfl, rfl⟩)
    have nCmp : ∀ X v u, Env X → Rc X v s la lb → Rc X u t lc ld → Calls Tryz.prog 32 #[v, u] X fun e w' => e = .returned (.tuple #[.int .i64 0, .int .i64 1]) ∧ Below X.heap.size X w' := fun X v u hE hv hu =>
      c_Cmp s t la lb lc ld v u X hE.1 (hv.fr0' l1 l2) (hu.fr0' l3 l4) p1 p2 hp1 hp2 0 (fun h1 h2 => (no h1 h2).elim) 0 1 (fun h1 h2 => (no h1 h2).elim) (fun _ => ⟨rfl, rfl⟩)
    have eAdd : ∀ X v u, Rc X v s la lb → Rc X u t lc ld → Calls Tryz.prog 28 #[v, u] X (ResPost none 1 X) := by
      intro X v u hv hu
      obtain ⟨v1, v2, rfl, j1, j2⟩ := hv.two
      obtain ⟨u1, u2, rfl, j3, j4⟩ := hu.two
      cases p1
      · exact c_eAddN1 s t la lc lb ld hp1 v1 v2 u1 u2 X j1 j2 j3 j4
      · cases p2
        · exact c_eAddN2 s t la lc lb ld hp1 hp2 v1 v2 u1 u2 X j1 j2 j3 j4
        · exact (no rfl rfl).elim
    have eSub : ∀ X v u, Rc X v s la lb → Rc X u t lc ld → Calls Tryz.prog 29 #[v, u] X (ResPost none 1 X) := by
      intro X v u hv hu
      obtain ⟨v1, v2, rfl, j1, j2⟩ := hv.two
      obtain ⟨u1, u2, rfl, j3, j4⟩ := hu.two
      cases p1
      · exact c_eSubN1 s t la lc lb ld hp1 v1 v2 u1 u2 X j1 j2 j3 j4
      · cases p2
        · exact c_eSubN2 s t la lc lb ld hp1 hp2 v1 v2 u1 u2 X j1 j2 j3 j4
        · exact (no rfl rfl).elim
    have eMul : ∀ X v u, Rc X v s la lb → Rc X u t lc ld → Calls Tryz.prog 30 #[v, u] X (ResPost none 1 X) := by
      intro X v u hv hu
      obtain ⟨v1, v2, rfl, j1, j2⟩ := hv.two
      obtain ⟨u1, u2, rfl, j3, j4⟩ := hu.two
      cases p1
      · exact c_eMulN1 s t la lc lb ld hp1 v1 v2 u1 u2 X j1 j2 j3 j4
      · cases p2
        · exact c_eMulN2 s t la lc lb ld hp1 hp2 v1 v2 u1 u2 X j1 j2 j3 j4
        · exact (no rfl rfl).elim
    have eDiv : ∀ X v u, Rc X v s la lb → Rc X u t lc ld → Calls Tryz.prog 31 #[v, u] X (ResPost none 1 X) := by
      intro X v u hv hu
      obtain ⟨v1, v2, rfl, j1, j2⟩ := hv.two
      obtain ⟨u1, u2, rfl, j3, j4⟩ := hu.two
      cases p1
      · exact c_eDivN1 s t la lc lb ld hp1 v1 v2 u1 u2 X j1 j2 j3 j4
      · cases p2
        · exact c_eDivN2 s t la lc lb ld hp1 hp2 v1 v2 u1 u2 X j1 j2 j3 j4
        · exact (no rfl rfl).elim
    have eCmp : ∀ X v u, Rc X v s la lb → Rc X u t lc ld → Calls Tryz.prog 33 #[v, u] X (fun e w' => e = .returned (.tuple #[.int .i64 0, .int .i64 1]) ∧ Below X.heap.size X w') := by
      intro X v u hv hu
      obtain ⟨v1, v2, rfl, j1, j2⟩ := hv.two
      obtain ⟨u1, u2, rfl, j3, j4⟩ := hu.two
      cases p1
      · exact c_eCmpN1 s t la lb lc ld hp1 v1 v2 u1 u2 X j1 j2 j3 j4
      · cases p2
        · exact c_eCmpN2 s t la lb lc ld hp1 hp2 v1 v2 u1 u2 X j1 j2 j3 j4
        · exact (no rfl rfl).elim
    exact W none none none none 1 1 1 1 0 1 (Lib.hid nAdd) (Lib.hid eAdd) (Lib.hid nSub) (Lib.hid eSub) (Lib.hid nMul) (Lib.hid eMul) (Lib.hid nDiv) (Lib.hid eDiv) (Lib.hid nCmp) (Lib.hid eCmp) x y w he hx hy
end Go.Proofs.YtfdkdloldjfnjaaGreatDoor
