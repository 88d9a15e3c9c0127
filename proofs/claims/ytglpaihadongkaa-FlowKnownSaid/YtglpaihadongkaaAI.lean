/-
  PLAIN. A net while nothing flows (stage 5): no program is named.
-/
import Derived.Test.YtglpaihadongkaaAH
namespace Go.Proofs.Ytglpaihadongkaa
set_option linter.unusedSimpArgs false
set_option linter.unusedVariables false

def arOf (a : Int × Int × Int) : Ar := { u := a.1.toNat, v := a.2.1.toNat, cap := a.2.2, x := 0 }
def arsOf (L : List (Int × Int × Int)) : List Ar := L.map arOf
theorem arsOf_len (L : List (Int × Int × Int)) : (arsOf L).length = L.length := by simp [arsOf]
theorem arsOf_take {L : List (Int × Int × Int)} {k : Nat} {a : Int × Int × Int} (h : L[k]? = some a) : arsOf (L.take (k + 1)) = arsOf (L.take k) ++ [arOf a] := by
  obtain ⟨hk, e⟩ := List.getElem?_eq_some_iff.1 h
  rw [List.take_succ_eq_append_getElem hk, e]
  simp [arsOf]
def natsI (l : List Nat) : List Int := List.map (fun k : Nat => (k : Int)) l
/-- The lists of whole: ends, room, the moves of each node. -/
def cW (l : List Ar) : Nat → List Int
  | 0 => endsI l
  | 1 => rooms l
  | n + 2 => natsI (mvs l n)
def upc (c : Nat → List Int) (i : Nat) (x : List Int) : Nat → List Int := fun j => if j = i then c i ++ x else c j
theorem cW_nil (i : Nat) : cW [] i = [] := by
  match i with
  | 0 => rfl
  | 1 => rfl
  | n + 2 => rfl
theorem cW_snoc (l : List Ar) (a : Ar) : cW (l ++ [a]) = upc (upc (upc (upc (cW l) 0 [(a.v : Int), (a.u : Int)]) 1 [a.cap - a.x, a.x]) (a.u + 2) [2 * (l.length : Int)]) (a.v + 2) [2 * (l.length : Int) + 1] := by
  funext i
  match i with
  | 0 =>
    show endsI (l ++ [a]) = _
    rw [endsI_snoc]
    simp [upc, cW]
  | 1 =>
    show rooms (l ++ [a]) = _
    rw [rooms_snoc]
    simp [upc, cW]
  | n + 2 =>
    show natsI (mvs (l ++ [a]) n) = _
    rw [mvs_snoc]
    unfold natsI
    rw [List.map_append, List.map_append]
    by_cases h1 : a.u = n <;> by_cases h2 : a.v = n
    · subst h1
      simp [upc, cW, natsI, h2]
    · have h2' : ¬ (n = a.v) := fun e => h2 e.symm
      subst h1
      simp [upc, cW, natsI, h2, h2']
    · have h1' : ¬ (n = a.u) := fun e => h1 e.symm
      subst h2
      simp [upc, cW, natsI, h1, h1']
    · have h1' : ¬ (n = a.u) := fun e => h1 e.symm
      have h2' : ¬ (n = a.v) := fun e => h2 e.symm
      simp [upc, cW, natsI, h1, h2, h1', h2']
end Go.Proofs.Ytglpaihadongkaa
