/-
  DERIVED. The law LinearSeeks (stage 6).
-/
import Derived.Test.YthghinkicaafmaaBX
import Derived.Test.YthghinkicaafmaaCA
namespace Go.Proofs.Ythghinkicaafmaa
open Go.RowKit

theorem row_LinearSeeks (w : World) (C s n t l : Int) (P I : Value) (ps : List (Int × Int × Int)) (ins : List (List Int)) (hP : PtSl w P ps) (hPn : ∀ m c, P = .slice none m c → c = 0) (hI : LiSl w I ins) :
    Calls Try.prog 4 #[argsV C P s I n t l] w fun e w' => e = .returned (.bool true) ∧ Below w.heap.size w w' :=
  w_LinearSeeks C s n t l P I w (ps.take 18) (cutI ins) (cutN n) fun X hX =>
    (c_own C s n t l P I ps ins X (hP.on hX (Nat.le_refl _)) hPn (hI.on hX (Nat.le_refl _))).mono fun e w' h => by
      obtain ⟨P', I', h1, h2, -, h4⟩ := h
      exact ⟨P', I', h1, h2, h4⟩
end Go.Proofs.Ythghinkicaafmaa
