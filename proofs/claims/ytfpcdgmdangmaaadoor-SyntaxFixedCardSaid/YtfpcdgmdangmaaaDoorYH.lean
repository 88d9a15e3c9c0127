/-
  DERIVED. The law SyntaxFixed; the table that strconv.Itoa reads, out of the row's condition.
-/
import Derived.Test.YtfpcdgmdangmaaaDoorYYGm
import Derived.Test.YtfpcdgmdangmaaaDoorYL
import Derived.Test.YtfpcdgmdangmaaaDoorYWLm
import Derived.Test.YtfpcdgmdangmaaaDoorYQKm
import Derived.Lib.LaidTab
import Derived.Test.YtfpcdgmdangmaaaDoorRows
import Derived.LaidMore
set_option linter.unusedVariables false
set_option linter.unusedSimpArgs false
namespace Go.Proofs.YtfpcdgmdangmaaaDoor
open Go.RowKit
set_option maxRecDepth 100000

theorem w_SyntaxFixed (s : ByteArray) (hs : s.size ≤ maxLen) (w : World) (ht : Tab w) :
    Calls Tryd.prog 3 #[.string s] w fun e w' => e = .returned (.bool true) ∧ Below w.heap.size w w' := by
  have HW : Hid (XAw w) := Lib.hid (fun W hb => c_awake W (ht.on hb))
  have HA : ∀ W, XPa s (parseOf s) W := fun W => c_Parse s hs W
  rcases fixed_cases s with ⟨e1, e2, e3, e4⟩ | ⟨l, e1, g1, g2, g3, h⟩
  · have hp : parseOf s = ([], (parseOf s).2.1, (parseOf s).2.2) := by rw [← e2]
    generalize (parseOf s).2.1 = x1 at hp e3 e4
    generalize (parseOf s).2.2 = x2 at hp e1
    rw [hp] at HA
    exact fixed_err s hs x1 x2 (by rw [bne_iff_ne]; exact e1) e3 e4 w (Lib.hid HA) HW
  · rw [e1] at HA
    have HP : XPr w l (printB l) := fun W v ok hb hc => c_sPrint l g2 (fun _ => by omega) v ok W (ht.on hb) hc
    rcases h with h | ⟨t, m, h1, h2, h3, h4, h5, h6, h7⟩
    · rw [h] at HP
      have HF : XFo w l := fun W v ok hb hc => by
        have := c_Formed l g2 v ok W (ht.on hb) hc
        rw [g1] at this
        exact this
      exact fixed_limit s l w (Lib.hid HA) (Lib.hid HP) (Lib.hid HF) HW
    · rw [h1] at HP
      have HB : ∀ W, XPa t (m, 0, 0) W := fun W => by
        have := c_Parse t (by unfold maxLen; omega) W
        rw [h3] at this
        exact this
      have HQ : XPr w m (printB m) := fun W v ok hb hc => c_sPrint m h4 (fun _ => by omega) v ok W (ht.on hb) hc
      rw [h7] at HQ
      have HS : XSm w l m := fun W v u ok ok' hb k1 k2 => q_Same l m h6 v u ok ok' W k1 k2
      exact fixed_ok s t l m w (Lib.hid HA) (Lib.hid HP) (Lib.hid HB) (Lib.hid HQ) (Lib.hid HS) HW

theorem gPow : Tryd.prog.globalNamed "internal/strconv.uint64pow10" = some 1 := by kernel_rfl
theorem gPowT : (Tryd.prog.globals[1]?).map (·.type) = some 121 := by kernel_rfl
theorem laidMet_tail {P : Program} {x : String × DataW Unit} {r : List (String × DataW Unit)} {W : World} (h : laidMet P (x :: r) W) : laidMet P r W := by
  obtain ⟨n, d⟩ := x
  obtain ⟨ps, ⟨g, t, cs, fuel, p, q, h1, h2, h3, h4, h5, rfl⟩, hn, hc⟩ := h
  exact ⟨q, h5, (List.nodup_append.1 hn).2.1, fun b off hm => hc b off (by simp [hm])⟩
theorem tab_laid {W : World} (h : laidMet Tryd.prog Rows.syntaxFixedRow.laid W) : Tab W :=
  Tab.of (Lib.tabIs_of_head gPow gPowT Tryd.underlying121 Tryd.underlying114 (by kernel_rfl) (by kernel_rfl) (laidMet_tail (laidMet_tail h)))
theorem laidMetH_plain {l : List (String × DataW Unit)} {W : World} (h : laidMetH Tryd.prog l W) (hp : (l.all fun x => x.2.handleName?.isNone) = true) : laidMet Tryd.prog l W := by
  rw [MakeChecks.laidMetH_plain _ _ _ hp] at h; exact h
end Go.Proofs.YtfpcdgmdangmaaaDoor
