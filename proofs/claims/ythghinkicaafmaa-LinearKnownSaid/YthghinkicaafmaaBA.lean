/-
  DERIVED. Least's closure; sort.Search at it (stage 6).
-/
import Derived.Test.YthghinkicaafmaaAZ
namespace Go.Proofs.Ythghinkicaafmaa
open Go.RowKit Go.Shelf
attribute [local go_sem ↓] Go.wp_at_zero Go.wp_at_succ
set_option maxRecDepth 100000

structure VaW (v : Value) (w w' : World) : Prop where
  bel : Below w.heap.size w w'
  bx : Boxed w' w.heap.size 32 v
  size : w'.heap.size = w.heap.size + 1
theorem c_ValuesW (A : Option Addr) (m c : Nat) (w : World) :
    Calls Try.prog 40 #[.slice A m c] w fun e w' => e = .returned (vaF w.heap.size) ∧ VaW (.slice A m c) w w' :=
  (c_Values A m c w).mono fun e w' ⟨h1, h2⟩ => ⟨h1, by
    subst h2
    exact ⟨(Below.refl _ _).alloc (Nat.le_refl _) _, Boxed.new _ _ _, by simp⟩⟩
/-- The levels of amounts in a slice, as an iterator. -/
theorem va_seq {C s : Int} {am : List Int} (hC : 0 ≤ C ∧ C ≤ 100000000) (hs : 0 ≤ s ∧ s ≤ 100000000) (hn : am.length ≤ 1000) (ha : ∀ a ∈ am, 0 ≤ a ∧ a ≤ 1600000000000) {v : Value}
    {w0 U wv Z : World} (hv : IntSl w0 v am) (hU : Below w0.heap.size w0 U) (hw : VaW v U wv) (hz : LvW C s (vaF U.heap.size) wv Z) :
    SeqIt 7 Try.prog 48 #[.pointer (some ⟨wv.heap.size + 1, 0, none⟩), .pointer (some ⟨wv.heap.size + 1 + 1, 0, none⟩), .pointer (some ⟨wv.heap.size, 0, none⟩)] 3 (fun k => k < Z.heap.size) okL (lvI C 0 s am) Z := by
  have hu := hU.size
  have hzw := hw.size
  have hzz := hz.size
  refine c_levels1 7 (by omega) _ wv.heap.size (wv.heap.size + 1) (wv.heap.size + 1 + 1) C s hC hs 51 _ am hn ha eg_va Z (fun k h => h) (by omega) (by omega) (by omega) ?_ hz.cy hz.st hz.fn
  exact c_Values1 6 (by omega) _ U.heap.size v am (by omega) w0 hv Z (below_join (below_join hU hw.bel hu) hz.bel (by omega)) (fun k hk => by omega) (by omega) ((hz.bel.block _ (by omega)).trans hw.bx)
/-- Does a Carry keep the limit? -/
def enP (s lim : Int) (am : List Int) (C : Int) : Bool := decide (frs lim (s :: lvs C s am) = -1)
theorem box3_cells {X : World} {b1 b2 b3 : Nat} {T1 T2 T3 : TypeId} {v1 v2 v3 : Value} (h1 : Boxed X b1 T1 v1) (h2 : Boxed X b2 T2 v2) (h3 : Boxed X b3 T3 v3) : X.cell? ⟨b1, 0, none⟩ = some v1 ∧ X.cell? ⟨b2, 0, none⟩ = some v2 ∧ X.cell? ⟨b3, 0, none⟩ = some v3 := ⟨h1.cell, h2.cell, h3.cell⟩
set_option maxHeartbeats 8000000 in
theorem c_Least1 (C s lim : Int) (am : List Int) (hC : 0 ≤ C ∧ C ≤ 100000000) (hs : 0 ≤ s ∧ s ≤ 100000000) (hn : am.length ≤ 1000) (ha : ∀ a ∈ am, 0 ≤ a ∧ a ≤ 1600000000000) (v : Value) (w0 : World) (hv : IntSl w0 v am) (b1 b2 b3 : Nat)
    (W : World) (hU : Below w0.heap.size w0 W) (h1 : Boxed W b1 3 (.int .i64 lim)) (h2 : Boxed W b2 3 (.int .i64 s)) (h3 : Boxed W b3 32 v) (g : Bool) (hg : enP s lim am C = g) :
    Calls Try.prog 39 #[.int .i64 C, .pointer (some ⟨b1, 0, none⟩), .pointer (some ⟨b2, 0, none⟩), .pointer (some ⟨b3, 0, none⟩)] W fun e w' => e = .returned (.bool g) ∧ Below W.heap.size W w' := by
  have HV := Lib.hid hv
  have HU := Lib.hid hU.size
  have HB := Lib.hid (show Below W.heap.size W W.drew from (Below.refl _ _).drew)
  have H1 := Lib.hid h1
  have H2 := Lib.hid h2
  have H3 := Lib.hid h3
  have HS := Lib.hid (fun (wv Z : World) (hw : VaW v W.drew wv) (hz : LvW C s (vaF W.heap.size) wv Z) => va_seq hC hs hn ha hv hU.drew hw hz)
  obtain ⟨A, c, rfl, -, -⟩ := hv.shape
  obtain ⟨y, hy⟩ : ∃ y, frs lim (s :: lvs C s am) = y := ⟨_, rfl⟩
  have HY := Lib.hid (show frs lim ((lvI C 0 s am).map (·.2)) = y by rw [lvI_snd]; exact hy)
  have HG := Lib.hid (show decide (y = -1) = g by rw [← hy]; exact hg)
  clear hv hU hC hs hn ha h1 h2 h3 hy hg
  go_enter Try.func39, Try.ntmps39
  go_wp2_with (fail)
  go_region_held3 (fun X => X.cell? ⟨b1, 0, none⟩ = some (.int .i64 lim) ∧ X.cell? ⟨b2, 0, none⟩ = some (.int .i64 s) ∧ X.cell? ⟨b3, 0, none⟩ = some (.slice A am.length c))
    (first | exact HKF.out | exact HKZ.out | exact HKV.out | exact box3_cells (X := W.drew) H1.out H2.out H3.out)
    (first
      | (go_at_call 40; (with_reducible refine (c_ValuesW A am.length c W.drew).mono ?_); rintro e wv ⟨rfl, hwv⟩; have HWV := Lib.hid hwv; have HKV := Lib.hid (box3_cells ((hwv.bel.block _ H1.out.lt).trans H1.out) ((hwv.bel.block _ H2.out.lt).trans H2.out) ((hwv.bel.block _ H3.out.lt).trans H3.out)); have HBV := Lib.hid (below_join HB.out hwv.bel (Nat.le_refl _)); clear hwv)
      | (go_at_call 34; (with_reducible refine (c_levelsV C s _ wv).mono ?_); rintro e wz ⟨rfl, hwz⟩; have HBZ := Lib.hid (below_join HBV.out hwz.bel HBV.out.size); have HKZ := Lib.hid (box3_cells ((HBZ.out.block _ H1.out.lt).trans H1.out) ((HBZ.out.block _ H2.out.lt).trans H2.out) ((HBZ.out.block _ H3.out.lt).trans H3.out)); have HSQ := Lib.hid (HS.out wv wz HWV.out hwz); clear hwz)
      | (go_at_call 37; (with_reducible refine (c_firstAboveF lim _ _ _ (lvI_at C s am) wz (fun k h => h) HSQ.out y HY.out).mono ?_); rintro e wf ⟨rfl, bf⟩; have HBF := Lib.hid (below_join HBZ.out bf HBZ.out.size); have HKF := Lib.hid (box3_cells ((HBF.out.block _ H1.out.lt).trans H1.out) ((HBF.out.block _ H2.out.lt).trans H2.out) ((HBF.out.block _ H3.out.lt).trans H3.out)); clear bf)
      | fail)
  go_wp2_with (fail)
  go_ret
  refine ⟨?_, HBF.out⟩
  rw [← HG.out]
  congr 2
set_option maxHeartbeats 8000000 in
theorem c_search (b1 b2 b3 : Nat) (n : Nat) (hn : n ≤ 200000000) (p : Nat → Bool) (w : World) (hf : ∀ (W : World) (i : Nat), Below w.heap.size w W → i < n → Calls Try.prog 39 #[.int .i64 (i : Int), .pointer (some ⟨b1, 0, none⟩), .pointer (some ⟨b2, 0, none⟩), .pointer (some ⟨b3, 0, none⟩)] W fun e w' => e = .returned (.bool (p i)) ∧ Below W.heap.size W w') :
    Calls Try.prog 41 #[.int .i64 (n : Int), .func (.func 39) #[] #[.pointer (some ⟨b1, 0, none⟩), .pointer (some ⟨b2, 0, none⟩), .pointer (some ⟨b3, 0, none⟩)]] w fun e w' => ∃ r : Nat, e = .returned (.int .i64 (r : Int)) ∧ Below w.heap.size w w' ∧ r ≤ n ∧ (0 < r → p (r - 1) = false) ∧ (r < n → p r = true) := by
  have HF := Lib.hid hf
  clear hf
  go_enter Try.func41, Try.ntmps41
  go_wp2_with (fail)
  go_loopw [5, 6] (fun s5 s6 wr => ∃ lo hi : Nat, s5 = .int .i64 (lo : Int) ∧ s6 = .int .i64 (hi : Int) ∧ lo ≤ hi ∧ hi ≤ n ∧ Hid (Below w.heap.size w wr) ∧ Hid ((0 < lo → p (lo - 1) = false) ∧ (hi < n → p hi = true))) (fun s5 s6 _ => (intOf s6).toNat - (intOf s5).toNat)
  case atStart => exact ⟨0, n, rfl, rfl, Nat.zero_le _, Nat.le_refl _, Lib.hid (Below.refl _ _), Lib.hid ⟨fun h => absurd h (Nat.lt_irrefl _), fun h => absurd h (Nat.lt_irrefl _)⟩⟩
  case round =>
    obtain ⟨lo, hi, rfl, rfl, hlh, hin, hB, hI⟩ := hrel
    by_cases hlt : lo < hi
    · have hc := HF.out wr ((lo + hi) / 2) hB.out (by omega)
      rw [show (((lo + hi) / 2 : Nat) : Int) = ((lo : Int) + (hi : Int)) / 2 by omega] at hc
      cases hp : p ((lo + hi) / 2) <;> rw [hp] at hc
      · have HP := Lib.hid hp
        have HC := Lib.hid hc
        clear hp hc
        go_wp2_with (fail)
        go_at_call 39
        refine HC.out.mono ?_
        rintro e w1 ⟨rfl, b1⟩
        have HB1 := Lib.hid (below_join hB.out b1 hB.out.size)
        clear b1
        go_wp2_with (fail)
        go_roundw
        case rel => exact ⟨(lo + hi) / 2 + 1, hi, by rw [show ((lo : Int) + (hi : Int)) / 2 + 1 = (((lo + hi) / 2 + 1 : Nat) : Int) by omega], rfl, by omega, hin, HB1, Lib.hid ⟨fun _ => by rw [Nat.add_sub_cancel]; exact HP.out, hI.out.2⟩⟩
        case measure => simp only [intOf]; omega
      · have HP := Lib.hid hp
        have HC := Lib.hid hc
        clear hp hc
        go_wp2_with (fail)
        go_at_call 39
        refine HC.out.mono ?_
        rintro e w1 ⟨rfl, b1⟩
        have HB1 := Lib.hid (below_join hB.out b1 hB.out.size)
        clear b1
        go_wp2_with (fail)
        go_roundw
        case rel => exact ⟨lo, (lo + hi) / 2, rfl, by rw [show ((lo : Int) + (hi : Int)) / 2 = (((lo + hi) / 2 : Nat) : Int) by omega], by omega, by omega, HB1, Lib.hid ⟨hI.out.1, fun _ => HP.out⟩⟩
        case measure => simp only [intOf]; omega
    · obtain rfl : hi = lo := by omega
      go_wp2_with (fail)
      go_ret
      exact ⟨hi, rfl, hB.out, hin, hI.out.1, hI.out.2⟩
end Go.Proofs.Ythghinkicaafmaa
