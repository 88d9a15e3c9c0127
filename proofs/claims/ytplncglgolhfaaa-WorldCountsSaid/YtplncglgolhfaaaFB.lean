/-
  DERIVED. The law WorldCounts (written by gen/world_FB.py).
-/
import Derived.Test.YtplncglgolhfaaaFA
import Derived.Test.YtplncglgolhfaaaEV
namespace Go.Proofs.Ytplncglgolhfaaa
open Go.RowKit
set_option maxRecDepth 100000
set_option linter.unusedVariables false
set_option linter.unusedSimpArgs false

theorem c_wrWhereTo (p : WP) (d : WorldD) (s : Int) (l : List Int) (hl : whereD d.reps s = l) (hm : d.reps.length ≤ 1000) (w : World) (h : WoAt w p d) :
    Calls Try.prog 20 #[.agg #[.slice p.a1 d.hosts.length p.c1, .slice p.a2 d.reps.length p.c2], .int .i64 s] w fun e w' => ∃ A c, e = .returned (.slice A l.length c) ∧ Rw 1 inF w' A c l ∧ Below w.heap.size w w' := by
  subst hl
  refine (c_wrWhere p d s hm w h).mono ?_
  rintro e w' ⟨v, rfl, ho, b⟩
  obtain ⟨A, c, rfl, hr⟩ := own_rw ho
  exact ⟨A, c, rfl, hr, b⟩
theorem c_wrRunsTo (p : WP) (d : WorldD) (s z : Int) (hz : ((whereD d.reps s).length : Int) = z) (hm : d.reps.length ≤ 1000) (w : World) (h : WoAt w p d) :
    Calls Try.prog 17 #[.agg #[.slice p.a1 d.hosts.length p.c1, .slice p.a2 d.reps.length p.c2], .int .i64 s] w fun e w' => e = .returned (.int .i64 z) ∧ Below w.heap.size w w' := by subst hz; exact c_wrRuns p d s hm w h
theorem c_wrUsedTo (A : Option Addr) (c : Nat) (xs : List (Svc × SvA)) (p : WP) (d : WorldD) (host z : Int) (hz : usedD (svs xs) d.reps host = z) (w : World) (hx : WiAt w A c xs) (h : WoAt w p d) :
    Calls Try.prog 24 #[.agg #[.slice A xs.length c], .agg #[.slice p.a1 d.hosts.length p.c1, .slice p.a2 d.reps.length p.c2], .int .i64 host] w fun e w' => e = .returned (.int .i64 z) ∧ Below w.heap.size w w' := by subst hz; exact c_wrUsed A c xs p d host w hx h
theorem c_hasTo (p : WP) (d : WorldD) (s h : Int) (r : Bool) (hr : hasB d.reps ⟨s, h⟩ = r) (w : World) (hd : WoAt w p d) :
    Calls Try.prog 21 #[.agg #[.slice p.a1 d.hosts.length p.c1, .slice p.a2 d.reps.length p.c2], .agg #[.int .i64 s, .int .i64 h]] w fun e w' => e = .returned (.bool r) ∧ Below w.heap.size w w' := c_woHas p d ⟨s, h⟩ r hr w hd
theorem c_wrHasTo (p : WP) (d : WorldD) (s h : Int) (r : Bool) (hr : hasB d.reps ⟨s, h⟩ = r) (w : World) (hd : WoAt w p d) :
    Calls Try.prog 22 #[.agg #[.slice p.a1 d.hosts.length p.c1, .slice p.a2 d.reps.length p.c2], .agg #[.int .i64 s, .int .i64 h]] w fun e w' => e = .returned (.bool r) ∧ Below w.heap.size w w' := c_wrHas p d ⟨s, h⟩ r hr w hd
theorem c_few1 (A : Option Addr) (c : Nat) (xs : List (Svc × SvA)) (q : WP) (d : WorldD) (r : Bool) (hr : r = true ↔ FewOk zeroS xs d) (w : World) (hx : WiAt w A c xs) (hd : WoAt w q d) :
    Calls Try.prog 10 #[.agg #[.slice none 0 0, .slice none 0 0, .slice none 0 0, .slice none 0 0, .int .i64 0, .slice none 0 0, .slice none 0 0], .agg #[.slice A xs.length c], .agg #[.slice q.a1 d.hosts.length q.c1, .slice q.a2 d.reps.length q.c2]] w fun e w' => e = .returned (.bool r) ∧ Below w.heap.size w w' :=
  c_few zeroSP zeroS A c xs q d r hr w (zeroS_at w) hx hd
theorem WiAt.drew {w : World} {A : Option Addr} {c : Nat} {xs : List (Svc × SvA)} (h : WiAt w A c xs) : WiAt w.drew A c xs := h.on (Below.refl _ _).drew (Nat.le_refl _)
set_option maxHeartbeats 32000000 in
theorem row_WorldCounts (w : World) (A : Option Addr) (c : Nat) (xs : List (Svc × SvA)) (hx : WiAt w A c xs) (p : WP) (d : WorldD) (h : WoAt w p d) (s t : Int) :
    Calls Try.prog 4 #[.agg #[.slice A xs.length c], .agg #[.slice p.a1 d.hosts.length p.c1, .slice p.a2 d.reps.length p.c2], .int .i64 s, .int .i64 t] w fun e w' => e = .returned (.bool true) ∧ Below w.heap.size w w' := by
  have HLV := Lib.hid (fun (X : World) => c_live X)
  have n1 := h.hosts.1; have n2 := h.hosts.2.1; have n3 := h.reps.1; have n4 := h.reps.2.1; have n5 := hx.row.1; have n6 := hx.row.2.1
  unfold maxLen at n2 n4 n6
  obtain ⟨W1, h1⟩ : ∃ W, W = w.alloc (.cells #[.slice A xs.length c] 32) := ⟨_, rfl⟩
  obtain ⟨W, h2⟩ : ∃ W, W = W1.alloc (.cells (woA p d) 36) := ⟨_, rfl⟩
  obtain ⟨B0, b1, b2, -⟩ := two_boxes h1 h2
  have HBW := Lib.hid B0
  have HF := Lib.hid (fun (X : World) (hX : Below W.heap.size W X) => (⟨cell_of (box_on b1 hX (Nat.le_refl _)) rfl, cell_of (box_on b2 hX (Nat.le_refl _)) rfl, cell_of (box_on b2 hX (Nat.le_refl _)) rfl⟩ : X.cell? ⟨w.heap.size, 0, none⟩ = some (.slice A xs.length c) ∧ X.cell? ⟨w.heap.size + 1, 0, none⟩ = some (.slice p.a1 d.hosts.length p.c1) ∧ X.cell? ⟨w.heap.size + 1, 1, none⟩ = some (.slice p.a2 d.reps.length p.c2)))
  have A0 := h.on B0 (Nat.le_refl _)
  have HA := Lib.hid (fun (X : World) (hX : Below W.heap.size W X) => A0.on hX (Nat.le_refl _))
  have X0 := hx.on B0 (Nat.le_refl _)
  have HXX := Lib.hid (fun (X : World) (hX : Below W.heap.size W X) => X0.on hX (Nat.le_refl _))
  have HKW := Lib.hid (Below.refl W.heap.size W)
  clear B0 b1 b2 h hx A0 X0
  obtain ⟨f0, f1, f2⟩ := HF.out W HKW.out
  unfold woA at h2
  rw [h2, h1] at f0 f1 f2
  generalize hBB : w.heap.size = B at *
  go_enter Try.func4, Try.ntmps4
  go_wp2_with (fail)
  rw [← h1, ← h2]
  clear h1 h2 f0 f1 f2
  obtain ⟨r, hr⟩ : ∃ b : Bool, b = true ↔ FewOk zeroS xs d := by
    by_cases h : FewOk zeroS xs d
    · exact ⟨true, by simp [h]⟩
    · exact ⟨false, by simp [h]⟩
  have HR := Lib.hid hr
  clear hr
  go_at_call 10
  refine (c_few1 A c xs p d r HR.out W (HXX.out W HKW.out) (HA.out W HKW.out)).mono ?_
  rintro e v1 ⟨rfl, bb⟩
  have HKv1 := Lib.hid (below_join HKW.out bb HKW.out.size)
  clear bb
  cases r
  · skip
    go_wp2_with (fail)
    go_at_call 11
    refine (HLV.out v1).mono ?_
    rintro e v102 ⟨rfl, bb⟩
    have HKv102 := Lib.hid (below_join HKv1.out bb HKv1.out.size)
    clear bb
    go_wp2_with (fail)
    go_ret
    exact ⟨rfl, below_join HBW.out HKv102.out (by rw [← hBB]; exact HBW.out.size)⟩
  have hl2 : d.reps.length ≤ 60 := (HR.out.1 (by trivial)).2.2.2.2.2.2.2.2.1
  obtain ⟨l, hl⟩ : ∃ l, whereD d.reps s = l := ⟨_, rfl⟩
  have HL := Lib.hid hl
  obtain ⟨n, hn⟩ : ∃ n, ((whereD d.reps s).length : Int) = n := ⟨_, rfl⟩
  have HN := Lib.hid hn
  obtain ⟨q, hq⟩ : ∃ q, hasB d.reps ⟨s, t⟩ = q := ⟨_, rfl⟩
  have HQ := Lib.hid hq
  obtain ⟨z, hz⟩ : ∃ z, usedD (svs xs) d.reps t = z := ⟨_, rfl⟩
  have HZ := Lib.hid hz
  clear hl hn hq hz
  obtain ⟨X153, hX153⟩ : ∃ X, X = v1.alloc (.cells #[.int .i64 s, .int .i64 t] 41) := ⟨_, rfl⟩
  have b153 : Below v1.heap.size v1 X153 := by subst hX153; exact (Below.refl _ _).alloc (Nat.le_refl _) _
  have HKX153 := Lib.hid (below_join HKv1.out b153 HKv1.out.size)
  have BRX153 := Lib.hid (show Bx X153 v1.heap.size #[.int .i64 s, .int .i64 t] 41 by subst hX153; exact bx_new _ _ _)
  clear b153
  have HFR := Lib.hid (fun (Y : World) (hY : Below W.heap.size W Y) (bY : Bx Y v1.heap.size #[.int .i64 s, .int .i64 t] 41) => (⟨(HF.out Y hY).1, (HF.out Y hY).2.1, (HF.out Y hY).2.2, cell_of bY rfl, cell_of bY rfl⟩ : Y.cell? ⟨B, 0, none⟩ = some (.slice A xs.length c) ∧ Y.cell? ⟨B + 1, 0, none⟩ = some (.slice p.a1 d.hosts.length p.c1) ∧ Y.cell? ⟨B + 1, 1, none⟩ = some (.slice p.a2 d.reps.length p.c2) ∧ Y.cell? ⟨v1.heap.size, 0, none⟩ = some (.int .i64 s) ∧ Y.cell? ⟨v1.heap.size, 1, none⟩ = some (.int .i64 t)))
  go_wp2_with (fail)
  rw [← hX153]
  clear hX153
  obtain ⟨f0, f1, f2, f3, f4⟩ := HFR.out X153 HKX153.out BRX153.out
  go_region_held3 (fun X => X.cell? ⟨B, 0, none⟩ = some (.slice A xs.length c) ∧ X.cell? ⟨B + 1, 0, none⟩ = some (.slice p.a1 d.hosts.length p.c1) ∧ X.cell? ⟨B + 1, 1, none⟩ = some (.slice p.a2 d.reps.length p.c2) ∧ X.cell? ⟨v1.heap.size, 0, none⟩ = some (.int .i64 s) ∧ X.cell? ⟨v1.heap.size, 1, none⟩ = some (.int .i64 t))
    (first | exact HFR.out v163 HKv163.out BRv163.out | exact HFR.out v162 HKv162.out BRv162.out | exact HFR.out v161 HKv161.out BRv161.out | exact HFR.out v160 HKv160.out BRv160.out | exact HFR.out v159 HKv159.out BRv159.out | exact HFR.out v158 HKv158.out BRv158.out | exact HFR.out v157 HKv157.out BRv157.out | exact HFR.out v156 HKv156.out BRv156.out | exact HFR.out v155 HKv155.out BRv155.out | exact HFR.out v154 HKv154.out BRv154.out | exact HFR.out X153 HKX153.out BRX153.out | fail)
    (first
      | (go_at_call 16; (with_reducible refine (c_runsTo p d s n HN.out (by omega) X153.drew (HA.out _ HKX153.out.drew)).mono ?_); rintro e v154 ⟨rfl, bb0⟩; have bb := below_join (Below.refl X153.heap.size X153).drew bb0 (Nat.le_refl _); have HKv154 := Lib.hid (below_join HKX153.out bb HKX153.out.size); have BRv154 := Lib.hid (BRX153.out.on bb (Nat.le_refl _)); clear bb bb0)
      | (go_at_call 17; (with_reducible refine (c_wrRunsTo p d s n HN.out (by omega) v154 (HA.out _ HKv154.out)).mono ?_); rintro e v155 ⟨rfl, bb0⟩; have bb := below_join (Below.refl v154.heap.size v154) bb0 (Nat.le_refl _); have HKv155 := Lib.hid (below_join HKv154.out bb HKv154.out.size); have BRv155 := Lib.hid (BRv154.out.on bb (Nat.le_refl _)); clear bb bb0)
      | (go_at_call 19; (with_reducible refine (c_whereTo p d s l HL.out (by omega) v155 (HA.out _ HKv155.out)).mono ?_); rintro e v156 ⟨A1, c1, rfl, r1, bb0⟩; have bb := below_join (Below.refl v155.heap.size v155) bb0 (Nat.le_refl _); have HKv156 := Lib.hid (below_join HKv155.out bb HKv155.out.size); have BRv156 := Lib.hid (BRv155.out.on bb (Nat.le_refl _)); have R1v156 := Lib.hid r1; clear r1; clear bb bb0)
      | (go_at_call 20; (with_reducible refine (c_wrWhereTo p d s l HL.out (by omega) v156 (HA.out _ HKv156.out)).mono ?_); rintro e v157 ⟨A2, c2, rfl, r2, bb0⟩; have bb := below_join (Below.refl v156.heap.size v156) bb0 (Nat.le_refl _); have HKv157 := Lib.hid (below_join HKv156.out bb HKv156.out.size); have BRv157 := Lib.hid (BRv156.out.on bb (Nat.le_refl _)); have R1v157 := Lib.hid (R1v156.out.on bb (Nat.le_refl _)); have R2v157 := Lib.hid r2; clear r2; clear bb bb0)
      | (go_at_call 18; (with_reducible refine (c_Ints A1 A2 c1 c2 l l v157 R1v157.out R2v157.out true (by simp)).mono ?_); rintro e v158 ⟨rfl, bb0⟩; have bb := below_join (Below.refl v157.heap.size v157) bb0 (Nat.le_refl _); have HKv158 := Lib.hid (below_join HKv157.out bb HKv157.out.size); have BRv158 := Lib.hid (BRv157.out.on bb (Nat.le_refl _)); have R1v158 := Lib.hid (R1v157.out.on bb (Nat.le_refl _)); have R2v158 := Lib.hid (R2v157.out.on bb (Nat.le_refl _)); clear bb bb0)
      | (go_at_call 21; (with_reducible refine (c_hasTo p d s t q HQ.out v158 (HA.out _ HKv158.out)).mono ?_); rintro e v159 ⟨rfl, bb0⟩; have bb := below_join (Below.refl v158.heap.size v158) bb0 (Nat.le_refl _); have HKv159 := Lib.hid (below_join HKv158.out bb HKv158.out.size); have BRv159 := Lib.hid (BRv158.out.on bb (Nat.le_refl _)); have R1v159 := Lib.hid (R1v158.out.on bb (Nat.le_refl _)); have R2v159 := Lib.hid (R2v158.out.on bb (Nat.le_refl _)); clear bb bb0)
      | (go_at_call 22; (with_reducible refine (c_wrHasTo p d s t q HQ.out v159 (HA.out _ HKv159.out)).mono ?_); rintro e v160 ⟨rfl, bb0⟩; have bb := below_join (Below.refl v159.heap.size v159) bb0 (Nat.le_refl _); have HKv160 := Lib.hid (below_join HKv159.out bb HKv159.out.size); have BRv160 := Lib.hid (BRv159.out.on bb (Nat.le_refl _)); have R1v160 := Lib.hid (R1v159.out.on bb (Nat.le_refl _)); have R2v160 := Lib.hid (R2v159.out.on bb (Nat.le_refl _)); clear bb bb0)
      | (go_at_call 23; (with_reducible refine (c_usedTo A c xs p d t z HZ.out v160 (HXX.out _ HKv160.out) (HA.out _ HKv160.out)).mono ?_); rintro e v161 ⟨rfl, bb0⟩; have bb := below_join (Below.refl v160.heap.size v160) bb0 (Nat.le_refl _); have HKv161 := Lib.hid (below_join HKv160.out bb HKv160.out.size); have BRv161 := Lib.hid (BRv160.out.on bb (Nat.le_refl _)); have R1v161 := Lib.hid (R1v160.out.on bb (Nat.le_refl _)); have R2v161 := Lib.hid (R2v160.out.on bb (Nat.le_refl _)); clear bb bb0)
      | (go_at_call 24; (with_reducible refine (c_wrUsedTo A c xs p d t z HZ.out v161 (HXX.out _ HKv161.out) (HA.out _ HKv161.out)).mono ?_); rintro e v162 ⟨rfl, bb0⟩; have bb := below_join (Below.refl v161.heap.size v161) bb0 (Nat.le_refl _); have HKv162 := Lib.hid (below_join HKv161.out bb HKv161.out.size); have BRv162 := Lib.hid (BRv161.out.on bb (Nat.le_refl _)); have R1v162 := Lib.hid (R1v161.out.on bb (Nat.le_refl _)); have R2v162 := Lib.hid (R2v161.out.on bb (Nat.le_refl _)); clear bb bb0)
      | (go_at_call 11; (with_reducible refine (HLV.out v162).mono ?_); rintro e v163 ⟨rfl, bb0⟩; have bb := below_join (Below.refl v162.heap.size v162) bb0 (Nat.le_refl _); have HKv163 := Lib.hid (below_join HKv162.out bb HKv162.out.size); have BRv163 := Lib.hid (BRv162.out.on bb (Nat.le_refl _)); have R1v163 := Lib.hid (R1v162.out.on bb (Nat.le_refl _)); have R2v163 := Lib.hid (R2v162.out.on bb (Nat.le_refl _)); clear bb bb0)
      | fail)
  go_wp2_with (fail)
  go_ret
  exact ⟨rfl, below_join HBW.out HKv163.out (by rw [← hBB]; exact HBW.out.size)⟩
end Go.Proofs.Ytplncglgolhfaaa
