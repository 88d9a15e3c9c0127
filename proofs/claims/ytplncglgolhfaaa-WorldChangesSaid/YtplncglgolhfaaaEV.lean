/-
  DERIVED. The law WorldUndoes (written by gen/world_EV.py).
-/
import Derived.Test.YtplncglgolhfaaaEU
import Derived.Test.YtplncglgolhfaaaES
namespace Go.Proofs.Ytplncglgolhfaaa
open Go.RowKit
set_option maxRecDepth 100000
set_option linter.unusedVariables false
set_option linter.unusedSimpArgs false

theorem startP_cases (d : WorldD) (x : Rep) : (startP d x = (⟨d.hosts, startL d.reps x⟩, 0) ∧ Asc d.reps ∧ 0 ≤ x.svc ∧ 0 ≤ x.host ∧ x ∉ d.reps ∧ d.reps.length < 24) ∨ ∃ n : Int, n ≠ 0 ∧ startP d x = (zeroD, n) := by
  by_cases h1 : (ascB d.reps && (!decide (x.svc < 0) && !decide (x.host < 0))) = true
  · by_cases h2 : hasB d.reps x = true
    · exact .inr ⟨6, by decide, by unfold startP; rw [if_pos h1, if_pos h2]⟩
    · by_cases h3 : 24 ≤ d.reps.length
      · exact .inr ⟨9, by decide, by unfold startP; rw [if_pos h1, if_neg h2, if_pos h3]⟩
      · refine .inl ⟨by unfold startP; rw [if_pos h1, if_neg h2, if_neg h3], ?_⟩
        simp only [Bool.and_eq_true, Bool.not_eq_true', decide_eq_false_iff_not] at h1
        exact ⟨asc_iff.1 h1.1, by omega, by omega, fun h => h2 (decide_eq_true h), by omega⟩
  · exact .inr ⟨1, by decide, by unfold startP; rw [if_neg h1]⟩
theorem startP_ok {d : WorldD} {x : Rep} (h1 : Asc d.reps) (h2 : 0 ≤ x.svc) (h3 : 0 ≤ x.host) (h4 : x ∉ d.reps) (h5 : d.reps.length < 24) : startP d x = (⟨d.hosts, startL d.reps x⟩, 0) := by
  unfold startP
  rw [asc_iff.2 h1, if_pos (by rw [decide_eq_false (by omega), decide_eq_false (by omega)]; rfl), if_neg (by unfold hasB; simp [h4]), if_neg (by omega)]
theorem stopP_cases (d : WorldD) (x : Rep) : (stopP d x = (⟨d.hosts, stopL d.reps x⟩, 0) ∧ Asc d.reps ∧ x ∈ d.reps) ∨ ∃ n : Int, n ≠ 0 ∧ stopP d x = (zeroD, n) := by
  by_cases h1 : ascB d.reps = true
  · by_cases h2 : hasB d.reps x = true
    · exact .inl ⟨by unfold stopP; rw [if_pos h1, if_pos h2], asc_iff.1 h1, of_decide_eq_true h2⟩
    · exact .inr ⟨7, by decide, by unfold stopP; rw [if_pos h1, if_neg h2]⟩
  · exact .inr ⟨1, by decide, by unfold stopP; rw [if_neg h1]⟩
theorem stopP_ok {d : WorldD} {x : Rep} (h1 : Asc d.reps) (h2 : x ∈ d.reps) : stopP d x = (⟨d.hosts, stopL d.reps x⟩, 0) := by
  unfold stopP
  rw [if_pos (asc_iff.2 h1), if_pos (show hasB d.reps x = true from decide_eq_true h2)]
def zeroS : SiteD := ⟨[], [], [], [], 0, [], []⟩
def zeroSP : SP := ⟨none, 0, none, 0, none, 0, none, 0, none, 0, none, 0⟩
theorem zeroS_at (w : World) : SiAt w zeroSP zeroS := ⟨Rw.nil _ _, Rw.nil _ _, Rw.nil _ _, Rw.nil _ _, Rw.nil _ _, Rw.nil _ _⟩
theorem noWi (w : World) : WiAt w none 0 [] := ⟨Rv.nil _, fun x hx => by cases hx⟩
theorem few0 (d : WorldD) : FewOk zeroS [] d ↔ d.hosts.length ≤ 60 ∧ d.reps.length ≤ 60 := by
  unfold FewOk zeroS
  simp
theorem c_few0 (q : WP) (d : WorldD) (r : Bool) (hr : r = true ↔ d.hosts.length ≤ 60 ∧ d.reps.length ≤ 60) (w : World) (hd : WoAt w q d) :
    Calls Try.prog 10 #[.agg #[.slice none 0 0, .slice none 0 0, .slice none 0 0, .slice none 0 0, .int .i64 0, .slice none 0 0, .slice none 0 0], .agg #[.slice none 0 0], .agg #[.slice q.a1 d.hosts.length q.c1, .slice q.a2 d.reps.length q.c2]] w fun e w' => e = .returned (.bool r) ∧ Below w.heap.size w w' :=
  c_few zeroSP zeroS none 0 [] q d r (hr.trans (few0 d).symm) w (zeroS_at w) (noWi w) hd
theorem c_sameTo (p q : WP) (d e : WorldD) (r : Bool) (hr : sameB d e = r) (w : World) (hd : WoAt w p d) (he : WoAt w q e) :
    Calls Try.prog 28 #[.agg #[.slice p.a1 d.hosts.length p.c1, .slice p.a2 d.reps.length p.c2], .agg #[.slice q.a1 e.hosts.length q.c1, .slice q.a2 e.reps.length q.c2]] w fun e w' => e = .returned (.bool r) ∧ Below w.heap.size w w' := c_wrSame p q d e r hr w hd he
theorem same_refl (d : WorldD) : sameB d d = true := sameB_iff.2 rfl
theorem zeroD_phase : ∀ h ∈ zeroD.hosts, h.phase < 256 := by simp [zeroD]
set_option maxHeartbeats 32000000 in
theorem row_WorldUndoes (w : World) (p : WP) (d : WorldD) (h : WoAt w p d) (x : Rep) :
    Calls Try.prog 6 #[.agg #[.slice p.a1 d.hosts.length p.c1, .slice p.a2 d.reps.length p.c2], .agg #[.int .i64 x.svc, .int .i64 x.host]] w fun e w' => e = .returned (.bool true) ∧ Below w.heap.size w w' := by
  have HLV := Lib.hid (fun (X : World) => c_live X)
  have hph := Lib.hid h.phase
  have HBw := Lib.hid (Below.refl w.heap.size w)
  have Aw := Lib.hid h
  have n1 := h.hosts.1; have n2 := h.hosts.2.1; have n3 := h.reps.1; have n4 := h.reps.2.1
  unfold maxLen at n2 n4
  clear h
  obtain ⟨X1, hX1⟩ : ∃ X, X = w.alloc (.cells #[.slice p.a1 d.hosts.length p.c1, .slice p.a2 d.reps.length p.c2] 36) := ⟨_, rfl⟩
  have b1 : Below w.heap.size w X1 := by subst hX1; exact (Below.refl _ _).alloc (Nat.le_refl _) _
  have HBX1 := Lib.hid (below_join HBw.out b1 HBw.out.size)
  have AX1 := Lib.hid (Aw.out.on b1 (Nat.le_refl _))
  have BWX1 := Lib.hid (show Bx X1 w.heap.size (woA p d) 36 by subst hX1; exact bx_new _ _ _)
  clear b1
  obtain ⟨X2, hX2⟩ : ∃ X, X = X1.alloc (.cells #[.int .i64 x.svc, .int .i64 x.host] 41) := ⟨_, rfl⟩
  have b2 : Below X1.heap.size X1 X2 := by subst hX2; exact (Below.refl _ _).alloc (Nat.le_refl _) _
  have HBX2 := Lib.hid (below_join HBX1.out b2 HBX1.out.size)
  have AX2 := Lib.hid (AX1.out.on b2 (Nat.le_refl _))
  have BWX2 := Lib.hid (BWX1.out.on b2 (Nat.le_refl _))
  have BRX2 := Lib.hid (show Bx X2 X1.heap.size #[.int .i64 x.svc, .int .i64 x.host] 41 by subst hX2; exact bx_new _ _ _)
  clear b2
  have s1 : X1.heap.size = w.heap.size + 1 := by rw [hX1, World.size_alloc]
  rw [s1] at BRX2
  clear s1
  obtain ⟨x0, x1⟩ := BWX2.out.wo
  obtain ⟨y0, y1⟩ := BRX2.out.rp
  rw [hX2, hX1] at x0 x1 y0 y1
  go_enter Try.func6, Try.ntmps6
  go_wp2_with (fail)
  rw [← hX1, ← hX2]
  clear hX1 hX2 x0 x1 y0 y1
  obtain ⟨r, hr⟩ : ∃ b : Bool, b = true ↔ d.hosts.length ≤ 60 ∧ d.reps.length ≤ 60 := ⟨decide (d.hosts.length ≤ 60 ∧ d.reps.length ≤ 60), by simp⟩
  have HR := Lib.hid hr
  clear hr
  go_at_call 10
  refine (c_few0 p d r HR.out X2 AX2.out).mono ?_
  rintro e v3 ⟨rfl, bb⟩
  have HBv3 := Lib.hid (below_join HBX2.out bb HBX2.out.size)
  have Av3 := Lib.hid (AX2.out.on bb (Nat.le_refl _))
  have BWv3 := Lib.hid (BWX2.out.on bb (Nat.le_refl _))
  have BRv3 := Lib.hid (BRX2.out.on bb (Nat.le_refl _))
  clear bb
  cases r
  · skip
    go_wp2_with (fail)
    go_at_call 11
    refine (HLV.out v3).mono ?_
    rintro e v104 ⟨rfl, bb⟩
    have HBv104 := Lib.hid (below_join HBv3.out bb HBv3.out.size)
    have Av104 := Lib.hid (Av3.out.on bb (Nat.le_refl _))
    have BWv104 := Lib.hid (BWv3.out.on bb (Nat.le_refl _))
    have BRv104 := Lib.hid (BRv3.out.on bb (Nat.le_refl _))
    clear bb
    go_wp2_with (fail)
    go_ret
    exact ⟨rfl, HBv104.out⟩
  obtain ⟨hl1, hl2⟩ := HR.out.1 (by trivial)
  rcases startP_cases d x with ⟨hS, ha, hs0, hh0, hn, h24⟩ | ⟨n, hn0, hS⟩
  · skip
    have hL := startL_len d.reps x
    have hT : stopP ⟨d.hosts, startL d.reps x⟩ x = (d, 0) := by rw [stopP_ok (startL_asc ha hn) (startL_mem.2 (.inl rfl))]; simp only [stop_start ha hn]
    have HS := Lib.hid hS
    have HT := Lib.hid hT
    obtain ⟨d1, hd1⟩ : ∃ d1 : WorldD, d1 = ⟨d.hosts, startL d.reps x⟩ := ⟨_, rfl⟩
    have HP1 := Lib.hid (show ∀ h ∈ d1.hosts, h.phase < 256 by rw [hd1]; exact hph.out)
    have HL1 := Lib.hid (show d1.reps.length ≤ 1000 ∧ d1.hosts.length ≤ 1000 by rw [hd1]; exact ⟨by simp only; omega, by simp only; omega⟩)
    rw [← hd1] at HS HT
    clear hS hT hs0 hh0 hn h24 ha hL hd1
    obtain ⟨x0, x1⟩ := BWv3.out.wo
    obtain ⟨y0, y1⟩ := BRv3.out.rp
    go_wp2_with (fail)
    clear x0 x1 y0 y1
    go_at_call 26
    refine (c_startTo p d x d1 0 HS.out (by omega) (by omega) v3 Av3.out).mono ?_
    rintro e v255 ⟨p1, rfl, o1, bb⟩
    have HBv255 := Lib.hid (below_join HBv3.out bb HBv3.out.size)
    have Av255 := Lib.hid (Av3.out.on bb (Nat.le_refl _))
    have BWv255 := Lib.hid (BWv3.out.on bb (Nat.le_refl _))
    have BRv255 := Lib.hid (BRv3.out.on bb (Nat.le_refl _))
    have E1v255 := Lib.hid (o1.wo HP1.out); clear o1
    clear bb
    obtain ⟨X256, hX256⟩ : ∃ X, X = v255.alloc (.cells #[.slice p1.a1 d1.hosts.length p1.c1, .slice p1.a2 d1.reps.length p1.c2] 36) := ⟨_, rfl⟩
    have b256 : Below v255.heap.size v255 X256 := by subst hX256; exact (Below.refl _ _).alloc (Nat.le_refl _) _
    have HBX256 := Lib.hid (below_join HBv255.out b256 HBv255.out.size)
    have AX256 := Lib.hid (Av255.out.on b256 (Nat.le_refl _))
    have BWX256 := Lib.hid (BWv255.out.on b256 (Nat.le_refl _))
    have BRX256 := Lib.hid (BRv255.out.on b256 (Nat.le_refl _))
    have E1X256 := Lib.hid (E1v255.out.on b256 (Nat.le_refl _))
    have B1X256 := Lib.hid (show Bx X256 v255.heap.size (woA p1 d1) 36 by subst hX256; exact bx_new _ _ _)
    clear b256
    obtain ⟨x0, x1⟩ := B1X256.out.wo
    obtain ⟨y0, y1⟩ := BRX256.out.rp
    rw [hX256] at x0 x1 y0 y1
    go_wp2_with (fail)
    rw [← hX256]
    clear hX256
    clear x0 x1 y0 y1
    go_at_call 29
    refine (c_stopTo p1 d1 x d 0 HT.out HL1.out.1 HL1.out.2 X256 E1X256.out).mono ?_
    rintro e v257 ⟨p2, rfl, o2, bb⟩
    have HBv257 := Lib.hid (below_join HBX256.out bb HBX256.out.size)
    have Av257 := Lib.hid (AX256.out.on bb (Nat.le_refl _))
    have BWv257 := Lib.hid (BWX256.out.on bb (Nat.le_refl _))
    have BRv257 := Lib.hid (BRX256.out.on bb (Nat.le_refl _))
    have E1v257 := Lib.hid (E1X256.out.on bb (Nat.le_refl _))
    have B1v257 := Lib.hid (B1X256.out.on bb (Nat.le_refl _))
    have E2v257 := Lib.hid (o2.wo hph.out); clear o2
    clear bb
    obtain ⟨X258, hX258⟩ : ∃ X, X = v257.alloc (.cells #[.slice p2.a1 d.hosts.length p2.c1, .slice p2.a2 d.reps.length p2.c2] 36) := ⟨_, rfl⟩
    have b258 : Below v257.heap.size v257 X258 := by subst hX258; exact (Below.refl _ _).alloc (Nat.le_refl _) _
    have HBX258 := Lib.hid (below_join HBv257.out b258 HBv257.out.size)
    have AX258 := Lib.hid (Av257.out.on b258 (Nat.le_refl _))
    have BWX258 := Lib.hid (BWv257.out.on b258 (Nat.le_refl _))
    have BRX258 := Lib.hid (BRv257.out.on b258 (Nat.le_refl _))
    have E1X258 := Lib.hid (E1v257.out.on b258 (Nat.le_refl _))
    have B1X258 := Lib.hid (B1v257.out.on b258 (Nat.le_refl _))
    have E2X258 := Lib.hid (E2v257.out.on b258 (Nat.le_refl _))
    have B2X258 := Lib.hid (show Bx X258 v257.heap.size (woA p2 d) 36 by subst hX258; exact bx_new _ _ _)
    clear b258
    obtain ⟨x0, x1⟩ := B2X258.out.wo
    obtain ⟨y0, y1⟩ := BWX258.out.wo
    rw [hX258] at x0 x1 y0 y1
    go_wp2_with (fail)
    rw [← hX258]
    clear hX258
    clear x0 x1 y0 y1
    go_at_call 28
    refine (c_sameTo p2 p d d true (same_refl d) X258 E2X258.out AX258.out).mono ?_
    rintro e v259 ⟨rfl, bb⟩
    have HBv259 := Lib.hid (below_join HBX258.out bb HBX258.out.size)
    have Av259 := Lib.hid (AX258.out.on bb (Nat.le_refl _))
    have BWv259 := Lib.hid (BWX258.out.on bb (Nat.le_refl _))
    have BRv259 := Lib.hid (BRX258.out.on bb (Nat.le_refl _))
    have E1v259 := Lib.hid (E1X258.out.on bb (Nat.le_refl _))
    have B1v259 := Lib.hid (B1X258.out.on bb (Nat.le_refl _))
    have E2v259 := Lib.hid (E2X258.out.on bb (Nat.le_refl _))
    have B2v259 := Lib.hid (B2X258.out.on bb (Nat.le_refl _))
    clear bb
    go_wp2_with (fail)
    go_at_call 11
    refine (HLV.out v259).mono ?_
    rintro e v260 ⟨rfl, bb⟩
    have HBv260 := Lib.hid (below_join HBv259.out bb HBv259.out.size)
    have Av260 := Lib.hid (Av259.out.on bb (Nat.le_refl _))
    have BWv260 := Lib.hid (BWv259.out.on bb (Nat.le_refl _))
    have BRv260 := Lib.hid (BRv259.out.on bb (Nat.le_refl _))
    have E1v260 := Lib.hid (E1v259.out.on bb (Nat.le_refl _))
    have B1v260 := Lib.hid (B1v259.out.on bb (Nat.le_refl _))
    have E2v260 := Lib.hid (E2v259.out.on bb (Nat.le_refl _))
    have B2v260 := Lib.hid (B2v259.out.on bb (Nat.le_refl _))
    clear bb
    go_wp2_with (fail)
    go_ret
    exact ⟨rfl, HBv260.out⟩
  · skip
    have HS := Lib.hid hS
    have hne : (n == 0) = false := by simpa using hn0
    have hne2 : (n != 0) = true := by simpa using hn0
    clear hS hn0
    obtain ⟨x0, x1⟩ := BWv3.out.wo
    obtain ⟨y0, y1⟩ := BRv3.out.rp
    go_wp2_with (fail)
    clear x0 x1 y0 y1
    go_at_call 26
    refine (c_startTo p d x zeroD n HS.out (by omega) (by omega) v3 Av3.out).mono ?_
    rintro e v411 ⟨p1, rfl, o1, bb⟩
    have HBv411 := Lib.hid (below_join HBv3.out bb HBv3.out.size)
    have Av411 := Lib.hid (Av3.out.on bb (Nat.le_refl _))
    have BWv411 := Lib.hid (BWv3.out.on bb (Nat.le_refl _))
    have BRv411 := Lib.hid (BRv3.out.on bb (Nat.le_refl _))
    clear o1
    clear bb
    obtain ⟨X412, hX412⟩ : ∃ X, X = v411.alloc (.cells #[.slice p1.a1 zeroD.hosts.length p1.c1, .slice p1.a2 zeroD.reps.length p1.c2] 36) := ⟨_, rfl⟩
    have b412 : Below v411.heap.size v411 X412 := by subst hX412; exact (Below.refl _ _).alloc (Nat.le_refl _) _
    have HBX412 := Lib.hid (below_join HBv411.out b412 HBv411.out.size)
    have AX412 := Lib.hid (Av411.out.on b412 (Nat.le_refl _))
    have BWX412 := Lib.hid (BWv411.out.on b412 (Nat.le_refl _))
    have BRX412 := Lib.hid (BRv411.out.on b412 (Nat.le_refl _))
    have B1X412 := Lib.hid (show Bx X412 v411.heap.size (woA p1 zeroD) 36 by subst hX412; exact bx_new _ _ _)
    clear b412
    obtain ⟨x0, x1⟩ := BWX412.out.wo
    obtain ⟨y0, y1⟩ := BRX412.out.rp
    rw [hX412] at x0 x1 y0 y1
    go_wp2_with (fail)
    rw [← hX412]
    clear hX412
    clear x0 x1 y0 y1
    rcases stopP_cases d x with ⟨hT, ha, hin⟩ | ⟨m, hm0, hT⟩
    · skip
      have HT := Lib.hid hT
      have HAA := Lib.hid ha
      have HIN := Lib.hid hin
      have hL := stopL_len ha hin
      obtain ⟨d2, hd2⟩ : ∃ d2 : WorldD, d2 = ⟨d.hosts, stopL d.reps x⟩ := ⟨_, rfl⟩
      have HD2 := Lib.hid hd2
      have HP2 := Lib.hid (show ∀ h ∈ d2.hosts, h.phase < 256 by rw [hd2]; exact hph.out)
      have HL2 := Lib.hid (show d2.reps.length ≤ 1000 ∧ d2.hosts.length ≤ 1000 by rw [hd2]; exact ⟨by simp only; omega, by simp only; omega⟩)
      have HLL := Lib.hid hL
      rw [← hd2] at HT
      clear hT ha hin hL hd2
      go_at_call 29
      refine (c_stopTo p d x d2 0 HT.out (by omega) (by omega) X412 AX412.out).mono ?_
      rintro e v613 ⟨p2, rfl, o2, bb⟩
      have HBv613 := Lib.hid (below_join HBX412.out bb HBX412.out.size)
      have Av613 := Lib.hid (AX412.out.on bb (Nat.le_refl _))
      have BWv613 := Lib.hid (BWX412.out.on bb (Nat.le_refl _))
      have BRv613 := Lib.hid (BRX412.out.on bb (Nat.le_refl _))
      have E2v613 := Lib.hid (o2.wo HP2.out); clear o2
      clear bb
      obtain ⟨X614, hX614⟩ : ∃ X, X = v613.alloc (.cells #[.slice p2.a1 d2.hosts.length p2.c1, .slice p2.a2 d2.reps.length p2.c2] 36) := ⟨_, rfl⟩
      have b614 : Below v613.heap.size v613 X614 := by subst hX614; exact (Below.refl _ _).alloc (Nat.le_refl _) _
      have HBX614 := Lib.hid (below_join HBv613.out b614 HBv613.out.size)
      have AX614 := Lib.hid (Av613.out.on b614 (Nat.le_refl _))
      have BWX614 := Lib.hid (BWv613.out.on b614 (Nat.le_refl _))
      have BRX614 := Lib.hid (BRv613.out.on b614 (Nat.le_refl _))
      have E2X614 := Lib.hid (E2v613.out.on b614 (Nat.le_refl _))
      have B2X614 := Lib.hid (show Bx X614 v613.heap.size (woA p2 d2) 36 by subst hX614; exact bx_new _ _ _)
      clear b614
      obtain ⟨x0, x1⟩ := BWX614.out.wo
      obtain ⟨y0, y1⟩ := BRX614.out.rp
      obtain ⟨z0, z1⟩ := B2X614.out.wo
      rw [hX614] at x0 x1 y0 y1 z0 z1
      rcases ha : decide (x.svc < 0) with _ | _
      rotate_left
      · skip
        go_wp2_with (fail)
        rw [← hX614]
        clear hX614
        go_at_call 11
        refine (HLV.out X614).mono ?_
        rintro e v915 ⟨rfl, bb⟩
        have HBv915 := Lib.hid (below_join HBX614.out bb HBX614.out.size)
        have Av915 := Lib.hid (AX614.out.on bb (Nat.le_refl _))
        have BWv915 := Lib.hid (BWX614.out.on bb (Nat.le_refl _))
        have BRv915 := Lib.hid (BRX614.out.on bb (Nat.le_refl _))
        have E2v915 := Lib.hid (E2X614.out.on bb (Nat.le_refl _))
        have B2v915 := Lib.hid (B2X614.out.on bb (Nat.le_refl _))
        clear bb
        go_wp2_with (fail)
        go_ret
        exact ⟨rfl, HBv915.out⟩
      rcases hb : decide (x.host < 0) with _ | _
      rotate_left
      · skip
        go_wp2_with (fail)
        rw [← hX614]
        clear hX614
        go_at_call 11
        refine (HLV.out X614).mono ?_
        rintro e v1266 ⟨rfl, bb⟩
        have HBv1266 := Lib.hid (below_join HBX614.out bb HBX614.out.size)
        have Av1266 := Lib.hid (AX614.out.on bb (Nat.le_refl _))
        have BWv1266 := Lib.hid (BWX614.out.on bb (Nat.le_refl _))
        have BRv1266 := Lib.hid (BRX614.out.on bb (Nat.le_refl _))
        have E2v1266 := Lib.hid (E2X614.out.on bb (Nat.le_refl _))
        have B2v1266 := Lib.hid (B2X614.out.on bb (Nat.le_refl _))
        clear bb
        go_wp2_with (fail)
        go_ret
        exact ⟨rfl, HBv1266.out⟩
      rcases hc : decide ((24 : Int) < (d.reps.length : Int)) with _ | _
      rotate_left
      · skip
        go_wp2_with (fail)
        rw [← hX614]
        clear hX614
        go_at_call 11
        refine (HLV.out X614).mono ?_
        rintro e v1617 ⟨rfl, bb⟩
        have HBv1617 := Lib.hid (below_join HBX614.out bb HBX614.out.size)
        have Av1617 := Lib.hid (AX614.out.on bb (Nat.le_refl _))
        have BWv1617 := Lib.hid (BWX614.out.on bb (Nat.le_refl _))
        have BRv1617 := Lib.hid (BRX614.out.on bb (Nat.le_refl _))
        have E2v1617 := Lib.hid (E2X614.out.on bb (Nat.le_refl _))
        have B2v1617 := Lib.hid (B2X614.out.on bb (Nat.le_refl _))
        clear bb
        go_wp2_with (fail)
        go_ret
        exact ⟨rfl, HBv1617.out⟩
      have HA0 := Lib.hid (of_decide_eq_false ha)
      have HB0 := Lib.hid (of_decide_eq_false hb)
      have HC0 := Lib.hid (of_decide_eq_false hc)
      have HU := Lib.hid (show startP d2 x = (d, 0) by
        have h1 := HA0.out
        have h2 := HB0.out
        have h3 := HC0.out
        have h4 := HLL.out
        rw [HD2.out, startP_ok (stopL_asc HAA.out HIN.out) (by omega) (by omega) (fun h => ((stopL_mem HAA.out HIN.out).1 h).2 rfl) (by simp only; omega)]
        simp only [start_stop HAA.out HIN.out])
      go_wp2_with (fail)
      rw [← hX614]
      clear hX614
      clear x0 x1 y0 y1 z0 z1
      go_at_call 26
      refine (c_startTo p2 d2 x d 0 HU.out HL2.out.1 HL2.out.2 X614 E2X614.out).mono ?_
      rintro e v1668 ⟨p3, rfl, o3, bb⟩
      have HBv1668 := Lib.hid (below_join HBX614.out bb HBX614.out.size)
      have Av1668 := Lib.hid (AX614.out.on bb (Nat.le_refl _))
      have BWv1668 := Lib.hid (BWX614.out.on bb (Nat.le_refl _))
      have BRv1668 := Lib.hid (BRX614.out.on bb (Nat.le_refl _))
      have E2v1668 := Lib.hid (E2X614.out.on bb (Nat.le_refl _))
      have B2v1668 := Lib.hid (B2X614.out.on bb (Nat.le_refl _))
      have E3v1668 := Lib.hid (o3.wo hph.out); clear o3
      clear bb
      obtain ⟨X1669, hX1669⟩ : ∃ X, X = v1668.alloc (.cells #[.slice p3.a1 d.hosts.length p3.c1, .slice p3.a2 d.reps.length p3.c2] 36) := ⟨_, rfl⟩
      have b1669 : Below v1668.heap.size v1668 X1669 := by subst hX1669; exact (Below.refl _ _).alloc (Nat.le_refl _) _
      have HBX1669 := Lib.hid (below_join HBv1668.out b1669 HBv1668.out.size)
      have AX1669 := Lib.hid (Av1668.out.on b1669 (Nat.le_refl _))
      have BWX1669 := Lib.hid (BWv1668.out.on b1669 (Nat.le_refl _))
      have BRX1669 := Lib.hid (BRv1668.out.on b1669 (Nat.le_refl _))
      have E2X1669 := Lib.hid (E2v1668.out.on b1669 (Nat.le_refl _))
      have B2X1669 := Lib.hid (B2v1668.out.on b1669 (Nat.le_refl _))
      have E3X1669 := Lib.hid (E3v1668.out.on b1669 (Nat.le_refl _))
      have B3X1669 := Lib.hid (show Bx X1669 v1668.heap.size (woA p3 d) 36 by subst hX1669; exact bx_new _ _ _)
      clear b1669
      obtain ⟨x0, x1⟩ := B3X1669.out.wo
      obtain ⟨y0, y1⟩ := BWX1669.out.wo
      rw [hX1669] at x0 x1 y0 y1
      go_wp2_with (fail)
      rw [← hX1669]
      clear hX1669
      clear x0 x1 y0 y1
      go_at_call 28
      refine (c_sameTo p3 p d d true (same_refl d) X1669 E3X1669.out AX1669.out).mono ?_
      rintro e v1670 ⟨rfl, bb⟩
      have HBv1670 := Lib.hid (below_join HBX1669.out bb HBX1669.out.size)
      have Av1670 := Lib.hid (AX1669.out.on bb (Nat.le_refl _))
      have BWv1670 := Lib.hid (BWX1669.out.on bb (Nat.le_refl _))
      have BRv1670 := Lib.hid (BRX1669.out.on bb (Nat.le_refl _))
      have E2v1670 := Lib.hid (E2X1669.out.on bb (Nat.le_refl _))
      have B2v1670 := Lib.hid (B2X1669.out.on bb (Nat.le_refl _))
      have E3v1670 := Lib.hid (E3X1669.out.on bb (Nat.le_refl _))
      have B3v1670 := Lib.hid (B3X1669.out.on bb (Nat.le_refl _))
      clear bb
      go_wp2_with (fail)
      go_at_call 11
      refine (HLV.out v1670).mono ?_
      rintro e v1671 ⟨rfl, bb⟩
      have HBv1671 := Lib.hid (below_join HBv1670.out bb HBv1670.out.size)
      have Av1671 := Lib.hid (Av1670.out.on bb (Nat.le_refl _))
      have BWv1671 := Lib.hid (BWv1670.out.on bb (Nat.le_refl _))
      have BRv1671 := Lib.hid (BRv1670.out.on bb (Nat.le_refl _))
      have E2v1671 := Lib.hid (E2v1670.out.on bb (Nat.le_refl _))
      have B2v1671 := Lib.hid (B2v1670.out.on bb (Nat.le_refl _))
      have E3v1671 := Lib.hid (E3v1670.out.on bb (Nat.le_refl _))
      have B3v1671 := Lib.hid (B3v1670.out.on bb (Nat.le_refl _))
      clear bb
      go_wp2_with (fail)
      go_ret
      exact ⟨rfl, HBv1671.out⟩
    · skip
      have HT := Lib.hid hT
      have hme2 : (m != 0) = true := by simpa using hm0
      clear hT hm0
      go_at_call 29
      refine (c_stopTo p d x zeroD m HT.out (by omega) (by omega) X412 AX412.out).mono ?_
      rintro e v1922 ⟨p2, rfl, o2, bb⟩
      have HBv1922 := Lib.hid (below_join HBX412.out bb HBX412.out.size)
      have Av1922 := Lib.hid (AX412.out.on bb (Nat.le_refl _))
      have BWv1922 := Lib.hid (BWX412.out.on bb (Nat.le_refl _))
      have BRv1922 := Lib.hid (BRX412.out.on bb (Nat.le_refl _))
      clear o2
      clear bb
      obtain ⟨X1923, hX1923⟩ : ∃ X, X = v1922.alloc (.cells #[.slice p2.a1 zeroD.hosts.length p2.c1, .slice p2.a2 zeroD.reps.length p2.c2] 36) := ⟨_, rfl⟩
      have b1923 : Below v1922.heap.size v1922 X1923 := by subst hX1923; exact (Below.refl _ _).alloc (Nat.le_refl _) _
      have HBX1923 := Lib.hid (below_join HBv1922.out b1923 HBv1922.out.size)
      have AX1923 := Lib.hid (Av1922.out.on b1923 (Nat.le_refl _))
      have BWX1923 := Lib.hid (BWv1922.out.on b1923 (Nat.le_refl _))
      have BRX1923 := Lib.hid (BRv1922.out.on b1923 (Nat.le_refl _))
      have B2X1923 := Lib.hid (show Bx X1923 v1922.heap.size (woA p2 zeroD) 36 by subst hX1923; exact bx_new _ _ _)
      clear b1923
      go_wp2_with (fail)
      rw [← hX1923]
      clear hX1923
      go_at_call 11
      refine (HLV.out X1923).mono ?_
      rintro e v1924 ⟨rfl, bb⟩
      have HBv1924 := Lib.hid (below_join HBX1923.out bb HBX1923.out.size)
      have Av1924 := Lib.hid (AX1923.out.on bb (Nat.le_refl _))
      have BWv1924 := Lib.hid (BWX1923.out.on bb (Nat.le_refl _))
      have BRv1924 := Lib.hid (BRX1923.out.on bb (Nat.le_refl _))
      have B2v1924 := Lib.hid (B2X1923.out.on bb (Nat.le_refl _))
      clear bb
      go_wp2_with (fail)
      go_ret
      exact ⟨rfl, HBv1924.out⟩
end Go.Proofs.Ytplncglgolhfaaa
