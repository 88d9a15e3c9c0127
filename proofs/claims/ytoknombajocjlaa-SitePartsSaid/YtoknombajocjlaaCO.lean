/-
  DERIVED. the law SiteParts (written by gen/site_CC.py).
-/
import Derived.Test.YtoknombajocjlaaBF
import Derived.Test.YtoknombajocjlaaAC
import Derived.OwnWalk
import Derived.Laws.CopyOwn
namespace Go.Proofs.Ytoknombajocjlaa
open Go.RowKit
set_option maxRecDepth 100000
set_option linter.unusedVariables false
set_option linter.unusedSimpArgs false

theorem own_block {w : World} {base n g : Nat} {T : TypeId} {xs : List Value} (h : w.ownsRow base T 1 (.slice (some ⟨g, 0, none⟩) n n) n xs) : w.heap[g]? = some (.cells xs.toArray T (0, 0)) := by
  obtain ⟨k1, ⟨e, -⟩ | ⟨g', cap', cur, e, k3, k4, k5, k6, k7, k8⟩⟩ := h
  · cases e
  · injection e with e1 _ e2
    injection e1 with e1
    injection e1 with e1
    subst e1 e2
    rw [k4]
    have hl : cur.toList = xs := by rw [← k8, List.take_of_length_le (by simp [k7])]
    rw [← hl]
/-- What has been counted, in memory. -/
def Seen (w : World) (g : Nat) (l : List Int) : Prop := w.heap[g]? = some (.cells (ints l).toArray 3 (0, 0))
theorem Seen.on {w w' : World} {g B : Nat} {l : List Int} (h : Seen w g l) (hb : Below B w w') (hB : w.heap.size ≤ B) : Seen w' g l := (hb.block _ (Nat.lt_of_lt_of_le (at_lt h) hB)).trans h
theorem Seen.cell {w : World} {g j : Nat} {l : List Int} {x : Int} (h : Seen w g l) (hj : l[j]? = some x) : w.cell? ⟨g, j, none⟩ = some (.int .i64 x) := cell_of h (by simp [ints, hj])
theorem Seen.set {w : World} {g j : Nat} {l : List Int} (h : Seen w g l) (x : Int) : Seen (w.setCell ⟨g, j, none⟩ (.int .i64 x)) g (l.set j x) := by
  have := set_field (o := j) h (.int .i64 x)
  unfold Seen
  rw [this]
  simp [ints, List.map_set]
theorem Rw.set {α : Type} {k : Nat} {F : α → Nat → Int} {w : World} {A : Option Addr} {c : Nat} {l : List α} {g j : Nat} {v : Value} (h : Rw k F w A c l) (hne : ∀ b o, A = some ⟨b, o, none⟩ → b ≠ g) : Rw k F (w.setCell ⟨g, j, none⟩ v) A c l := by
  obtain ⟨h1, h2, h4⟩ := h
  refine ⟨h1, h2, fun h0 => ?_⟩
  obtain ⟨b, o, e, hlt, hc⟩ := h4 h0
  refine ⟨b, o, e, by simpa [World.setCell] using hlt, fun q x hq i hi => ?_⟩
  have hb := hne b o e
  have e2 := hc q x hq i hi
  unfold World.cell? at e2 ⊢
  simp only at e2 ⊢
  rw [Below.heap_setCell _ ⟨g, j, none⟩ v b hb]
  exact e2
theorem own_ne {w : World} {base : Nat} {e : TypeId} {size n c g : Nat} {A : Option Addr} {xs : List Value} (h : w.ownsRow base e size (.slice A n c) n xs) (hg : g < base) : ∀ b o, A = some ⟨b, o, none⟩ → b ≠ g := by
  intro b o hA
  obtain ⟨k1, ⟨e, -⟩ | ⟨g', cap', cur, e, k3, -⟩⟩ := h
  · injection e with e1 _ _; rw [hA] at e1; cases e1
  · injection e with e1 _ _
    rw [hA] at e1
    injection e1 with e1
    injection e1 with e1 _
    omega
theorem cnt_le {s : SiteD} (h : SiteOk s) {d : Nat} (hd : 1 ≤ d ∧ d ≤ 5) : ∃ c : Nat, cntOf s d = c ∧ 1 ≤ c ∧ c ≤ 16 := by
  have h1 := h.nhosts; have h2 := h.nracks; have h3 := h.nfeeds; have h4 := h.nloops
  rcases (by omega : d = 1 ∨ d = 2 ∨ d = 3 ∨ d = 4 ∨ d = 5) with rfl | rfl | rfl | rfl | rfl
  · exact ⟨_, rfl, by omega, by omega⟩
  · exact ⟨_, rfl, by omega, by omega⟩
  · exact ⟨4, rfl, by omega, by omega⟩
  · exact ⟨_, rfl, by omega, by omega⟩
  · exact ⟨_, rfl, by omega, by omega⟩
set_option maxHeartbeats 64000000 in
theorem row_SiteParts (w : World) (p : SP) (s : SiteD) (h : SiAt w p s) :
    Calls Try.prog 5 #[siV p s] w fun e w' => e = .returned (.bool true) ∧ Below w.heap.size w w' := by
  obtain ⟨fw, hfw⟩ : ∃ b, fewB s = b := ⟨_, rfl⟩
  obtain ⟨ok, hok⟩ : ∃ b, siteOk s = b := ⟨_, rfl⟩
  have HW := Lib.hid (fun (X : World) (hX : SiAt X p s) => c_few p s fw hfw X hX)
  have HV := Lib.hid (fun (X : World) (hX : SiAt X p s) => c_srValid p s ok hok X hX)
  have HL := Lib.hid (fun (X : World) => c_live X)
  have HC := Lib.hid (fun (d : Nat) (hd : d < 256) (r : Int) (hr : cntD s d = r) (X : World) (hX : SiAt X p s) => c_Count p s d hd r hr X hX)
  have HM := Lib.hid (fun (d : Nat) (hd : d < 256) (n : Int) (X : World) (hX : SiAt X p s) => c_Members p s d hd n X hX)
  have HDD := Lib.hid (fun (d : Nat) (hd : d < 256) (host r : Int) (hr : domD s d host = r) (X : World) (hX : SiAt X p s) => c_DomainOf p s d hd host r hr X hX)
  have HOK := Lib.hid hok
  clear hfw hok
  unfold siV at HW HV HC HM HDD
  unfold siV
  obtain ⟨W, hW⟩ : ∃ W, W = w.alloc (.cells #[.slice p.a1 s.feeds.length p.c1, .slice p.a2 s.brks.length p.c2, .slice p.a3 s.loops.length p.c3, .slice p.a4 s.racks.length p.c4, .int .i64 s.sw, .slice p.a5 s.links.length p.c5, .slice p.a6 s.hosts.length p.c6] 29) := ⟨_, rfl⟩
  have B0 : Below w.heap.size w W := by subst hW; exact (Below.refl _ _).alloc (Nat.le_refl _) _
  have HB0 := Lib.hid B0
  have HX := Lib.hid (show SiBox W w.heap.size p s by subst hW; exact siBox_new _ _ _)
  have HA := Lib.hid (h.on B0 (Nat.le_refl _))
  have HF := Lib.hid (fun (X : World) (hX : Below W.heap.size W X) => (let z := HX.out.on hX (Nat.le_refl _); ⟨z.c0, z.c1, z.c2, z.c3, z.c4, z.c5, z.c6⟩ : X.cell? ⟨w.heap.size, 0, none⟩ = some (.slice p.a1 s.feeds.length p.c1) ∧ X.cell? ⟨w.heap.size, 1, none⟩ = some (.slice p.a2 s.brks.length p.c2) ∧ X.cell? ⟨w.heap.size, 2, none⟩ = some (.slice p.a3 s.loops.length p.c3) ∧ X.cell? ⟨w.heap.size, 3, none⟩ = some (.slice p.a4 s.racks.length p.c4) ∧ X.cell? ⟨w.heap.size, 4, none⟩ = some (.int .i64 s.sw) ∧ X.cell? ⟨w.heap.size, 5, none⟩ = some (.slice p.a5 s.links.length p.c5) ∧ X.cell? ⟨w.heap.size, 6, none⟩ = some (.slice p.a6 s.hosts.length p.c6)))
  have m1 := h.feeds.1; have m2 := h.brks.1; have m3 := h.loops.1; have m4 := h.racks.1; have m5 := h.links.1; have m6 := h.hosts.1
  have n1 := h.feeds.2.1; have n2 := h.brks.2.1; have n3 := h.loops.2.1; have n4 := h.racks.2.1; have n5 := h.links.2.1; have n6 := h.hosts.2.1
  unfold maxLen at n1 n2 n3 n4 n5 n6
  have KW := Lib.hid (Below.refl W.heap.size W)
  have hlw : w.heap.size < W.heap.size := HX.out.lt
  clear B0 h
  obtain ⟨i0, hi0, hzz0, hzz1, hzz2⟩ := info_parts int_info
  obtain ⟨f0, f1, f2, f3, f4, f5, f6⟩ := HF.out W KW.out
  rw [hW] at f0 f1 f2 f3 f4 f5 f6
  go_enter Try.func5, Try.ntmps5
  go_wp2_with (fail)
  rw [← hW]
  clear hW f0 f1 f2 f3 f4 f5 f6
  go_at_call 8
  refine (HW.out W HA.out).mono ?_
  rintro e w1 ⟨rfl, b1⟩
  have K1 := Lib.hid b1
  clear b1
  cases fw
  · skip
    go_wp2_with (fail)
    go_at_call 9
    refine (HL.out w1).mono ?_
    rintro e wz ⟨rfl, bz⟩
    have KZ := Lib.hid (below_join K1.out bz K1.out.size)
    clear bz
    go_wp2_with (fail)
    go_ret
    exact ⟨rfl, below_join HB0.out KZ.out HB0.out.size⟩
  obtain ⟨f0, f1, f2, f3, f4, f5, f6⟩ := HF.out w1 K1.out
  go_wp2_with (fail)
  clear f0 f1 f2 f3 f4 f5 f6
  go_at_call 11
  refine (HV.out w1 (HA.out.on K1.out (Nat.le_refl _))).mono ?_
  rintro e w2 ⟨rfl, b2⟩
  have K2 := Lib.hid (below_join K1.out b2 K1.out.size)
  clear b2
  cases ok
  · skip
    go_wp2_with (fail)
    go_at_call 9
    refine (HL.out w2).mono ?_
    rintro e wz ⟨rfl, bz⟩
    have KZ := Lib.hid (below_join K2.out bz K2.out.size)
    clear bz
    go_wp2_with (fail)
    go_ret
    exact ⟨rfl, below_join HB0.out KZ.out HB0.out.size⟩
  have HSOK := Lib.hid (siteOk_iff.1 HOK.out)
  have hnh := HSOK.out.nhosts
  go_wp2_with (fail)
  go_loopw [3] (fun v wr => ∃ d : Nat, (1 ≤ d ∧ d ≤ 6) ∧ v = .int .u8 (d : Int) ∧ Hid (Below W.heap.size W wr)) (fun v _ => 6 - (intOf v).toNat)
  case atStart => exact ⟨1, by omega, rfl, K2⟩
  case round =>
    obtain ⟨d, hd, rfl, hB⟩ := hrel
    obtain ⟨wa, hwa⟩ : ∃ z, z = wr := ⟨_, rfl⟩
    subst hwa
    have HDR := Lib.hid hd
    have hdi : ((d : Nat) : Int).toNat = d := by omega
    by_cases hlt : d ≤ 5
    rotate_left
    · obtain rfl : d = 6 := by omega
      clear hlt
      go_wp2_with (fail)
      go_at_call 9
      refine (HL.out wa).mono ?_
      rintro e wz ⟨rfl, bz⟩
      have KZ := Lib.hid (below_join hB.out bz hB.out.size)
      clear bz
      go_wp2_with (fail)
      go_ret
      exact ⟨rfl, below_join HB0.out KZ.out HB0.out.size⟩
    have hdle : (d : Int) ≤ 5 := by omega
    obtain ⟨c, hc, hc1, hc16⟩ := cnt_le HSOK.out (d := d) ⟨hd.1, hlt⟩
    have HCD := Lib.hid (show cntD s d = (c : Int) by unfold cntD; rw [HOK.out, ← hc]; rfl)
    have HCC := Lib.hid hc
    have t1 : decide ((c : Int) < 1) = false := decide_eq_false (by omega)
    have t2 : decide ((100 : Int) < (c : Int)) = false := decide_eq_false (by omega)
    have HD5 := Lib.hid (show 1 ≤ d ∧ d ≤ 5 from ⟨hd.1, hlt⟩)
    clear hc
    obtain ⟨f0, f1, f2, f3, f4, f5, f6⟩ := HF.out wa hB.out
    have hBs := hB.out.size
    go_wp2_with (at_make; refine wpList_make_full (P := Try.prog) _ rfl _ _ 37 rfl wa.heap.size 3 i0 (.int .i64 0) 1 Try.underlying37 hi0 hzz0 hzz1 .i64 .i64 _ _ s.hosts.length rfl rfl rfl rfl (by rw [hzz2]; omega) (by unfold maxLen; omega) (Nat.le_refl _) ?_; intro w3 ho2 hg2; have HO2 := Lib.hid ho2; have HBE2 := Lib.hid ((Below.refl wa.heap.size wa).grown hg2 (Nat.le_refl _) (fun k hk => by cases hk)); clear ho2 hg2; obtain ⟨q0, q1, q2, q3, q4, q5, q6⟩ := HF.out w3 (below_join hB.out HBE2.out hB.out.size))
    clear f0 f1 f2 f3 f4 f5 f6 q0 q1 q2 q3 q4 q5 q6
    obtain ⟨g, hgb⟩ : ∃ g, g = wa.heap.size := ⟨_, rfl⟩
    rw [← hgb] at HO2 ⊢
    have K3 := Lib.hid (below_join hB.out HBE2.out hB.out.size)
    have S3 := Lib.hid (show Seen w3 g (List.replicate s.hosts.length 0) by
      have h := own_block HO2.out
      rw [show (Value.int .i64 0).cells = #[.int .i64 0] from rfl, Nat.mul_one, toList_madeCells_one] at h
      unfold Seen
      rw [h]
      simp [ints])
    have hgl : g < w3.heap.size := at_lt S3.out
    have hgW : W.heap.size ≤ g := by omega
    clear HO2 hgb
    go_at_call 12
    refine (HC.out d (by omega) (c : Int) HCD.out w3 (HA.out.on K3.out (Nat.le_refl _))).mono ?_
    rintro e w4 ⟨rfl, b4⟩
    have K4 := Lib.hid (below_join K3.out b4 K3.out.size)
    have S4 := Lib.hid (S3.out.on b4 (Nat.le_refl _))
    have hg4 := at_lt S4.out
    clear b4
    go_wp2_with (fail)
    have HZ := Lib.hid (seenI_zero HSOK.out HD5.out)
    go_loopw [6] (fun v wr => ∃ i : Nat, i ≤ c ∧ v = .int .i64 (i : Int) ∧ Hid (Below W.heap.size W wr) ∧ Hid (Seen wr g (seenI s d i))) (fun v _ => c - (intOf v).toNat)
    case atStart => exact ⟨0, Nat.zero_le _, rfl, K4, Lib.hid (by rw [show ((0 : Nat) : Int) = 0 from rfl, HZ.out]; exact S4.out)⟩
    case round =>
      obtain ⟨i, hi, rfl, hBi, hSi⟩ := hrel
      obtain ⟨wb, hwb⟩ : ∃ z, z = wr := ⟨_, rfl⟩
      subst hwb
      have hii : ((i : Nat) : Int).toNat = i := by omega
      by_cases hil : i < c
      · have hilc : (i : Int) < (c : Int) := by omega
        obtain ⟨f0, f1, f2, f3, f4, f5, f6⟩ := HF.out wb hBi.out
        have hgb2 := at_lt hSi.out
        have HMM := Lib.hid (show memD s d (i : Int) = nats (hostsOf s d i) by unfold memD; rw [if_pos (ixB_iff.2 (by rw [HCD.out]; omega))]; rfl)
        have HMC := Lib.hid (HM.out d (by omega) (i : Int) wb (HA.out.on hBi.out (Nat.le_refl _)))
        rw [HMM.out] at HMC
        go_wp2_with (fail)
        clear f0 f1 f2 f3 f4 f5 f6
        go_at_call 17
        refine HMC.out.mono ?_
        rintro e w5 ⟨v5, rfl, ho5, b5⟩
        obtain ⟨Am, cm, rfl, hr5⟩ := own_rw ho5
        have HNE := Lib.hid (own_ne ho5 hgb2)
        have R5 := Lib.hid hr5
        have K5 := Lib.hid (below_join hBi.out b5 hBi.out.size)
        have S5 := Lib.hid (show Seen w5 g (seenK s d i 0) by rw [seenK_zero]; exact hSi.out.on b5 (Nat.le_refl _))
        have hml : (nats (hostsOf s d i)).length ≤ 16 := by rw [nats_len]; unfold hostsOf; exact Nat.le_trans (List.length_filter_le _ _) (by rw [List.length_range]; omega)
        obtain ⟨m, hm⟩ : ∃ m, nats (hostsOf s d i) = m := ⟨_, rfl⟩
        have HMD := Lib.hid hm
        rw [hm] at R5 hml ⊢
        clear hm ho5 hr5 b5
        go_wp2_with (fail)
        go_loopw [8] (fun v wr => ∃ k : Nat, k ≤ m.length ∧ v = .int .i64 (k : Int) ∧ Hid (Below W.heap.size W wr) ∧ Hid (Seen wr g (seenK s d i k)) ∧ Hid (Rw 1 inF wr Am cm m)) (fun v _ => m.length - (intOf v).toNat)
        case atStart => exact ⟨0, Nat.zero_le _, rfl, K5, S5, R5⟩
        case round =>
          obtain ⟨k, hk, rfl, hBk, hSk, hRk⟩ := hrel
          obtain ⟨wc, hwc⟩ : ∃ z, z = wr := ⟨_, rfl⟩
          subst hwc
          have hkk : ((k : Nat) : Int).toNat = k := by omega
          by_cases hkl : k < m.length
          · have hklc : (k : Int) < (m.length : Int) := by omega
            obtain ⟨h, hh⟩ : ∃ h, (hostsOf s d i)[k]? = some h := ⟨_, List.getElem?_eq_getElem (by rw [← nats_len, HMD.out]; exact hkl)⟩
            have hmk : m[k]? = some (h : Int) := by rw [← HMD.out]; simp [nats, hh]
            have HHH := Lib.hid hh
            have hmem := hostsOf_mem.1 (List.mem_of_getElem? hh)
            obtain ⟨z, hz⟩ : ∃ z : Int, z = (h : Int) := ⟨_, rfl⟩
            rw [← hz] at hmk
            have hzz : z.toNat = h := by omega
            have z0 : 0 ≤ z := by omega
            have z1 : z < (s.hosts.length : Int) := by have := hmem.1; omega
            have g1 : decide (z < 0) = false := decide_eq_false (by omega)
            have g2 : decide ((s.hosts.length : Int) ≤ z) = false := decide_eq_false (by omega)
            have g3 : ((i : Int) != (i : Int)) = false := by simp
            have HDO := Lib.hid (show domD s d z = (i : Int) by unfold domD; rw [if_pos ⟨HOK.out, HD5.out, ixB_iff.2 ⟨z0, z1⟩⟩, hzz]; exact hmem.2)
            have HK := hRk.out
            obtain ⟨lb, lo, rfl, -, -⟩ := HK.at_ hmk
            have HXF := Lib.hid (fun (X : World) (hX : Below wc.heap.size wc X) => (⟨HF.out X (below_join hBk.out hX hBk.out.size), inRw (HK.on hX (Nat.le_refl _)) hmk⟩ : (X.cell? ⟨w.heap.size, 0, none⟩ = some (.slice p.a1 s.feeds.length p.c1) ∧ X.cell? ⟨w.heap.size, 1, none⟩ = some (.slice p.a2 s.brks.length p.c2) ∧ X.cell? ⟨w.heap.size, 2, none⟩ = some (.slice p.a3 s.loops.length p.c3) ∧ X.cell? ⟨w.heap.size, 3, none⟩ = some (.slice p.a4 s.racks.length p.c4) ∧ X.cell? ⟨w.heap.size, 4, none⟩ = some (.int .i64 s.sw) ∧ X.cell? ⟨w.heap.size, 5, none⟩ = some (.slice p.a5 s.links.length p.c5) ∧ X.cell? ⟨w.heap.size, 6, none⟩ = some (.slice p.a6 s.hosts.length p.c6)) ∧ X.cell? ⟨lb, lo + k, none⟩ = some (.int .i64 z)))
            have HDZ := Lib.hid (fun (X : World) (hX : Below wc.heap.size wc X) => HDD.out d (by have := HD5.out; omega) z (i : Int) HDO.out X (HA.out.on (below_join hBk.out hX hBk.out.size) (Nat.le_refl _)))
            have HMK := Lib.hid hmk
            have hcm := HK.1
            have hcm2 := HK.2.1
            unfold maxLen at hcm2
            clear hh hmem hz HK hmk
            have x9 := (HXF.out wc (Below.refl _ _)).2
            obtain ⟨f0, f1, f2, f3, f4, f5, f6⟩ := (HXF.out wc (Below.refl _ _)).1
            rcases Nat.eq_zero_or_pos k with hk0 | hk0
            · subst hk0
              simp only [Nat.add_zero] at x9
              go_wp2_with (fail)
              refine wp_region_held_drew (S := fun X => (X.cell? ⟨w.heap.size, 0, none⟩ = some (.slice p.a1 s.feeds.length p.c1) ∧ X.cell? ⟨w.heap.size, 1, none⟩ = some (.slice p.a2 s.brks.length p.c2) ∧ X.cell? ⟨w.heap.size, 2, none⟩ = some (.slice p.a3 s.loops.length p.c3) ∧ X.cell? ⟨w.heap.size, 3, none⟩ = some (.slice p.a4 s.racks.length p.c4) ∧ X.cell? ⟨w.heap.size, 4, none⟩ = some (.int .i64 s.sw) ∧ X.cell? ⟨w.heap.size, 5, none⟩ = some (.slice p.a5 s.links.length p.c5) ∧ X.cell? ⟨w.heap.size, 6, none⟩ = some (.slice p.a6 s.hosts.length p.c6)) ∧ X.cell? ⟨lb, lo, none⟩ = some (.int .i64 z)) (by kernel_rfl) (⟨(HXF.out wc (Below.refl _ _)).1, x9⟩) (fun hHeld => ?_)
              refine takeH (i := 0) 51 (v := ?_) rfl rfl (by kernel_rfl) (by kernel_rfl) (by kernel_rfl) (fun _ _ _ h => h) (by rfl) ?_ hHeld ?_
              rotate_left
              · intro X hX; (try dsimp only at hX); (first | (go_simp; done) | (go_simp; with_reducible rfl))
              try simp only [Act.put, List.setIfInBounds_toArray, List.set_cons_zero, List.set_cons_succ]
              refine takeH (i := 1) 52 (v := ?_) rfl rfl (by kernel_rfl) (by kernel_rfl) (by kernel_rfl) (fun _ _ _ h => h) (by rfl) ?_ hHeld ?_
              rotate_left
              · intro X hX; (try dsimp only at hX); (first | (go_simp; done) | (go_simp; with_reducible rfl))
              try simp only [Act.put, List.setIfInBounds_toArray, List.set_cons_zero, List.set_cons_succ]
              refine takeH (i := 2) 53 (v := ?_) rfl rfl (by kernel_rfl) (by kernel_rfl) (by kernel_rfl) (fun _ _ _ h => h) (by rfl) ?_ hHeld ?_
              rotate_left
              · intro X hX; (try dsimp only at hX); (first | (go_simp; done) | (go_simp; with_reducible rfl))
              try simp only [Act.put, List.setIfInBounds_toArray, List.set_cons_zero, List.set_cons_succ]
              refine takeH (i := 3) 54 (v := ?_) rfl rfl (by kernel_rfl) (by kernel_rfl) (by kernel_rfl) (fun _ _ _ h => h) (by rfl) ?_ hHeld ?_
              rotate_left
              · intro X hX; (try dsimp only at hX); (first | (go_simp; done) | (go_simp; with_reducible rfl))
              try simp only [Act.put, List.setIfInBounds_toArray, List.set_cons_zero, List.set_cons_succ]
              refine takeH (i := 4) 55 (v := ?_) rfl rfl (by kernel_rfl) (by kernel_rfl) (by kernel_rfl) (fun _ _ _ h => h) (by rfl) ?_ hHeld ?_
              rotate_left
              · intro X hX; (try dsimp only at hX); (first | (go_simp; done) | (go_simp; with_reducible rfl))
              try simp only [Act.put, List.setIfInBounds_toArray, List.set_cons_zero, List.set_cons_succ]
              refine takeH (i := 5) 56 (v := ?_) rfl rfl (by kernel_rfl) (by kernel_rfl) (by kernel_rfl) (fun _ _ _ h => h) (by rfl) ?_ hHeld ?_
              rotate_left
              · intro X hX; (try dsimp only at hX); (first | (go_simp; done) | (go_simp; with_reducible rfl))
              try simp only [Act.put, List.setIfInBounds_toArray, List.set_cons_zero, List.set_cons_succ]
              refine takeH (i := 6) 57 (v := ?_) rfl rfl (by kernel_rfl) (by kernel_rfl) (by kernel_rfl) (fun _ _ _ h => h) (by rfl) ?_ hHeld ?_
              rotate_left
              · intro X hX; (try dsimp only at hX); (first | (go_simp; done) | (go_simp; with_reducible rfl))
              try simp only [Act.put, List.setIfInBounds_toArray, List.set_cons_zero, List.set_cons_succ]
              refine takeH (i := 7) 58 (v := ?_) rfl rfl (by kernel_rfl) (by kernel_rfl) (by kernel_rfl) (fun _ _ _ h => h) (by rfl) ?_ hHeld ?_
              rotate_left
              · intro X hX; (try dsimp only at hX); (first | (go_simp; done) | (go_simp; with_reducible rfl))
              try simp only [Act.put, List.setIfInBounds_toArray, List.set_cons_zero, List.set_cons_succ]
              refine takeH (i := 8) 59 (v := ?_) rfl rfl (by kernel_rfl) (by kernel_rfl) (by kernel_rfl) (fun _ _ _ h => h) (by rfl) ?_ hHeld ?_
              rotate_left
              · intro X hX; (try dsimp only at hX); (first | (go_simp; done) | (go_simp; with_reducible rfl))
              try simp only [Act.put, List.setIfInBounds_toArray, List.set_cons_zero, List.set_cons_succ]
              refine takeH (i := 9) 60 (v := ?_) rfl rfl (by kernel_rfl) (by kernel_rfl) (by kernel_rfl) (fun _ _ _ h => h) (by rfl) ?_ hHeld ?_
              rotate_left
              · intro X hX; (try dsimp only at hX); (first | (go_simp; done) | (go_simp; with_reducible rfl))
              try simp only [Act.put, List.setIfInBounds_toArray, List.set_cons_zero, List.set_cons_succ]
              refine takeH (i := 10) 61 (v := ?_) rfl rfl (by kernel_rfl) (by kernel_rfl) (by kernel_rfl) (fun _ _ _ h => h) (by rfl) ?_ hHeld ?_
              rotate_left
              · intro X hX; (try dsimp only at hX); (first | (go_simp; done) | (go_simp; with_reducible rfl))
              try simp only [Act.put, List.setIfInBounds_toArray, List.set_cons_zero, List.set_cons_succ]
              refine takeH (i := 11) 62 (v := ?_) rfl rfl (by kernel_rfl) (by kernel_rfl) (by kernel_rfl) (fun _ _ _ h => h) (by rfl) ?_ hHeld ?_
              rotate_left
              · intro X hX; (try dsimp only at hX); (first | (go_simp; done) | (go_simp; with_reducible rfl))
              try simp only [Act.put, List.setIfInBounds_toArray, List.set_cons_zero, List.set_cons_succ]
              refine takeH (i := 12) 63 (v := ?_) rfl rfl (by kernel_rfl) (by kernel_rfl) (by kernel_rfl) (fun _ _ _ h => h) (by rfl) ?_ hHeld ?_
              rotate_left
              · intro X hX; (try dsimp only at hX); (first | (go_simp; done) | (go_simp; with_reducible rfl))
              try simp only [Act.put, List.setIfInBounds_toArray, List.set_cons_zero, List.set_cons_succ]
              refine takeH (i := 13) 64 (v := ?_) rfl rfl (by kernel_rfl) (by kernel_rfl) (by kernel_rfl) (fun _ _ _ h => h) (by rfl) ?_ hHeld ?_
              rotate_left
              · intro X hX; (try dsimp only at hX); (first | (go_simp; done) | (go_simp; with_reducible rfl))
              try simp only [Act.put, List.setIfInBounds_toArray, List.set_cons_zero, List.set_cons_succ]
              refine takeH (i := 14) 65 (v := ?_) rfl rfl (by kernel_rfl) (by kernel_rfl) (by kernel_rfl) (fun _ _ _ h => h) (by rfl) ?_ hHeld ?_
              rotate_left
              · intro X hX; (try dsimp only at hX); (first | (go_simp; done) | (go_simp; with_reducible rfl))
              try simp only [Act.put, List.setIfInBounds_toArray, List.set_cons_zero, List.set_cons_succ]
              refine takeH (i := 15) 66 (v := ?_) rfl rfl (by kernel_rfl) (by kernel_rfl) (by kernel_rfl) (fun _ _ _ h => h) (by rfl) ?_ hHeld ?_
              rotate_left
              · intro X hX; (try dsimp only at hX); (first | (go_simp; done) | (go_simp; with_reducible rfl))
              try simp only [Act.put, List.setIfInBounds_toArray, List.set_cons_zero, List.set_cons_succ]
              refine takeH (i := 16) 67 (v := ?_) rfl rfl (by kernel_rfl) (by kernel_rfl) (by kernel_rfl) (fun _ _ _ h => h) (by rfl) ?_ hHeld ?_
              rotate_left
              · intro X hX; (try dsimp only at hX); (first | (go_simp; done) | (go_simp; with_reducible rfl))
              try simp only [Act.put, List.setIfInBounds_toArray, List.set_cons_zero, List.set_cons_succ]
              refine takeH (i := 17) 68 (v := ?_) rfl rfl (by kernel_rfl) (by kernel_rfl) (by kernel_rfl) (fun _ _ _ h => h) (by rfl) ?_ hHeld ?_
              rotate_left
              · intro X hX; (try dsimp only at hX); (first | (go_simp; done) | (go_simp; with_reducible rfl))
              try simp only [Act.put, List.setIfInBounds_toArray, List.set_cons_zero, List.set_cons_succ]
              refine skipH (i := 18) 69 rfl rfl (by kernel_rfl) (by kernel_rfl) (by kernel_rfl) (fun _ _ _ h => h) (by rfl) hHeld ?_
              try simp only [Act.put, List.setIfInBounds_toArray, List.set_cons_zero, List.set_cons_succ]
              refine skipH (i := 19) 70 rfl rfl (by kernel_rfl) (by kernel_rfl) (by kernel_rfl) (fun _ _ _ h => h) (by rfl) hHeld ?_
              try simp only [Act.put, List.setIfInBounds_toArray, List.set_cons_zero, List.set_cons_succ]
              refine skipH (i := 20) 71 rfl rfl (by kernel_rfl) (by kernel_rfl) (by kernel_rfl) (fun _ _ _ h => h) (by rfl) hHeld ?_
              try simp only [Act.put, List.setIfInBounds_toArray, List.set_cons_zero, List.set_cons_succ]
              refine skipH (i := 21) 72 rfl rfl (by kernel_rfl) (by kernel_rfl) (by kernel_rfl) (fun _ _ _ h => h) (by rfl) hHeld ?_
              try simp only [Act.put, List.setIfInBounds_toArray, List.set_cons_zero, List.set_cons_succ]
              refine skipH (i := 22) 73 rfl rfl (by kernel_rfl) (by kernel_rfl) (by kernel_rfl) (fun _ _ _ h => h) (by rfl) hHeld ?_
              try simp only [Act.put, List.setIfInBounds_toArray, List.set_cons_zero, List.set_cons_succ]
              refine skipH (i := 23) 74 rfl rfl (by kernel_rfl) (by kernel_rfl) (by kernel_rfl) (fun _ _ _ h => h) (by rfl) hHeld ?_
              try simp only [Act.put, List.setIfInBounds_toArray, List.set_cons_zero, List.set_cons_succ]
              refine skipH (i := 24) 75 rfl rfl (by kernel_rfl) (by kernel_rfl) (by kernel_rfl) (fun _ _ _ h => h) (by rfl) hHeld ?_
              try simp only [Act.put, List.setIfInBounds_toArray, List.set_cons_zero, List.set_cons_succ]
              refine skipH (i := 25) 76 rfl rfl (by kernel_rfl) (by kernel_rfl) (by kernel_rfl) (fun _ _ _ h => h) (by rfl) hHeld ?_
              try simp only [Act.put, List.setIfInBounds_toArray, List.set_cons_zero, List.set_cons_succ]
              refine skipH (i := 26) 77 rfl rfl (by kernel_rfl) (by kernel_rfl) (by kernel_rfl) (fun _ _ _ h => h) (by rfl) hHeld ?_
              try simp only [Act.put, List.setIfInBounds_toArray, List.set_cons_zero, List.set_cons_succ]
              refine skipH (i := 27) 78 rfl rfl (by kernel_rfl) (by kernel_rfl) (by kernel_rfl) (fun _ _ _ h => h) (by rfl) hHeld ?_
              try simp only [Act.put, List.setIfInBounds_toArray, List.set_cons_zero, List.set_cons_succ]
              refine takeH (i := 28) 79 (v := ?_) rfl rfl (by kernel_rfl) (by kernel_rfl) (by kernel_rfl) (fun _ _ _ h => h) (by rfl) ?_ hHeld ?_
              rotate_left
              · intro X hX; (try dsimp only at hX); (first | (go_simp; done) | (go_simp; with_reducible rfl))
              try simp only [Act.put, List.setIfInBounds_toArray, List.set_cons_zero, List.set_cons_succ]
              refine takeH (i := 29) 80 (v := ?_) rfl rfl (by kernel_rfl) (by kernel_rfl) (by kernel_rfl) (fun _ _ _ h => h) (by rfl) ?_ hHeld ?_
              rotate_left
              · intro X hX; (try dsimp only at hX); (first | (go_simp; done) | (go_simp; with_reducible rfl))
              try simp only [Act.put, List.setIfInBounds_toArray, List.set_cons_zero, List.set_cons_succ]
              refine takeH (i := 30) 81 (v := ?_) rfl rfl (by kernel_rfl) (by kernel_rfl) (by kernel_rfl) (fun _ _ _ h => h) (by rfl) ?_ hHeld ?_
              rotate_left
              · intro X hX; (try dsimp only at hX); (first | (go_simp; done) | (go_simp; with_reducible rfl))
              try simp only [Act.put, List.setIfInBounds_toArray, List.set_cons_zero, List.set_cons_succ]
              refine takeH (i := 31) 82 (v := ?_) rfl rfl (by kernel_rfl) (by kernel_rfl) (by kernel_rfl) (fun _ _ _ h => h) (by rfl) ?_ hHeld ?_
              rotate_left
              · intro X hX; (try dsimp only at hX); (first | (go_simp; done) | (go_simp; with_reducible rfl))
              try simp only [Act.put, List.setIfInBounds_toArray, List.set_cons_zero, List.set_cons_succ]
              refine takeH (i := 32) 83 (v := ?_) rfl rfl (by kernel_rfl) (by kernel_rfl) (by kernel_rfl) (fun _ _ _ h => h) (by rfl) ?_ hHeld ?_
              rotate_left
              · intro X hX; (try dsimp only at hX); (first | (go_simp; done) | (go_simp; with_reducible rfl))
              try simp only [Act.put, List.setIfInBounds_toArray, List.set_cons_zero, List.set_cons_succ]
              refine takeH (i := 33) 84 (v := ?_) rfl rfl (by kernel_rfl) (by kernel_rfl) (by kernel_rfl) (fun _ _ _ h => h) (by rfl) ?_ hHeld ?_
              rotate_left
              · intro X hX; (try dsimp only at hX); (first | (go_simp; done) | (go_simp; with_reducible rfl))
              try simp only [Act.put, List.setIfInBounds_toArray, List.set_cons_zero, List.set_cons_succ]
              refine takeH (i := 34) 85 (v := ?_) rfl rfl (by kernel_rfl) (by kernel_rfl) (by kernel_rfl) (fun _ _ _ h => h) (by rfl) ?_ hHeld ?_
              rotate_left
              · intro X hX; (try dsimp only at hX); (first | (go_simp; done) | (go_simp; with_reducible rfl))
              try simp only [Act.put, List.setIfInBounds_toArray, List.set_cons_zero, List.set_cons_succ]
              refine takeH (i := 35) 86 (v := ?_) rfl rfl (by kernel_rfl) (by kernel_rfl) (by kernel_rfl) (fun _ _ _ h => h) (by rfl) ?_ hHeld ?_
              rotate_left
              · intro X hX; (try dsimp only at hX); (first | (go_simp; done) | (go_simp; with_reducible rfl))
              try simp only [Act.put, List.setIfInBounds_toArray, List.set_cons_zero, List.set_cons_succ]
              refine takeH (i := 36) 87 (v := ?_) rfl rfl (by kernel_rfl) (by kernel_rfl) (by kernel_rfl) (fun _ _ _ h => h) (by rfl) ?_ hHeld ?_
              rotate_left
              · intro X hX; (try dsimp only at hX); (first | (go_simp; done) | (go_simp; with_reducible rfl))
              try simp only [Act.put, List.setIfInBounds_toArray, List.set_cons_zero, List.set_cons_succ]
              refine takeH (i := 38) 89 (v := ?_) rfl rfl (by kernel_rfl) (by kernel_rfl) (by kernel_rfl) (fun _ _ _ h => h) (by rfl) ?_ hHeld ?_
              rotate_left
              · intro X hX; (try dsimp only at hX); (first | (go_simp; done) | (go_simp; with_reducible rfl))
              try simp only [Act.put, List.setIfInBounds_toArray, List.set_cons_zero, List.set_cons_succ]
              refine wpAnyH_ready (rs := [37]) (by kernel_rfl) (by simp) ?_
              refine AllReadyH.cons rfl (fun K hK => ?_) AllReadyH.nil
              go_simp
              go_at_call 14; (with_reducible refine (HDZ.out wc.drew (Below.refl _ _).drew).mono ?_); rintro e w6 ⟨rfl, bb⟩; have B6 := Lib.hid (below_join (Below.refl wc.heap.size wc).drew bb (Nat.le_refl _)); clear bb
              try dsimp only
              refine hK.out _ _ (⟨(HXF.out w6 B6.out).1, by have h := (HXF.out w6 B6.out).2; simpa using h⟩) (fun hHeld2 => ?_)
              clear hK K hHeld
              have hHeld := hHeld2
              clear hHeld2
              try simp only [Act.put, List.setIfInBounds_toArray, List.set_cons_zero, List.set_cons_succ]
              refine takeH (i := 39) 90 (v := ?_) rfl rfl (by kernel_rfl) (by kernel_rfl) (by kernel_rfl) (fun _ _ _ h => h) (by rfl) ?_ hHeld ?_
              rotate_left
              · intro X hX; (try dsimp only at hX); (first | (go_simp; done) | (go_simp; with_reducible rfl))
              try simp only [Act.put, List.setIfInBounds_toArray, List.set_cons_zero, List.set_cons_succ]
              refine takeH (i := 40) 91 (v := ?_) rfl rfl (by kernel_rfl) (by kernel_rfl) (by kernel_rfl) (fun _ _ _ h => h) (by rfl) ?_ hHeld ?_
              rotate_left
              · intro X hX; (try dsimp only at hX); (first | (go_simp; done) | (go_simp; with_reducible rfl))
              try simp only [Act.put, List.setIfInBounds_toArray, List.set_cons_zero, List.set_cons_succ]
              refine wpAnyH_done (by kernel_rfl) ?_ _
              have K6 := Lib.hid (below_join hBk.out B6.out hBk.out.size)
              have S6 := Lib.hid (hSk.out.on B6.out (Nat.le_refl _))
              have R6 := Lib.hid (hRk.out.on B6.out (Nat.le_refl _))
              have y9 := (HXF.out w6 B6.out).2
              have y8 : w6.cell? ⟨g, h, none⟩ = some (.int .i64 0) := S6.out.cell (seenK_at HHH.out)
              have y7 := frz S6.out h
              have SN := Lib.hid (show Seen (w6.setCell ⟨g, h, none⟩ (.int .i64 1)) g (seenK s d i (0 + 1)) by rw [← seenK_set HHH.out]; exact S6.out.set 1)
              have RN := Lib.hid (R6.out.set (j := h) (v := .int .i64 1) HNE.out)
              have KN := Lib.hid (K6.out.setCell (p := ⟨g, h, none⟩) hgW (.int .i64 1))
              simp only [Nat.add_zero] at y9
              go_wp2_with (fail)
              go_roundw
              case rel => exact ⟨0 + 1, by omega, by go_num, KN, SN, RN⟩
              case measure => simp only [intOf]; omega
            · obtain ⟨q, hq⟩ : ∃ q, k = q + 1 := ⟨k - 1, by omega⟩
              obtain ⟨h', hh'⟩ : ∃ h', (hostsOf s d i)[q]? = some h' := ⟨_, List.getElem?_eq_getElem (by rw [← nats_len, HMD.out]; omega)⟩
              have hlt2 := hostsOf_lt hh' HHH.out (by omega)
              have hmq : m[q]? = some (h' : Int) := by rw [← HMD.out]; simp [nats, hh']
              obtain ⟨y, hy⟩ : ∃ y : Int, y = (h' : Int) := ⟨_, rfl⟩
              rw [← hy] at hmq
              have g4 : decide (z ≤ y) = false := decide_eq_false (by omega)
              have HYF := Lib.hid (fun (X : World) (hX : Below wc.heap.size wc X) => inRw (hRk.out.on hX (Nat.le_refl _)) hmq)
              have x8 := HYF.out wc (Below.refl _ _)
              have g5 : IntKind.i64.wrap ((k : Int) - 1) = (q : Int) := by rw [show (k : Int) - 1 = (q : Int) by omega]; exact IntWalk.i64_in _ (by omega)
              have g6 : (q : Int) < (m.length : Int) := by omega
              have g7 : ((q : Nat) : Int).toNat = q := by omega
              have g8 : decide ((0 : Int) < (k : Int)) = true := decide_eq_true (by omega)
              have HQ := Lib.hid hq
              clear hh' hmq hy hlt2 hq
              go_wp2_with (fail)
              go_region_held3 (fun X => (X.cell? ⟨w.heap.size, 0, none⟩ = some (.slice p.a1 s.feeds.length p.c1) ∧ X.cell? ⟨w.heap.size, 1, none⟩ = some (.slice p.a2 s.brks.length p.c2) ∧ X.cell? ⟨w.heap.size, 2, none⟩ = some (.slice p.a3 s.loops.length p.c3) ∧ X.cell? ⟨w.heap.size, 3, none⟩ = some (.slice p.a4 s.racks.length p.c4) ∧ X.cell? ⟨w.heap.size, 4, none⟩ = some (.int .i64 s.sw) ∧ X.cell? ⟨w.heap.size, 5, none⟩ = some (.slice p.a5 s.links.length p.c5) ∧ X.cell? ⟨w.heap.size, 6, none⟩ = some (.slice p.a6 s.hosts.length p.c6)) ∧ X.cell? ⟨lb, lo + k, none⟩ = some (.int .i64 z) ∧ X.cell? ⟨lb, lo + q, none⟩ = some (.int .i64 y))
                (first | exact ⟨(HXF.out w6 B6.out).1, (HXF.out w6 B6.out).2, HYF.out w6 B6.out⟩ | exact ⟨(HXF.out wc (Below.refl _ _)).1, (HXF.out wc (Below.refl _ _)).2, HYF.out wc (Below.refl _ _)⟩)
                (first
                  | (go_at_call 14; (with_reducible refine (HDZ.out wc.drew (Below.refl _ _).drew).mono ?_); rintro e w6 ⟨rfl, bb⟩; have B6 := Lib.hid (below_join (Below.refl wc.heap.size wc).drew bb (Nat.le_refl _)); clear bb)
                  | fail)
              have K6 := Lib.hid (below_join hBk.out B6.out hBk.out.size)
              have S6 := Lib.hid (hSk.out.on B6.out (Nat.le_refl _))
              have R6 := Lib.hid (hRk.out.on B6.out (Nat.le_refl _))
              have y9 := (HXF.out w6 B6.out).2
              have y8 : w6.cell? ⟨g, h, none⟩ = some (.int .i64 0) := S6.out.cell (seenK_at HHH.out)
              have y7 := frz S6.out h
              have SN := Lib.hid (show Seen (w6.setCell ⟨g, h, none⟩ (.int .i64 1)) g (seenK s d i (k + 1)) by rw [← seenK_set HHH.out]; exact S6.out.set 1)
              have RN := Lib.hid (R6.out.set (j := h) (v := .int .i64 1) HNE.out)
              have KN := Lib.hid (K6.out.setCell (p := ⟨g, h, none⟩) hgW (.int .i64 1))
              skip
              go_wp2_with (fail)
              go_roundw
              case rel => exact ⟨k + 1, by omega, by go_num, KN, SN, RN⟩
              case measure => simp only [intOf]; omega
          · obtain rfl : k = m.length := by omega
            have SW := Lib.hid (show Seen wc g (seenI s d ((i + 1 : Nat) : Int)) by
              have h := hSk.out
              rw [← HMD.out, nats_len, seenK_whole] at h
              exact h)
            go_wp2_with (fail)
            go_roundw
            case rel => exact ⟨i + 1, by omega, by go_num, hBk, SW⟩
            case measure => simp only [intOf]; omega
      · obtain rfl : i = c := by omega
        have HALL := Lib.hid (seenI_all HSOK.out HD5.out)
        rw [HCC.out] at HALL
        have HLEN := Lib.hid (seenI_len s d (i : Int))
        obtain ⟨sl, hsl⟩ : ∃ l, seenI s d (i : Int) = l := ⟨_, rfl⟩
        rw [hsl] at HALL HLEN hSi
        clear hsl
        go_wp2_with (fail)
        go_loopw [9] (fun v wr => ∃ q : Nat, q ≤ s.hosts.length ∧ v = .int .i64 (q : Int) ∧ Hid (Below W.heap.size W wr) ∧ Hid (Seen wr g sl)) (fun v _ => s.hosts.length - (intOf v).toNat)
        case atStart => exact ⟨0, Nat.zero_le _, rfl, hBi, hSi⟩
        case round =>
          obtain ⟨q, hq, rfl, hBq, hSq⟩ := hrel
          have hqq : ((q : Nat) : Int).toNat = q := by omega
          by_cases hql : q < s.hosts.length
          · have hqlc : (q : Int) < (s.hosts.length : Int) := by omega
            obtain ⟨x, hx⟩ : ∃ x, sl[q]? = some x := ⟨_, List.getElem?_eq_getElem (by rw [HLEN.out]; exact hql)⟩
            obtain rfl := HALL.out x (List.mem_of_getElem? hx)
            have y0 := hSq.out.cell hx
            clear hx
            go_wp2_with (fail)
            go_roundw
            case rel => exact ⟨q + 1, by omega, by go_num, hBq, hSq⟩
            case measure => simp only [intOf]; omega
          · obtain rfl : q = s.hosts.length := by omega
            go_wp2_with (fail)
            go_roundw
            case rel => exact ⟨d + 1, by omega, by go_num, hBq⟩
            case measure => simp only [intOf]; omega
end Go.Proofs.Ytoknombajocjlaa
