/-
  DERIVED. Several texts in one.
-/
import Derived.Test.YtfpcdgmdangmaaaGreatDoorYQIm
import Derived.Test.YtfpcdgmdangmaaaGreatDoorYHm
import Derived.Test.YtfpcdgmdangmaaaGreatDoorYPFm
import Derived.Test.YtfpcdgmdangmaaaGreatDoorYWLm
import Derived.Deep.RegionHeld3
import Derived.Lib.LaidTab
import Derived.Test.YtfpcdgmdangmaaaGreatDoorRows
import Derived.LaidMore
set_option linter.unusedVariables false
set_option linter.unusedSimpArgs false

/- DERIVED. The reference's Parse. -/
namespace Go.Proofs.YtfpcdgmdangmaaaGreatDoor
open Go.RowKit
set_option maxRecDepth 100000

/-- Between two rounds of the loop of Parse. -/
def QPRel (w : World) (rb : Nat) (L : List Tok) (en : Int) (R0 : List Cl × QS) (v : Value) (wr : World) : Prop :=
  ∃ (n : Nat) (acc : List Cl) (s : QS), R0 = qLoop (fun s => s.e != 0 || decide (L.length ≤ s.at_)) (qClause L en) n acc s ∧ Fuel L n s ∧ acc.length + n ≤ 5010 ∧ RSt wr rb L en s ∧ KB w.heap.size rb w wr ∧ OwnCl wr (rb + 1) v acc ∧ rb + 1 ≤ wr.heap.size ∧ ∃ A m p, v = .slice A m p

set_option maxHeartbeats 40000000 in
theorem q_Parse (s : ByteArray) (hs : s.size ≤ maxLen) (w : World) :
    Calls Tryz.prog 9 #[.string s] w (ParsePost (parseOf s) w) := by
  have hfm : Tryz.prog.follows Departure.mixedOrders = true := by kernel_rfl
  obtain ⟨i0', hi, hz0, hz1', hz2⟩ := info_parts infoCl2
  have HT := Lib.hid (r_Tokens s hs)
  have hln := toksOf_len s
  have hnil := toksOf_nil s
  unfold parseOf
  obtain ⟨r, hr⟩ : ∃ r, r = toksOf s := ⟨_, rfl⟩
  rw [← hr] at HT hln hnil ⊢
  clear hr
  obtain ⟨L, at_, er⟩ := r
  dsimp only at hln hnil ⊢
  by_cases her : er = 0
  · subst her
    rw [if_pos rfl, ← qParse_eq]
    clear hnil
    obtain ⟨R0, hR0⟩ : ∃ R0, R0 = qText L (s.size : Int) := ⟨_, rfl⟩
    unfold qParse
    rw [← hR0]
    have HR0 := Lib.hid hR0
    clear hR0
    obtain ⟨RR, hRR⟩ : ∃ r : List Cl × Int × Int, r = (if R0.2.e = 0 then (R0.1, 0, 0) else ([], R0.2.off, R0.2.e)) := ⟨_, rfl⟩
    rw [← hRR]
    have HRR := Lib.hid hRR
    clear hRR
    go_enter Tryz.func9, Tryz.ntmps9
    go_wp2_with (go_at_call 19; refine (HT.out _).mono ?_; rintro e w1 ⟨v, rfl, hown, b1⟩; obtain ⟨vA0, vn0, vc0, rfl⟩ := ownsRow_slice hown; have hz1 := b1.size; have hts := Lib.hid (TokSl.of_own hown); have HB1 := Lib.hid b1; clear b1 hown)
    have hP : RSt (w1.alloc (.cells #[.slice vA0 vn0 vc0, .int .i64 0, .int .i64 s.size, .int .i64 0, .int .i64 0] 51)) w1.heap.size L s.size ⟨0, 0, 0⟩ := ⟨_, row_new _ _ _ rfl, hts.out.stands fun b hb => row_alloc_eq _ _ hb⟩
    obtain ⟨w2, hw2⟩ : ∃ w2, w2 = w1.alloc (.cells #[.slice vA0 vn0 vc0, .int .i64 0, .int .i64 s.size, .int .i64 0, .int .i64 0] 51) := ⟨_, rfl⟩
    have hK : KB w.heap.size w1.heap.size w w2 := by rw [hw2]; exact KB.of_below (HB1.out.alloc hz1 _)
    rw [← hw2] at hP ⊢
    have hz2' : w2.heap.size = w1.heap.size + 1 := by rw [hw2]; simp
    obtain ⟨rb, hrb⟩ : ∃ rb, rb = w1.heap.size := ⟨_, rfl⟩
    rw [← hrb] at hP hK hz2' hz1 ⊢
    have HP := Lib.hid hP
    have HK := Lib.hid hK
    have hz3 : rb + 1 ≤ w2.heap.size := by omega
    clear hw2 hP hK hz2' hrb hts HB1
    go_wp2_with (fail)
    go_loopw [9] (fun ov wr => QPRel w rb L (s.size : Int) R0 ov wr) (fun ov wr => leftQ wr rb)
    case atStart => exact ⟨L.length + 3, [], ⟨0, 0, 0⟩, HR0.out, ⟨by omega, fun _ => ⟨Nat.zero_le _, by simp⟩⟩, by simp; omega, HP.out, HK.out, OwnCl.nil _ _, hz3, _, _, _, rfl⟩
    case round =>
      obtain ⟨n, acc, s', hR, hF, hA, P, K, hO, hlo, vA, vn, vc, rfl⟩ := hrel
      have hms := P.left
      have hzr := K.size
      have hpc : rb < wr.heap.size := P.lt
      obtain ⟨m, rfl⟩ : ∃ m, n = m + 1 := ⟨n - 1, by have := hF.1; omega⟩
      obtain ⟨A, bc, hc, hm, -, k0, k1, k2, k3, k4, -⟩ := P.cells
      unfold maxLen at hm
      have Hms := Lib.hid hms
      have HP := Lib.hid P
      have HK := Lib.hid K
      have HO := Lib.hid hO
      have i0 : (0 : Int) ≤ (s'.at_ : Int) := Int.natCast_nonneg _
      by_cases he : s'.e = 0
      · have hb : (s'.e == 0) = true := by rw [beq_iff_eq]; exact he
        have hb2 : (s'.e != 0) = false := by rw [bne_eq_false_iff_eq]; exact he
        by_cases hlt : s'.at_ < L.length
        · have d1 : decide (s'.at_ < L.length) = true := decide_eq_true hlt
          have hst : R0 = qLoop (fun s => s.e != 0 || decide (L.length ≤ s.at_)) (qClause L s.size) m (acc ++ [(qClause L s.size s').1]) (qClause L s.size s').2 := by
            rw [hR]
            have : ¬ L.length ≤ s'.at_ := by omega
            simp [qLoop, he, this]
          obtain ⟨hF2, hlf⟩ := sim_fuel (sim_clause L s.size) takes_cl he hF
          have Hst := Lib.hid hst
          have HF2 := Lib.hid hF2
          have Hlf := Lib.hid hlf
          have HIT := Lib.hid (fun W hW => q_clause rb L hln s.size s' W hW hlt)
          clear hms P K hO hR hF hst hF2 hlf he
          go_wp2_with (fail)
          go_quiet (fail)
          obtain ⟨W0, hW0⟩ : ∃ W0, W0 = wr.drewN nq := ⟨_, rfl⟩
          have P0 : RSt W0 rb L s.size s' := by rw [hW0]; exact HP.out.drewN _
          have K0 : KB w.heap.size rb w W0 := by rw [hW0]; exact HK.out.drewN _
          have hO0 : OwnCl W0 (rb + 1) (.slice vA vn vc) acc := by rw [hW0]; exact HO.out.kept (fun _ _ _ => rfl) (Nat.le_refl _)
          have hlo0 : rb + 1 ≤ W0.heap.size := by rw [hW0]; exact hlo
          rw [← hW0]
          clear hW0
          clear k0 k1 k2 k3 k4 HP HK HO
          obtain ⟨us, hus, hag⟩ := hO0
          have HK0 := Lib.hid K0
          have Hus := Lib.hid hus
          have Hag := Lib.hid hag
          obtain ⟨c, hcc⟩ : ∃ c, c = (qClause L s.size s').1 := ⟨_, rfl⟩
          obtain ⟨s3, hs3⟩ : ∃ s3, s3 = (qClause L s.size s').2 := ⟨_, rfl⟩
          have hIT2 := HIT.out W0 P0
          unfold CMoved at hIT2
          rw [← hcc] at hIT2 Hst
          rw [← hs3] at hIT2 Hst HF2 Hlf
          have HIT2 := Lib.hid hIT2
          have hz0' := P0.lt
          clear P0 K0 hus hag HIT hIT2 hcc hs3
          go_wp2_with (first | (go_at_call 24; refine HIT2.out.mono ?_; rintro e w5 ⟨v5, rfl, ⟨yn, yi, rfl, hsn, hsi⟩, P, k⟩; obtain ⟨A1, m1, p1, rfl⟩ := hsn.shape; obtain ⟨A2, m2, p2, rfl⟩ := hsi.shape; have hzz5 := k.size; have K5 := Lib.hid (HK0.out.trans (k.mono (by have := HK0.out.size; omega))); have HP5 := Lib.hid P; have Hus5 := Lib.hid (ownsRow_move (w' := w5) Hus.out fun g' hg' => by have := Hus.out.lt g' hg'; exact k.block g' (by omega) (fun e => by omega)); have Hag5 := Lib.hid (aggs_stand (w' := w5) (ok' := Off (rb + 1) w5.heap.size (.slice vA vn vc)) (fun b hb => ⟨⟨hb.1, Nat.lt_of_lt_of_le hb.2.1 k.size, hb.2.2⟩, k.block b hb.2.1 (by have := hb.1; omega)⟩) acc us Hag.out); have Hsn := Lib.hid hsn; have Hsi := Lib.hid hsi; clear k P hsn hsi) | (at_builtin; go_must (refine wpList_append_lies _ rfl (.tmp 42) (.tmp 45) 22 rfl (rb + 1) 43 i0' (.agg #[.int .u8 0, .slice none 0 0, .int .u8 0, .int .i64 0, .int .i64 0, .int .i64 0, .slice none 0 0, .int .i64 0]) 8 96 Tryz.underlying22 hi hz0 hz1' hz2 rfl (by decide) (.slice vA vn vc) acc.length us rfl (Hus5.out.alloc _) ⟨w5.heap.size, 0, none⟩ 1 1 [.int .u8 c.kind, .slice A1 m1 p1, .int .u8 c.dom, .int .i64 c.idx, .int .i64 c.a, .int .i64 c.b, .slice A2 m2 p2, .int .i64 c.off] rfl rfl (World.news_of_block (row_new _ _ _ rfl)) (by intro u hu; simp at hu; rcases hu with rfl | rfl | rfl | rfl | rfl | rfl | rfl | rfl <;> rfl) (by omega) (by simp only [maxLen]; omega) (by omega) (by (try simp) <;> omega) _ rfl ?_; intro g cap w6 hown6 hgrow hat hlt6)))
          have hrow : ∀ k, (Value.slice vA vn vc).ownBlock = some k → rb + 1 ≤ k := fun k e => (Hus5.out.lt k e).1
          have hP6 := (HP5.out.new (.cells #[.int .u8 c.kind, .slice A1 m1 p1, .int .u8 c.dom, .int .i64 c.idx, .int .i64 c.a, .int .i64 c.b, .slice A2 m2 p2, .int .i64 c.off] 43)).grown hgrow (fun b e => by have := hrow b e; omega)
          have hcag : Cl.agg w5 (Off (rb + 1) w5.heap.size (.slice vA vn vc)) c [.int .u8 c.kind, .slice A1 m1 p1, .int .u8 c.dom, .int .i64 c.idx, .int .i64 c.a, .int .i64 c.b, .slice A2 m2 p2, .int .i64 c.off] := by
            have hok : ∀ b, Btw W0.heap.size w5.heap.size b → Off (rb + 1) w5.heap.size (.slice vA vn vc) b := fun b hb => by
              have h1 : W0.heap.size ≤ b := hb.1
              refine ⟨by omega, hb.2, fun e => ?_⟩
              have := (Hus.out.lt b e).2
              omega
            exact (Cl.agg_iff _ _ _ _).2 ⟨_, _, rfl, Hsn.out.stand (fun b hb => ⟨hok b hb, rfl⟩), Hsi.out.stand (fun b hb => ⟨hok b hb, rfl⟩)⟩
          have hup : Stand (Off (rb + 1) w5.heap.size (.slice vA vn vc)) (Off (rb + 1) (w5.alloc (.cells #[.int .u8 c.kind, .slice A1 m1 p1, .int .u8 c.dom, .int .i64 c.idx, .int .i64 c.a, .int .i64 c.b, .slice A2 m2 p2, .int .i64 c.off] 43)).heap.size (.slice vA vn vc)) w5 (w5.alloc (.cells #[.int .u8 c.kind, .slice A1 m1 p1, .int .u8 c.dom, .int .i64 c.idx, .int .i64 c.a, .int .i64 c.b, .slice A2 m2 p2, .int .i64 c.off] 43)) := fun b hb => ⟨⟨hb.1, by have := hb.2.1; simp; omega, hb.2.2⟩, row_alloc_eq _ _ hb.2.1⟩
          have hO6 := OwnCl.appended (aggs_stand hup acc us Hag5.out) (Cl.agg_stand hup c _ hcag) hown6 hgrow hat
          refine ⟨⟨m, acc ++ [c], s3, Hst.out, HF2.out, by simp; omega, hP6, ?_, hO6, ?_, _, _, _, rfl⟩, ?_⟩
          · exact (K5.out.alloc _ (by omega)).grownStep hgrow (by (try simp) <;> omega) (fun k e => by have := hrow k e; omega)
          · have := hgrow.size; (try simp at this); omega
          · rw [hP6.left, Hms.out]; exact Hlf.out
        · have d1 : decide (s'.at_ < L.length) = false := decide_eq_false hlt
          have i1 : (L.length : Int) ≤ (s'.at_ : Int) := by omega
          have hst : R0 = (acc, s') := by
            rw [hR]
            have : L.length ≤ s'.at_ := by omega
            simp [qLoop, he, this]
          have Hst := Lib.hid hst
          have He := Lib.hid he
          clear hms P K hO hR hF hst he
          go_wp2_with (fail)
          go_quiet (fail)
          go_wp2_with (fail)
          rw [HRR.out, Hst.out, if_pos He.out]
          go_ret3
          exact ⟨_, rfl, (OwnCl.sl (HO.out.kept (w' := wr.drewN nq) (fun _ _ _ => rfl) (Nat.le_refl _))).stand fun b hb => ⟨⟨by have := hb.1; omega, hb.2⟩, rfl⟩, (HK.out.drewN _).below (by omega)⟩
      · have hb : (s'.e == 0) = false := by rw [beq_eq_false_iff_ne]; exact he
        have hb2 : (s'.e != 0) = true := by rw [bne_iff_ne]; exact he
        have hst : R0 = (acc, s') := by rw [hR]; simp [qLoop, he]
        have Hst := Lib.hid hst
        have He := Lib.hid he
        clear hms P K hO hR hF hst he
        go_wp2_with (fail)
        go_quiet (fail)
        go_wp2_with (fail)
        go_quiet (fail)
        go_wp2_with (fail)
        rw [HRR.out, Hst.out, if_neg He.out]
        go_ret3
        exact ⟨_, rfl, ClSl.nil _ _, ((HK.out.drewN _).drewN _).below (by omega)⟩
  · rw [if_neg her]
    have hb : (er != 0) = true := by rw [bne_iff_ne]; exact her
    clear her hnil
    go_enter Tryz.func9, Tryz.ntmps9
    go_wp2_with (go_at_call 19; refine (HT.out _).mono ?_; rintro e w1 ⟨v, rfl, hown, b1⟩; obtain ⟨vA, vn, vc, rfl⟩ := ownsRow_slice hown; have HB1 := Lib.hid b1; clear b1 hown)
    go_ret3
    exact ⟨_, rfl, ClSl.nil _ _, HB1.out⟩
end Go.Proofs.YtfpcdgmdangmaaaGreatDoor

/- DERIVED. The reference's Same, of trees that are the same. -/
namespace Go.Proofs.YtfpcdgmdangmaaaGreatDoor
open Go.RowKit
set_option maxRecDepth 100000

/-- Between two rounds of Same's loop. -/
def SmRel (l m : List Cl) (w : World) (i : Value) (wr : World) : Prop :=
  ∃ k : Nat, k ≤ l.length ∧ i = .int .i64 k ∧ sames (l.drop k) (m.drop k) = true ∧ Below w.heap.size w wr
/-- What the reference's Same says of the items of the clauses of l. -/
def QSameOk (l : List Cl) : Prop := ∀ c ∈ l, ∀ (m : List Cl) (v u : Value) (ok ok' : Nat → Prop) (w : World), sames c.items m = true → ClSl w ok v c.items → ClSl w ok' u m →
  Calls Tryz.prog 18 #[v, u] w fun e w' => e = .returned (.bool true) ∧ Below w.heap.size w w'
theorem sames_leng : ∀ (l m : List Cl), sames l m = true → l.length = m.length := fun l m h => by
  by_cases e : l.length = m.length
  · exact e
  · rw [sames_len l m e] at h; cases h
theorem eqS_leng : ∀ (l m : List ByteArray), eqS l m = true → l.length = m.length := fun l m h => by
  by_cases e : l.length = m.length
  · exact e
  · rw [eqS_len l m e] at h; cases h

theorem eqS_at : ∀ {l m : List ByteArray} {k : Nat}, eqS l m = true → (h1 : k < l.length) → (h2 : k < m.length) → l[k].toList = m[k].toList
  | a :: l, b :: m, 0, h, _, _ => by simp only [eqS, Bool.and_eq_true, beq_iff_eq] at h; exact h.1
  | a :: l, b :: m, k + 1, h, h1, h2 => by
    simp only [eqS, Bool.and_eq_true] at h
    exact eqS_at h.2 (by simpa using h1) (by simpa using h2)
  | [], _, _, _, h1, _ => absurd h1 (by simp)
  | _ :: _, [], _, _, _, h2 => absurd h2 (by simp)
set_option maxHeartbeats 16000000 in
theorem q_same_step (l m : List Cl) (hS : QSameOk l) (hsm : sames l m = true) (v u : Value) (ok ok' : Nat → Prop) (w : World) (ha : ClSl w ok v l) (hb : ClSl w ok' u m) :
    Calls Tryz.prog 18 #[v, u] w fun e w' => e = .returned (.bool true) ∧ Below w.heap.size w w' := by
  have hfm : Tryz.prog.follows Departure.mixedOrders = true := by kernel_rfl
  have hlen := sames_leng l m hsm
  obtain ⟨A, c, rfl, h2, h3, -⟩ := id ha
  obtain ⟨A', c', rfl, h2', h3', -⟩ := id hb
  unfold maxLen at h3 h3'
  have Ha := Lib.hid ha
  have Hb := Lib.hid hb
  have HS := Lib.hid hS
  have Hsm := Lib.hid hsm
  have hl : (((l.length : Nat) : Int) != (m.length : Int)) = false := by rw [bne_eq_false_iff_eq]; omega
  have Hlen := Lib.hid hlen
  clear ha hb hS hsm hlen
  go_enter Tryz.func18, Tryz.ntmps18
  go_wp2_with (fail)
  go_loopw [5] (fun i wr => SmRel l m w i wr) (fun i wr => l.length - (intOf i).toNat)
  case atStart => exact ⟨0, Nat.zero_le _, rfl, Hsm.out, Below.refl _ _⟩
  case round =>
    obtain ⟨k, hk, rfl, hbk, hbl⟩ := hrel
    have HB := Lib.hid hbl
    by_cases hlt : k < l.length
    · have hlt2 : k < m.length := by have := Hlen.out; omega
      have hcin := List.getElem_mem hlt
      obtain ⟨b1, o1, c1, vn, vi, e1, -, -, -, hn1, hi1, q0, q1, q2, q3, q4, q5, q6, q7⟩ := (Ha.out.below hbl).at_ hlt
      obtain ⟨b2, o2, c2, un, ui, e2, -, -, -, hn2, hi2, p0, p1, p2, p3, p4, p5, p6, p7⟩ := (Hb.out.below hbl).at_ hlt2
      injection e1 with e1 _ e1'
      injection e2 with e2 _ e2'
      subst e1 e2 e1' e2'
      have hsd := sames_drop l m k hlt hlt2
      rw [hbk, eq_comm, Bool.and_eq_true] at hsd
      obtain ⟨hxy, hrest⟩ := hsd
      rw [Cl.same_eq] at hxy
      simp only [Bool.and_eq_true, beq_iff_eq] at hxy
      obtain ⟨s0, s1, s2, s3, s4, s5, s6⟩ := hxy
      have HR := Lib.hid hrest
      have hnl := eqS_leng _ _ s1
      obtain ⟨vA1, vc1, rfl, n11, n12, -⟩ := id hn1
      obtain ⟨vA3, vc3, rfl, n31, n32, -⟩ := id hn2
      obtain ⟨vA2, vn2, vc2, rfl⟩ := hi1.shape
      obtain ⟨vA4, vn4, vc4, rfl⟩ := hi2.shape
      unfold maxLen at n12 n32
      have HN1 := Lib.hid hn1
      have HN2 := Lib.hid hn2
      have HI1 := Lib.hid hi1
      have HI2 := Lib.hid hi2
      have HIt := fun W hW => HS.out _ hcin _ _ _ _ _ W s6 (hi1.below (w' := W) hW) (hi2.below hW)
      have HIT := Lib.hid HIt
      rw [← s0] at p0
      rw [← s2] at p2
      rw [← s3] at p3
      rw [← s4] at p4
      rw [← s5] at p5
      rw [← hnl] at p1 n31
      have Hnl := Lib.hid hnl
      have HE := Lib.hid s1
      have lt1 := cell_lt' q0
      have lt2 := cell_lt' p0
      clear hbk hrest hbl hn1 hn2 hi1 hi2 HIt s0 s2 s3 s4 s5 s6 hnl s1
      generalize l[k] = x at q0 q1 q2 q3 q4 q5 q6 q7 p0 p1 p2 p3 p4 p5 HN1 HI1 HIT HE Hnl n11 n31
      generalize m[k] = y at p7 HN2 HI2 HIT HE Hnl
      go_wp2_with (fail)
      go_region
      · obtain ⟨W, hW⟩ : ∃ W, W = ((wr.alloc (.cells #[.int .u8 x.kind, .slice vA1 x.names.length vc1, .int .u8 x.dom, .int .i64 x.idx, .int .i64 x.a, .int .i64 x.b, .slice vA2 vn2 vc2, .int .i64 x.off] 43)).alloc (.cells #[.int .u8 x.kind, .slice vA3 x.names.length vc3, .int .u8 x.dom, .int .i64 x.idx, .int .i64 x.a, .int .i64 x.b, .slice vA4 vn4 vc4, .int .i64 y.off] 43)).drew := ⟨_, rfl⟩
        have hx : W.heap[wr.heap.size]? = some (.cells #[.int .u8 x.kind, .slice vA1 x.names.length vc1, .int .u8 x.dom, .int .i64 x.idx, .int .i64 x.a, .int .i64 x.b, .slice vA2 vn2 vc2, .int .i64 x.off] 43 (0, 0)) := by rw [hW]; exact row_drew (row_alloc (row_new _ _ _ rfl) _)
        have hy : W.heap[wr.heap.size + 1]? = some (.cells #[.int .u8 x.kind, .slice vA3 x.names.length vc3, .int .u8 x.dom, .int .i64 x.idx, .int .i64 x.a, .int .i64 x.b, .slice vA4 vn4 vc4, .int .i64 y.off] 43 (0, 0)) := by rw [hW]; exact row_drew (row_new _ _ _ (by simp))
        have hBW : Below wr.heap.size wr W := by rw [hW]; exact (((Below.refl _ _).alloc (Nat.le_refl _) _).alloc (by simp) _).drew
        have hzW : wr.heap.size + 1 < W.heap.size := by rw [hW]; simp
        rw [← hW]
        clear hW
        obtain ⟨x0, x1, x2, x3, x4, x5, x6, x7⟩ := eight_cells hx
        obtain ⟨y0, y1, y2, y3, y4, y5, y6, y7⟩ := eight_cells hy
        have Hx := Lib.hid hx
        have Hy := Lib.hid hy
        have HBW := Lib.hid hBW
        clear hx hy hBW q0 q1 q2 q3 q4 q5 q6 q7 p0 p1 p2 p3 p4 p5 p6 p7
        go_wp2_with (go_at_call 18; refine (HIT.out W HBW.out).mono ?_; rintro e W2 ⟨rfl, b2⟩; have hx2 := (b2.block _ (by omega)).trans Hx.out; have hy2 := (b2.block _ (by omega)).trans Hy.out; obtain ⟨u0, u1, u2, u3, u4, u5, u6, u7⟩ := eight_cells hx2; obtain ⟨t0, t1, t2, t3, t4, t5, t6, t7⟩ := eight_cells hy2; have B2 := Lib.hid (HBW.out.trans (b2.mono HBW.out.size)); clear hx2 hy2 b2)
        go_loopw [8] (fun j wr2 => ∃ k2 n2 : Nat, k2 ≤ x.names.length ∧ j = .int .i64 k2 ∧ wr2 = W2.drewN n2) (fun j wr2 => x.names.length - (intOf j).toNat)
        case atStart => exact ⟨0, 0, Nat.zero_le _, rfl, rfl⟩
        case round =>
          obtain ⟨k2, n2, hk2, rfl, rfl⟩ := hrel
          by_cases hlk : k2 < x.names.length
          · have hlk2 : k2 < y.names.length := by have := Hnl.out; omega
            obtain ⟨nb1, no1, nc1, ne1, -, -, g1⟩ := (HN1.out.below B2.out).at_ hlk
            obtain ⟨nb2, no2, nc2, ne2, -, -, g2⟩ := (HN2.out.below B2.out).at_ hlk2
            injection ne1 with ne1 _ ne1'
            injection ne2 with ne2 _ ne2'
            subst ne1 ne2 ne1' ne2'
            have hte := eqS_at HE.out hlk hlk2
            generalize x.names[k2] = ta at g1 hte
            generalize y.names[k2] = tb at g2 hte
            have d1 : (ta.toList != tb.toList) = false := by rw [bne_eq_false_iff_eq]; exact hte
            have d2 : (ta.toList == tb.toList) = true := by rw [beq_iff_eq]; exact hte
            clear hte
            go_wp2_with (fail)
            go_quiet (fail)
            go_wp2_with (fail)
            exact ⟨⟨k2 + 1, n2 + nq, by omega, by go_num, rfl⟩, by simp [intOf]; omega⟩
          · go_wp2_with (fail)
            exact ⟨⟨k + 1, by omega, by go_num, HR.out, (HB.out.trans (B2.out.mono HB.out.size)).trans (below_dN _ (Below.refl _ _))⟩, by simp [intOf]; omega⟩
      · obtain ⟨W, hW⟩ : ∃ W, W = ((wr.alloc (.cells #[.int .u8 x.kind, .slice vA3 x.names.length vc3, .int .u8 x.dom, .int .i64 x.idx, .int .i64 x.a, .int .i64 x.b, .slice vA4 vn4 vc4, .int .i64 y.off] 43)).alloc (.cells #[.int .u8 x.kind, .slice vA1 x.names.length vc1, .int .u8 x.dom, .int .i64 x.idx, .int .i64 x.a, .int .i64 x.b, .slice vA2 vn2 vc2, .int .i64 x.off] 43)).drew := ⟨_, rfl⟩
        have hx : W.heap[wr.heap.size + 1]? = some (.cells #[.int .u8 x.kind, .slice vA1 x.names.length vc1, .int .u8 x.dom, .int .i64 x.idx, .int .i64 x.a, .int .i64 x.b, .slice vA2 vn2 vc2, .int .i64 x.off] 43 (0, 0)) := by rw [hW]; exact row_drew (row_new _ _ _ (by simp))
        have hy : W.heap[wr.heap.size]? = some (.cells #[.int .u8 x.kind, .slice vA3 x.names.length vc3, .int .u8 x.dom, .int .i64 x.idx, .int .i64 x.a, .int .i64 x.b, .slice vA4 vn4 vc4, .int .i64 y.off] 43 (0, 0)) := by rw [hW]; exact row_drew (row_alloc (row_new _ _ _ rfl) _)
        have hBW : Below wr.heap.size wr W := by rw [hW]; exact (((Below.refl _ _).alloc (Nat.le_refl _) _).alloc (by simp) _).drew
        have hzW : wr.heap.size + 1 < W.heap.size := by rw [hW]; simp
        rw [← hW]
        clear hW
        obtain ⟨x0, x1, x2, x3, x4, x5, x6, x7⟩ := eight_cells hx
        obtain ⟨y0, y1, y2, y3, y4, y5, y6, y7⟩ := eight_cells hy
        have Hx := Lib.hid hx
        have Hy := Lib.hid hy
        have HBW := Lib.hid hBW
        clear hx hy hBW q0 q1 q2 q3 q4 q5 q6 q7 p0 p1 p2 p3 p4 p5 p6 p7
        go_wp2_with (go_at_call 18; refine (HIT.out W HBW.out).mono ?_; rintro e W2 ⟨rfl, b2⟩; have hx2 := (b2.block _ (by omega)).trans Hx.out; have hy2 := (b2.block _ (by omega)).trans Hy.out; obtain ⟨u0, u1, u2, u3, u4, u5, u6, u7⟩ := eight_cells hx2; obtain ⟨t0, t1, t2, t3, t4, t5, t6, t7⟩ := eight_cells hy2; have B2 := Lib.hid (HBW.out.trans (b2.mono HBW.out.size)); clear hx2 hy2 b2)
        go_loopw [8] (fun j wr2 => ∃ k2 n2 : Nat, k2 ≤ x.names.length ∧ j = .int .i64 k2 ∧ wr2 = W2.drewN n2) (fun j wr2 => x.names.length - (intOf j).toNat)
        case atStart => exact ⟨0, 0, Nat.zero_le _, rfl, rfl⟩
        case round =>
          obtain ⟨k2, n2, hk2, rfl, rfl⟩ := hrel
          by_cases hlk : k2 < x.names.length
          · have hlk2 : k2 < y.names.length := by have := Hnl.out; omega
            obtain ⟨nb1, no1, nc1, ne1, -, -, g1⟩ := (HN1.out.below B2.out).at_ hlk
            obtain ⟨nb2, no2, nc2, ne2, -, -, g2⟩ := (HN2.out.below B2.out).at_ hlk2
            injection ne1 with ne1 _ ne1'
            injection ne2 with ne2 _ ne2'
            subst ne1 ne2 ne1' ne2'
            have hte := eqS_at HE.out hlk hlk2
            generalize x.names[k2] = ta at g1 hte
            generalize y.names[k2] = tb at g2 hte
            have d1 : (ta.toList != tb.toList) = false := by rw [bne_eq_false_iff_eq]; exact hte
            have d2 : (ta.toList == tb.toList) = true := by rw [beq_iff_eq]; exact hte
            clear hte
            go_wp2_with (fail)
            go_quiet (fail)
            go_wp2_with (fail)
            exact ⟨⟨k2 + 1, n2 + nq, by omega, by go_num, rfl⟩, by simp [intOf]; omega⟩
          · go_wp2_with (fail)
            exact ⟨⟨k + 1, by omega, by go_num, HR.out, (HB.out.trans (B2.out.mono HB.out.size)).trans (below_dN _ (Below.refl _ _))⟩, by simp [intOf]; omega⟩
    · go_wp2_with (fail)
      go_ret
      exact ⟨rfl, HB.out⟩
theorem q_same_ind : ∀ (n : Nat) (l : List Cl), SizeOf.sizeOf l < n → ∀ (m : List Cl) (v u : Value) (ok ok' : Nat → Prop) (w : World), sames l m = true → ClSl w ok v l → ClSl w ok' u m →
    Calls Tryz.prog 18 #[v, u] w fun e w' => e = .returned (.bool true) ∧ Below w.heap.size w w'
  | 0, _, h => absurd h (by omega)
  | n + 1, l, h => fun m v u ok ok' w hs ha hb => q_same_step l m (fun c hc m' v' u' ok1 ok2 w' hs' h1 h2 => q_same_ind n c.items (by
      have h3 := List.sizeOf_lt_of_mem hc
      have h4 := c.items_lt
      omega) m' v' u' ok1 ok2 w' hs' h1 h2) hs v u ok ok' w ha hb
/-- The reference's Same, of trees that are the same. -/
theorem q_Same (l m : List Cl) (hs : sames l m = true) (v u : Value) (ok ok' : Nat → Prop) (w : World) (ha : ClSl w ok v l) (hb : ClSl w ok' u m) :
    Calls Tryz.prog 18 #[v, u] w fun e w' => e = .returned (.bool true) ∧ Below w.heap.size w w' := q_same_ind (SizeOf.sizeOf l + 1) l (by omega) m v u ok ok' w hs ha hb
end Go.Proofs.YtfpcdgmdangmaaaGreatDoor

/- DERIVED. The reference's Equal, of one tree that lies twice in memory. -/
namespace Go.Proofs.YtfpcdgmdangmaaaGreatDoor
open Go.RowKit
set_option maxRecDepth 100000

theorem eqS_refl2 : ∀ l, eqS l l = true
  | [] => rfl
  | a :: l => by simp [eqS, eqS_refl2 l]
mutual
theorem Cl.same_refl : ∀ c : Cl, c.same c = true
  | .mk k n d i a b its o => by simp only [Cl.same, Cl.kind, Cl.names, Cl.dom, Cl.idx, Cl.a, Cl.b, Cl.items, eqS_refl2, sames_refl its, beq_self_eq_true, Bool.and_true]
theorem sames_refl : ∀ l : List Cl, sames l l = true
  | [] => by simp only [sames]
  | c :: l => by simp only [sames, Cl.same_refl c, sames_refl l, Bool.and_true]
end

/-- Between two rounds of Equal's loop. -/
def EqlRel (l : List Cl) (w : World) (i : Value) (wr : World) : Prop := ∃ k : Nat, k ≤ l.length ∧ i = .int .i64 k ∧ Below w.heap.size w wr
def QEqOk (l : List Cl) : Prop := ∀ c ∈ l, ∀ (v u : Value) (ok ok' : Nat → Prop) (w : World), ClSl w ok v c.items → ClSl w ok' u c.items →
  Calls Tryz.prog 10 #[v, u] w fun e w' => e = .returned (.bool true) ∧ Below w.heap.size w w'

set_option maxHeartbeats 16000000 in
theorem q_equal_step (l : List Cl) (hS : QEqOk l) (v u : Value) (ok ok' : Nat → Prop) (w : World) (ha : ClSl w ok v l) (hb : ClSl w ok' u l) :
    Calls Tryz.prog 10 #[v, u] w fun e w' => e = .returned (.bool true) ∧ Below w.heap.size w w' := by
  have hfm : Tryz.prog.follows Departure.mixedOrders = true := by kernel_rfl
  have H1 := Lib.hid (q_Same l l (sames_refl l) v u ok ok' w ha hb)
  obtain ⟨A, c, rfl, h2, h3, -⟩ := id ha
  obtain ⟨A', c', rfl, h2', h3', -⟩ := id hb
  unfold maxLen at h3 h3'
  have Ha := Lib.hid ha
  have Hb := Lib.hid hb
  have HS := Lib.hid hS
  clear ha hb hS
  go_enter Tryz.func10, Tryz.ntmps10
  go_wp2_with (go_at_call 18; refine H1.out.mono ?_; rintro e w1 ⟨rfl, b1⟩; have B1 := Lib.hid b1; clear b1)
  go_loopw [5] (fun i wr => EqlRel l w i wr) (fun i wr => l.length - (intOf i).toNat)
  case atStart => exact ⟨0, Nat.zero_le _, rfl, B1.out⟩
  case round =>
    obtain ⟨k, hk, rfl, hbl⟩ := hrel
    have HB := Lib.hid hbl
    by_cases hlt : k < l.length
    · have hcin := List.getElem_mem hlt
      obtain ⟨b1, o1, c1, vn, vi, e1, -, -, -, hn1, hi1, q0, q1, q2, q3, q4, q5, q6, q7⟩ := (Ha.out.below hbl).at_ hlt
      obtain ⟨b2, o2, c2, un, ui, e2, -, -, -, hn2, hi2, p0, p1, p2, p3, p4, p5, p6, p7⟩ := (Hb.out.below hbl).at_ hlt
      injection e1 with e1 _ e1'
      injection e2 with e2 _ e2'
      subst e1 e2 e1' e2'
      obtain ⟨vA2, vn2, vc2, rfl⟩ := hi1.shape
      obtain ⟨vA4, vn4, vc4, rfl⟩ := hi2.shape
      have HIT := Lib.hid (fun W hW => HS.out _ hcin _ _ _ _ W (hi1.below (w' := W) hW) (hi2.below hW))
      have lt1 := cell_lt' q0
      have lt2 := cell_lt' p0
      clear hbl hn1 hn2 hi1 hi2 q0 q1 q2 q3 q4 q5 p0 p1 p2 p3 p4 p5
      generalize l[k] = x at q6 q7 p6 p7 HIT
      have hoo : (x.off != x.off) = false := by simp
      have k0 : (0 : Int) ≤ (k : Int) := Int.natCast_nonneg _
      have k1 : (k : Int) < (l.length : Int) := by omega
      go_wp2_with (fail)
      go_region_held3 (fun X => X.cell? ⟨b1, o1 + k * 8 + 7, none⟩ = some (.int .i64 x.off) ∧ X.cell? ⟨b2, o2 + k * 8 + 7, none⟩ = some (.int .i64 x.off) ∧ X.cell? ⟨b1, o1 + k * 8 + 6, none⟩ = some (.slice vA2 vn2 vc2) ∧ X.cell? ⟨b2, o2 + k * 8 + 6, none⟩ = some (.slice vA4 vn4 vc4))
        (first | exact ⟨q7, p7, q6, p6⟩ | exact ⟨(hb2.cell (p := ⟨b1, o1 + k * 8 + 7, none⟩) lt1).trans q7, (hb2.cell (p := ⟨b2, o2 + k * 8 + 7, none⟩) lt2).trans p7, (hb2.cell (p := ⟨b1, o1 + k * 8 + 6, none⟩) lt1).trans q6, (hb2.cell (p := ⟨b2, o2 + k * 8 + 6, none⟩) lt2).trans p6⟩)
        ((go_at_call 10; refine (HIT.out _ (by exact (Below.refl _ _).drew)).mono ?_; rintro e w2 ⟨rfl, hb2⟩))
      all_goals go_wp2_with (fail)
      all_goals exact ⟨⟨k + 1, by omega, by go_num, HB.out.trans (Below.mono (Below.trans (Below.refl wr.heap.size wr).drew hb2) HB.out.size)⟩, by simp [intOf]; omega⟩
    · go_wp2_with (fail)
      go_ret
      exact ⟨rfl, HB.out⟩
theorem q_equal_ind : ∀ (n : Nat) (l : List Cl), SizeOf.sizeOf l < n → ∀ (v u : Value) (ok ok' : Nat → Prop) (w : World), ClSl w ok v l → ClSl w ok' u l →
    Calls Tryz.prog 10 #[v, u] w fun e w' => e = .returned (.bool true) ∧ Below w.heap.size w w'
  | 0, _, h => absurd h (by omega)
  | n + 1, l, h => fun v u ok ok' w ha hb => q_equal_step l (fun c hc v' u' ok1 ok2 w' h1 h2 => q_equal_ind n c.items (by
      have h3 := List.sizeOf_lt_of_mem hc
      have h4 := c.items_lt
      omega) v' u' ok1 ok2 w' h1 h2) v u ok ok' w ha hb
/-- The reference's Equal, of one tree. -/
theorem q_Equal (l : List Cl) (v u : Value) (ok ok' : Nat → Prop) (w : World) (ha : ClSl w ok v l) (hb : ClSl w ok' u l) :
    Calls Tryz.prog 10 #[v, u] w fun e w' => e = .returned (.bool true) ∧ Below w.heap.size w w' := q_equal_ind (SizeOf.sizeOf l + 1) l (by omega) v u ok ok' w ha hb
end Go.Proofs.YtfpcdgmdangmaaaGreatDoor

/- DERIVED. The law SyntaxParses; the table that strconv.Itoa reads, out of the row's condition. -/
namespace Go.Proofs.YtfpcdgmdangmaaaGreatDoor
open Go.RowKit
set_option maxRecDepth 100000

set_option maxHeartbeats 8000000 in
theorem w_SyntaxParses (s : ByteArray) (hs : s.size ≤ maxLen) (w : World) (ht : Tab w) :
    Calls Tryz.prog 3 #[.string s] w fun e w' => e = .returned (.bool true) ∧ Below w.heap.size w w' := by
  have hp := c_Parse s hs w
  have hq := fun W => q_Parse s hs W
  obtain ⟨r, hr⟩ : ∃ r, r = parseOf s := ⟨_, rfl⟩
  rw [← hr] at hp hq
  obtain ⟨l, at_, er⟩ := r
  have HP := Lib.hid hp
  have HQ := Lib.hid hq
  have HT := Lib.hid ht
  clear hp hq ht hr
  have b1 : (at_ == at_) = true := by simp
  have b2 : (er == er) = true := by simp
  go_enter Tryz.func3, Tryz.ntmps3
  go_wp2_with (first | (go_at_call 8; refine HP.out.mono ?_; rintro e w1 ⟨v1, rfl, hc1, bb1⟩; obtain ⟨A1, m1, p1, rfl⟩ := hc1.shape; have B1 := Lib.hid bb1; have H1 := Lib.hid hc1; clear bb1 hc1) | (go_at_call 9; refine (HQ.out _).mono ?_; rintro e w2 ⟨v2, rfl, hc2, bb2⟩; obtain ⟨A2, m2, p2, rfl⟩ := hc2.shape; have B2 := Lib.hid bb2; have H2 := Lib.hid hc2; clear bb2 hc2) | (go_at_call 10; refine (q_Equal l _ _ _ _ _ (by exact H1.out.below B2.out) (by exact H2.out)).mono ?_; rintro e w3 ⟨rfl, bb3⟩; have B3 := Lib.hid bb3; clear bb3) | (go_at_call 11; refine (c_awake _ (by exact ((HT.out.on B1.out).on B2.out).on B3.out)).mono ?_; rintro e w4 ⟨rfl, bb4⟩; have B4 := Lib.hid bb4; clear bb4))
  go_ret
  have z1 := B1.out.size
  have z2 := B2.out.size
  have z3 := B3.out.size
  exact ⟨rfl, B1.out.trans ((B2.out.mono z1).trans ((B3.out.mono (by omega)).trans (B4.out.mono (by omega))))⟩

theorem gPow : Tryz.prog.globalNamed "internal/strconv.uint64pow10" = some 1 := by kernel_rfl
theorem gPowT : (Tryz.prog.globals[1]?).map (·.type) = some 135 := by kernel_rfl
theorem laidMet_tail {P : Program} {x : String × DataW Unit} {r : List (String × DataW Unit)} {W : World} (h : laidMet P (x :: r) W) : laidMet P r W := by
  obtain ⟨n, d⟩ := x
  obtain ⟨ps, ⟨g, t, cs, fuel, p, q, h1, h2, h3, h4, h5, rfl⟩, hn, hc⟩ := h
  exact ⟨q, h5, (List.nodup_append.1 hn).2.1, fun b off hm => hc b off (by simp [hm])⟩
theorem tab_laid {W : World} (h : laidMet Tryz.prog Rows.syntaxParsesRow.laid W) : Tab W :=
  Tab.of (Lib.tabIs_of_head gPow gPowT Tryz.underlying135 Tryz.underlying128 (by kernel_rfl) (by kernel_rfl) (laidMet_tail (laidMet_tail h)))
theorem laidMetH_plain {l : List (String × DataW Unit)} {W : World} (h : laidMetH Tryz.prog l W) (hp : (l.all fun x => x.2.handleName?.isNone) = true) : laidMet Tryz.prog l W := by
  rw [MakeChecks.laidMetH_plain _ _ _ hp] at h; exact h
end Go.Proofs.YtfpcdgmdangmaaaGreatDoor
