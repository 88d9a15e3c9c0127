/-
  DERIVED. Several texts in one.
-/
import Derived.Test.YtplnnpkohdmiaaaGreatDoorYWLm
set_option linter.unusedVariables false
set_option linter.unusedSimpArgs false

/- DERIVED. The reference's Same, of trees that are the same. -/
namespace Go.Proofs.YtplnnpkohdmiaaaGreatDoor
open Go.RowKit
set_option maxRecDepth 100000

theorem below_dNm {n : Nat} {a b : World} (k : Nat) (h : Below n a b) : Below n a (b.drewN k) := ⟨h.os, h.tape, h.output, h.size, h.block⟩
/-- Between two rounds of Same's loop. -/
def SmRel (l m : List Cl) (w : World) (i : Value) (wr : World) : Prop :=
  ∃ k : Nat, k ≤ l.length ∧ i = .int .i64 k ∧ sames (l.drop k) (m.drop k) = true ∧ Below w.heap.size w wr
/-- What the reference's Same says of the items of the clauses of l. -/
def QSameOk (l : List Cl) : Prop := ∀ c ∈ l, ∀ (m : List Cl) (v u : Value) (ok ok' : Nat → Prop) (w : World), sames c.items m = true → ClSl w ok v c.items → ClSl w ok' u m →
  Calls Tryz.prog 12 #[v, u] w fun e w' => e = .returned (.bool true) ∧ Below w.heap.size w w'
theorem sames_leng : ∀ (l m : List Cl), sames l m = true → l.length = m.length := fun l m h => by
  by_cases e : l.length = m.length
  · exact e
  · rw [sames_len l m e] at h; cases h
theorem eqS_leng : ∀ (l m : List ByteArray), eqS l m = true → l.length = m.length := fun l m h => by
  by_cases e : l.length = m.length
  · exact e
  · rw [eqS_len l m e] at h; cases h

theorem eqS_at : ∀ {l m : List ByteArray} {k : Nat}, eqS l m = true → (h1 : k < l.length) → (h2 : k < m.length) → l[k].toList = m[k].toList
  | a :: l, b :: m, 0, h, _, _ => by simp only [eqS, Bool.and_eq_true, beq_iff_eq] at h; exact h.1
  | a :: l, b :: m, k + 1, h, h1, h2 => by
    simp only [eqS, Bool.and_eq_true] at h
    exact eqS_at h.2 (by simpa using h1) (by simpa using h2)
  | [], _, _, _, h1, _ => absurd h1 (by simp)
  | _ :: _, [], _, _, _, h2 => absurd h2 (by simp)
set_option maxHeartbeats 16000000 in
theorem q_same_step (l m : List Cl) (hS : QSameOk l) (hsm : sames l m = true) (v u : Value) (ok ok' : Nat → Prop) (w : World) (ha : ClSl w ok v l) (hb : ClSl w ok' u m) :
    Calls Tryz.prog 12 #[v, u] w fun e w' => e = .returned (.bool true) ∧ Below w.heap.size w w' := by
  have hfm : Tryz.prog.follows Departure.mixedOrders = true := by kernel_rfl
  have hlen := sames_leng l m hsm
  obtain ⟨A, c, rfl, h2, h3, -⟩ := id ha
  obtain ⟨A', c', rfl, h2', h3', -⟩ := id hb
  unfold maxLen at h3 h3'
  have Ha := Lib.hid ha
  have Hb := Lib.hid hb
  have HS := Lib.hid hS
  have Hsm := Lib.hid hsm
  have hl : (((l.length : Nat) : Int) != (m.length : Int)) = false := by rw [bne_eq_false_iff_eq]; omega
  have Hlen := Lib.hid hlen
  clear ha hb hS hsm hlen
  go_enter Tryz.func12, Tryz.ntmps12
  go_wp2_with (fail)
  go_loopw [5] (fun i wr => SmRel l m w i wr) (fun i wr => l.length - (intOf i).toNat)
  case atStart => exact ⟨0, Nat.zero_le _, rfl, Hsm.out, Below.refl _ _⟩
  case round =>
    obtain ⟨k, hk, rfl, hbk, hbl⟩ := hrel
    have HB := Lib.hid hbl
    by_cases hlt : k < l.length
    · have hlt2 : k < m.length := by have := Hlen.out; omega
      have hcin := List.getElem_mem hlt
      obtain ⟨b1, o1, c1, vn, vi, e1, -, -, -, hn1, hi1, q0, q1, q2, q3, q4, q5, q6, q7⟩ := (Ha.out.below hbl).at_ hlt
      obtain ⟨b2, o2, c2, un, ui, e2, -, -, -, hn2, hi2, p0, p1, p2, p3, p4, p5, p6, p7⟩ := (Hb.out.below hbl).at_ hlt2
      injection e1 with e1 _ e1'
      injection e2 with e2 _ e2'
      subst e1 e2 e1' e2'
      have hsd := sames_drop l m k hlt hlt2
      rw [hbk, eq_comm, Bool.and_eq_true] at hsd
      obtain ⟨hxy, hrest⟩ := hsd
      rw [Cl.same_eq] at hxy
      simp only [Bool.and_eq_true, beq_iff_eq] at hxy
      obtain ⟨s0, s1, s2, s3, s4, s5, s6⟩ := hxy
      have HR := Lib.hid hrest
      have hnl := eqS_leng _ _ s1
      obtain ⟨vA1, vc1, rfl, n11, n12, -⟩ := id hn1
      obtain ⟨vA3, vc3, rfl, n31, n32, -⟩ := id hn2
      obtain ⟨vA2, vn2, vc2, rfl⟩ := hi1.shape
      obtain ⟨vA4, vn4, vc4, rfl⟩ := hi2.shape
      unfold maxLen at n12 n32
      have HN1 := Lib.hid hn1
      have HN2 := Lib.hid hn2
      have HI1 := Lib.hid hi1
      have HI2 := Lib.hid hi2
      have HIt := fun W hW => HS.out _ hcin _ _ _ _ _ W s6 (hi1.below (w' := W) hW) (hi2.below hW)
      have HIT := Lib.hid HIt
      rw [← s0] at p0
      rw [← s2] at p2
      rw [← s3] at p3
      rw [← s4] at p4
      rw [← s5] at p5
      rw [← hnl] at p1 n31
      have Hnl := Lib.hid hnl
      have HE := Lib.hid s1
      have lt1 := cell_lt' q0
      have lt2 := cell_lt' p0
      clear hbk hrest hbl hn1 hn2 hi1 hi2 HIt s0 s2 s3 s4 s5 s6 hnl s1
      generalize l[k] = x at q0 q1 q2 q3 q4 q5 q6 q7 p0 p1 p2 p3 p4 p5 HN1 HI1 HIT HE Hnl n11 n31
      generalize m[k] = y at p7 HN2 HI2 HIT HE Hnl
      go_wp2_with (fail)
      go_region
      · obtain ⟨W, hW⟩ : ∃ W, W = ((wr.alloc (.cells #[.int .u8 x.kind, .slice vA1 x.names.length vc1, .int .u8 x.dom, .int .i64 x.idx, .int .i64 x.a, .int .i64 x.b, .slice vA2 vn2 vc2, .int .i64 x.off] 36)).alloc (.cells #[.int .u8 x.kind, .slice vA3 x.names.length vc3, .int .u8 x.dom, .int .i64 x.idx, .int .i64 x.a, .int .i64 x.b, .slice vA4 vn4 vc4, .int .i64 y.off] 36)).drew := ⟨_, rfl⟩
        have hx : W.heap[wr.heap.size]? = some (.cells #[.int .u8 x.kind, .slice vA1 x.names.length vc1, .int .u8 x.dom, .int .i64 x.idx, .int .i64 x.a, .int .i64 x.b, .slice vA2 vn2 vc2, .int .i64 x.off] 36 (0, 0)) := by rw [hW]; exact row_drew (row_alloc (row_new _ _ _ rfl) _)
        have hy : W.heap[wr.heap.size + 1]? = some (.cells #[.int .u8 x.kind, .slice vA3 x.names.length vc3, .int .u8 x.dom, .int .i64 x.idx, .int .i64 x.a, .int .i64 x.b, .slice vA4 vn4 vc4, .int .i64 y.off] 36 (0, 0)) := by rw [hW]; exact row_drew (row_new _ _ _ (by simp))
        have hBW : Below wr.heap.size wr W := by rw [hW]; exact (((Below.refl _ _).alloc (Nat.le_refl _) _).alloc (by simp) _).drew
        have hzW : wr.heap.size + 1 < W.heap.size := by rw [hW]; simp
        rw [← hW]
        clear hW
        obtain ⟨x0, x1, x2, x3, x4, x5, x6, x7⟩ := eight_cells hx
        obtain ⟨y0, y1, y2, y3, y4, y5, y6, y7⟩ := eight_cells hy
        have Hx := Lib.hid hx
        have Hy := Lib.hid hy
        have HBW := Lib.hid hBW
        clear hx hy hBW q0 q1 q2 q3 q4 q5 q6 q7 p0 p1 p2 p3 p4 p5 p6 p7
        go_wp2_with (go_at_call 12; refine (HIT.out W HBW.out).mono ?_; rintro e W2 ⟨rfl, b2⟩; have hx2 := (b2.block _ (by omega)).trans Hx.out; have hy2 := (b2.block _ (by omega)).trans Hy.out; obtain ⟨u0, u1, u2, u3, u4, u5, u6, u7⟩ := eight_cells hx2; obtain ⟨t0, t1, t2, t3, t4, t5, t6, t7⟩ := eight_cells hy2; have B2 := Lib.hid (HBW.out.trans (b2.mono HBW.out.size)); clear hx2 hy2 b2)
        go_loopw [8] (fun j wr2 => ∃ k2 n2 : Nat, k2 ≤ x.names.length ∧ j = .int .i64 k2 ∧ wr2 = W2.drewN n2) (fun j wr2 => x.names.length - (intOf j).toNat)
        case atStart => exact ⟨0, 0, Nat.zero_le _, rfl, rfl⟩
        case round =>
          obtain ⟨k2, n2, hk2, rfl, rfl⟩ := hrel
          by_cases hlk : k2 < x.names.length
          · have hlk2 : k2 < y.names.length := by have := Hnl.out; omega
            obtain ⟨nb1, no1, nc1, ne1, -, -, g1⟩ := (HN1.out.below B2.out).at_ hlk
            obtain ⟨nb2, no2, nc2, ne2, -, -, g2⟩ := (HN2.out.below B2.out).at_ hlk2
            injection ne1 with ne1 _ ne1'
            injection ne2 with ne2 _ ne2'
            subst ne1 ne2 ne1' ne2'
            have hte := eqS_at HE.out hlk hlk2
            generalize x.names[k2] = ta at g1 hte
            generalize y.names[k2] = tb at g2 hte
            have d1 : (ta.toList != tb.toList) = false := by rw [bne_eq_false_iff_eq]; exact hte
            have d2 : (ta.toList == tb.toList) = true := by rw [beq_iff_eq]; exact hte
            clear hte
            go_wp2_with (fail)
            go_quiet (fail)
            go_wp2_with (fail)
            exact ⟨⟨k2 + 1, n2 + nq, by omega, by go_num, rfl⟩, by simp [intOf]; omega⟩
          · go_wp2_with (fail)
            exact ⟨⟨k + 1, by omega, by go_num, HR.out, (HB.out.trans (B2.out.mono HB.out.size)).trans (below_dNm _ (Below.refl _ _))⟩, by simp [intOf]; omega⟩
      · obtain ⟨W, hW⟩ : ∃ W, W = ((wr.alloc (.cells #[.int .u8 x.kind, .slice vA3 x.names.length vc3, .int .u8 x.dom, .int .i64 x.idx, .int .i64 x.a, .int .i64 x.b, .slice vA4 vn4 vc4, .int .i64 y.off] 36)).alloc (.cells #[.int .u8 x.kind, .slice vA1 x.names.length vc1, .int .u8 x.dom, .int .i64 x.idx, .int .i64 x.a, .int .i64 x.b, .slice vA2 vn2 vc2, .int .i64 x.off] 36)).drew := ⟨_, rfl⟩
        have hx : W.heap[wr.heap.size + 1]? = some (.cells #[.int .u8 x.kind, .slice vA1 x.names.length vc1, .int .u8 x.dom, .int .i64 x.idx, .int .i64 x.a, .int .i64 x.b, .slice vA2 vn2 vc2, .int .i64 x.off] 36 (0, 0)) := by rw [hW]; exact row_drew (row_new _ _ _ (by simp))
        have hy : W.heap[wr.heap.size]? = some (.cells #[.int .u8 x.kind, .slice vA3 x.names.length vc3, .int .u8 x.dom, .int .i64 x.idx, .int .i64 x.a, .int .i64 x.b, .slice vA4 vn4 vc4, .int .i64 y.off] 36 (0, 0)) := by rw [hW]; exact row_drew (row_alloc (row_new _ _ _ rfl) _)
        have hBW : Below wr.heap.size wr W := by rw [hW]; exact (((Below.refl _ _).alloc (Nat.le_refl _) _).alloc (by simp) _).drew
        have hzW : wr.heap.size + 1 < W.heap.size := by rw [hW]; simp
        rw [← hW]
        clear hW
        obtain ⟨x0, x1, x2, x3, x4, x5, x6, x7⟩ := eight_cells hx
        obtain ⟨y0, y1, y2, y3, y4, y5, y6, y7⟩ := eight_cells hy
        have Hx := Lib.hid hx
        have Hy := Lib.hid hy
        have HBW := Lib.hid hBW
        clear hx hy hBW q0 q1 q2 q3 q4 q5 q6 q7 p0 p1 p2 p3 p4 p5 p6 p7
        go_wp2_with (go_at_call 12; refine (HIT.out W HBW.out).mono ?_; rintro e W2 ⟨rfl, b2⟩; have hx2 := (b2.block _ (by omega)).trans Hx.out; have hy2 := (b2.block _ (by omega)).trans Hy.out; obtain ⟨u0, u1, u2, u3, u4, u5, u6, u7⟩ := eight_cells hx2; obtain ⟨t0, t1, t2, t3, t4, t5, t6, t7⟩ := eight_cells hy2; have B2 := Lib.hid (HBW.out.trans (b2.mono HBW.out.size)); clear hx2 hy2 b2)
        go_loopw [8] (fun j wr2 => ∃ k2 n2 : Nat, k2 ≤ x.names.length ∧ j = .int .i64 k2 ∧ wr2 = W2.drewN n2) (fun j wr2 => x.names.length - (intOf j).toNat)
        case atStart => exact ⟨0, 0, Nat.zero_le _, rfl, rfl⟩
        case round =>
          obtain ⟨k2, n2, hk2, rfl, rfl⟩ := hrel
          by_cases hlk : k2 < x.names.length
          · have hlk2 : k2 < y.names.length := by have := Hnl.out; omega
            obtain ⟨nb1, no1, nc1, ne1, -, -, g1⟩ := (HN1.out.below B2.out).at_ hlk
            obtain ⟨nb2, no2, nc2, ne2, -, -, g2⟩ := (HN2.out.below B2.out).at_ hlk2
            injection ne1 with ne1 _ ne1'
            injection ne2 with ne2 _ ne2'
            subst ne1 ne2 ne1' ne2'
            have hte := eqS_at HE.out hlk hlk2
            generalize x.names[k2] = ta at g1 hte
            generalize y.names[k2] = tb at g2 hte
            have d1 : (ta.toList != tb.toList) = false := by rw [bne_eq_false_iff_eq]; exact hte
            have d2 : (ta.toList == tb.toList) = true := by rw [beq_iff_eq]; exact hte
            clear hte
            go_wp2_with (fail)
            go_quiet (fail)
            go_wp2_with (fail)
            exact ⟨⟨k2 + 1, n2 + nq, by omega, by go_num, rfl⟩, by simp [intOf]; omega⟩
          · go_wp2_with (fail)
            exact ⟨⟨k + 1, by omega, by go_num, HR.out, (HB.out.trans (B2.out.mono HB.out.size)).trans (below_dNm _ (Below.refl _ _))⟩, by simp [intOf]; omega⟩
    · go_wp2_with (fail)
      go_ret
      exact ⟨rfl, HB.out⟩
theorem q_same_ind : ∀ (n : Nat) (l : List Cl), SizeOf.sizeOf l < n → ∀ (m : List Cl) (v u : Value) (ok ok' : Nat → Prop) (w : World), sames l m = true → ClSl w ok v l → ClSl w ok' u m →
    Calls Tryz.prog 12 #[v, u] w fun e w' => e = .returned (.bool true) ∧ Below w.heap.size w w'
  | 0, _, h => absurd h (by omega)
  | n + 1, l, h => fun m v u ok ok' w hs ha hb => q_same_step l m (fun c hc m' v' u' ok1 ok2 w' hs' h1 h2 => q_same_ind n c.items (by
      have h3 := List.sizeOf_lt_of_mem hc
      have h4 := c.items_lt
      omega) m' v' u' ok1 ok2 w' hs' h1 h2) hs v u ok ok' w ha hb
/-- The reference's Same, of trees that are the same. -/
theorem q_Same (l m : List Cl) (hs : sames l m = true) (v u : Value) (ok ok' : Nat → Prop) (w : World) (ha : ClSl w ok v l) (hb : ClSl w ok' u m) :
    Calls Tryz.prog 12 #[v, u] w fun e w' => e = .returned (.bool true) ∧ Below w.heap.size w w' := q_same_ind (SizeOf.sizeOf l + 1) l (by omega) m v u ok ok' w hs ha hb
end Go.Proofs.YtplnnpkohdmiaaaGreatDoor
