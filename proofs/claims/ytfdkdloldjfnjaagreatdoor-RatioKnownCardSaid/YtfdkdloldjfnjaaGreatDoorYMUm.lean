/-
  DERIVED. Several texts in one.
-/
import Derived.Test.YtfdkdloldjfnjaaGreatDoorYMQm
set_option linter.unusedVariables false
set_option linter.unusedSimpArgs false

/- DERIVED. negation, its closure; quotient. -/
namespace Go.Proofs.YtfdkdloldjfnjaaGreatDoor
open Go.RowKit
set_option maxRecDepth 100000

theorem row_new4 (W : World) (o : Obj) (b : Nat) (hb : b = W.heap.size) : (W.alloc o).heap[b]? = some o := by subst hb; exact heap_alloc_new W o
/-- A fresh fraction. -/
def ResZ (g : Nat) (X : World) : Prop := X.heap[g]? = some (.cells #[.bool false, .slice none 0 0, .slice none 0 0] 25 (0, 0))
theorem ResZ.on {g : Nat} {X Y : World} {B : Nat} (h : ResZ g X) (hb : Below B X Y) (hB : g < B) : ResZ g Y := (hb.block _ hB).trans h
theorem ResZ.drew {g : Nat} {X : World} (h : ResZ g X) : ResZ g X.drew := h
/-- Limbs do not lie where a fraction's fields lie. -/
theorem natSl_off {X : World} {b : Nat} {v : Value} {l : List Nat} {ok : Nat → Prop} {s : Bool} {p p' : Option Addr} {q r q' r' : Nat} {T : TypeId} (h : NatSl X ok v l) (hr : X.heap[b]? = some (.cells #[.bool s, .slice p q r, .slice p' q' r'] T (0, 0))) :
    NatSl X (fun i => ok i ∧ i ≠ b) v l := by
  obtain ⟨A, c, h1, h2, h3, h4⟩ := h
  refine ⟨A, c, h1, h2, h3, fun hl => ?_⟩
  obtain ⟨b', o, e, hb, hc⟩ := h4 hl
  refine ⟨b', o, e, ⟨hb, fun hbb => ?_⟩, hc⟩
  subst hbb
  have := hc 0 (l[0]'hl) (List.getElem?_eq_getElem hl)
  simp only [World.cell?, hr] at this
  rcases o with _ | _ | _ | o <;> simp at this
theorem natSl_storeZ {X : World} {b : Nat} {v : Value} {l : List Nat} {s : Bool} {p p' : Option Addr} {q r q' r' : Nat} {T : TypeId} (h : NatSl X (fun i => i < X.heap.size) v l) (hr : X.heap[b]? = some (.cells #[.bool s, .slice p q r, .slice p' q' r'] T (0, 0))) (x0 x1 x2 : Value) :
    NatSl (((X.setCell ⟨b, 0, none⟩ x0).setCell ⟨b, 1, none⟩ x1).setCell ⟨b, 2, none⟩ x2) (fun i => i < (((X.setCell ⟨b, 0, none⟩ x0).setCell ⟨b, 1, none⟩ x1).setCell ⟨b, 2, none⟩ x2).heap.size) v l :=
  (natSl_off h hr).stand fun k hk => ⟨by simpa [World.setCell] using hk.1, by
    have : k ≠ b := hk.2
    rw [Below.heap_setCell _ _ _ _ this, Below.heap_setCell _ _ _ _ this, Below.heap_setCell _ _ _ _ this]⟩
theorem resz_new (w : World) (o o' : Obj) : ResZ (w.heap.size + 2) (((w.alloc o).alloc o').alloc (.cells #[.bool false, .slice none 0 0, .slice none 0 0] 25)) := by
  have := heap_alloc_new ((w.alloc o).alloc o') (.cells #[.bool false, .slice none 0 0, .slice none 0 0] 25)
  unfold ResZ
  simpa using this
/-- The sign of a negated fraction. -/
def negP (t p : Bool) (n : Nat) : Bool := (t != p) && decide (0 < n)

set_option maxHeartbeats 1000000 in
theorem c_negation1 (t p : Bool) (n d : Nat) (v : Value) (g : Nat) (w : World) (h : Fr w v t n d) (hg : w.cell? ⟨g, 0, none⟩ = some (.bool p)) (hgs : g < w.heap.size) :
    Calls Tryz.prog 112 #[v, .pointer (some ⟨g, 0, none⟩)] w (FrPost (negP t p n) n d w) := by
  obtain ⟨v1, v2, rfl, h1, h2⟩ := h
  obtain ⟨A1, c1, rfl⟩ := h1.shape
  obtain ⟨A2, c2, rfl⟩ := h2.shape
  have H1 := Lib.hid h1
  have H2 := Lib.hid h2
  clear h1 h2
  have hne : g ≠ w.heap.size := by omega
  have hne2 : g ≠ w.heap.size + 1 := by omega
  have hn : decide (0 < (nat n).length) = decide (0 < n) := decide_eq_decide.2 nat_len_pos
  go_enter Tryz.func112, Tryz.ntmps112
  go_wp2_with (fail)
  all_goals refine ret3 (b := w.heap.size + 1) rfl rfl rfl (row_new4 _ _ _ (by simp)) ⟨_, rfl, ?_, ((Below.refl _ _).alloc (Nat.le_refl _) _).alloc (by simp) _⟩
  · subst_vars
    rw [show negP p p n = false by unfold negP; simp]
    exact Fr.on ⟨_, _, rfl, H1.out, H2.out⟩ (((Below.refl _ _).alloc (Nat.le_refl _) _).alloc (by simp) _)
  · exact Fr.on ⟨_, _, rfl, H1.out, H2.out⟩ (((Below.refl _ _).alloc (Nat.le_refl _) _).alloc (by simp) _)
theorem c_negation (p : Bool) (w : World) :
    Calls Tryz.prog 80 #[.bool p] w fun e w' => e = .returned (.func (.func 112) #[] #[.pointer (some ⟨w.heap.size, 0, none⟩)]) ∧ w' = w.alloc (.cells #[.bool p] 4) := by
  go_enter Tryz.func80, Tryz.ntmps80
  go_wp2_with (fail)
  exact bodyPost_ret (by simp [results, Tryz.func80, go_sem]) rfl ⟨rfl, rfl⟩

set_option maxHeartbeats 1000000 in
theorem c_quotient (s t : Bool) (m n a b : Nat) (hm : (nat m).length ≤ 20000) (hn : (nat n).length ≤ 20000) (ha : (nat a).length ≤ 20000) (hb : (nat b).length ≤ 20000) (v u : Value) (w : World) (h : Fr w v s m a) (k : Fr w u t n b) :
    Calls Tryz.prog 67 #[v, u] w (FrPost (s != t) (m * b) (a * n) w) := by
  obtain ⟨v1, v2, rfl, h1, h2⟩ := h
  obtain ⟨u1, u2, rfl, k1, k2⟩ := k
  obtain ⟨A1, c1, rfl⟩ := h1.shape
  obtain ⟨A2, c2, rfl⟩ := h2.shape
  obtain ⟨B1, d1, rfl⟩ := k1.shape
  obtain ⟨B2, d2, rfl⟩ := k2.shape
  have H1 := Lib.hid h1
  have H2 := Lib.hid h2
  have K1 := Lib.hid k1
  have K2 := Lib.hid k2
  clear h1 h2 k1 k2
  go_enter Tryz.func67, Tryz.ntmps67
  go_wp2_with (fail)
  obtain ⟨W, hW⟩ : ∃ W, W = ((w.alloc (.cells #[.bool s, .slice A1 (nat m).length c1, .slice A2 (nat a).length c2] 25)).alloc (.cells #[.bool t, .slice B2 (nat b).length d2, .slice B1 (nat n).length d1] 25)).alloc (.cells #[.bool false, .slice none 0 0, .slice none 0 0] 25) := ⟨_, rfl⟩
  have R0 : ResZ (w.heap.size + 2) W := by subst hW; exact resz_new w _ _
  have B0 : Below w.heap.size w W := by subst hW; exact (((Below.refl _ _).alloc (Nat.le_refl _) _).alloc (by simp) _).alloc (by simp; omega) _
  have hz : w.heap.size + 2 < W.heap.size := by subst hW; simp
  rw [← hW]
  clear hW
  refine (c_product s t m b a n hm hb ha hn _ _ W (Fr.on ⟨_, _, rfl, H1.out, H2.out⟩ B0) (Fr.on ⟨_, _, rfl, K2.out, K1.out⟩ B0)).mono ?_
  rintro e w' ⟨v, rfl, ⟨q1, q2, rfl, g1, g2⟩, hb'⟩
  obtain ⟨C1, e1, rfl⟩ := g1.shape
  obtain ⟨C2, e2, rfl⟩ := g2.shape
  have G1 := Lib.hid g1
  have G2 := Lib.hid g2
  have HB := Lib.hid (below_join B0 hb' B0.size)
  have hres := R0.on hb' hz
  obtain ⟨r0, r1, r2⟩ := three_cells hres
  obtain ⟨f0, f1, f2⟩ := three_frozen hres
  have HRES := Lib.hid hres
  clear hres g1 g2 R0 B0 hb'
  go_wp2_with (fail)
  refine ret3 (b := w.heap.size + 1 + 1) rfl rfl rfl (row_store3 HRES.out _ _ _) ⟨_, rfl, ⟨_, _, rfl, ?_, ?_⟩, below_store3 HB.out (by omega) _ _ _⟩
  · exact natSl_storeZ G1.out HRES.out _ _ _
  · exact natSl_storeZ G2.out HRES.out _ _ _
end Go.Proofs.YtfdkdloldjfnjaaGreatDoor

/- DERIVED. difference, order. -/
namespace Go.Proofs.YtfdkdloldjfnjaaGreatDoor
open Go.RowKit
set_option maxRecDepth 100000

theorem Six.all {g : Nat} {s : Bool} {v1 v2 : Value} {t : Bool} {u1 u2 : Value} {X : World} (h : Six g s v1 v2 t u1 u2 X) : X.cell? ⟨g, 0, none⟩ = some (.bool s) ∧ X.cell? ⟨g, 1, none⟩ = some v1 ∧ X.cell? ⟨g, 2, none⟩ = some v2 ∧ X.cell? ⟨g + 1, 0, none⟩ = some (.bool t) ∧ X.cell? ⟨g + 1, 1, none⟩ = some u1 ∧ X.cell? ⟨g + 1, 2, none⟩ = some u2 := h

set_option maxHeartbeats 1000000 in
theorem c_difference (s t : Bool) (m n a b : Nat) (hm : (nat m).length ≤ 20000) (hn : (nat n).length ≤ 20000) (ha : (nat a).length ≤ 20000) (hb : (nat b).length ≤ 20000) (v u : Value) (w : World) (h : Fr w v s m a) (k : Fr w u t n b) :
    Calls Tryz.prog 65 #[v, u] w (FrPost (sumP s m a (negP t true n) n b).1 (sumP s m a (negP t true n) n b).2 (a * b) w) := by
  obtain ⟨v1, v2, rfl, h1, h2⟩ := h
  obtain ⟨u1, u2, rfl, k1, k2⟩ := k
  obtain ⟨A1, c1, rfl⟩ := h1.shape
  obtain ⟨A2, c2, rfl⟩ := h2.shape
  obtain ⟨B1, d1, rfl⟩ := k1.shape
  obtain ⟨B2, d2, rfl⟩ := k2.shape
  have HF := Lib.hid (show Fr w (.agg #[.bool s, .slice A1 (nat m).length c1, .slice A2 (nat a).length c2]) s m a from ⟨_, _, rfl, h1, h2⟩)
  have HG := Lib.hid (show Fr w (.agg #[.bool t, .slice B1 (nat n).length d1, .slice B2 (nat b).length d2]) t n b from ⟨_, _, rfl, k1, k2⟩)
  clear h1 h2 k1 k2
  obtain ⟨q, p, hqp⟩ : ∃ q p, sumP s m a (negP t true n) n b = (q, p) := ⟨_, _, rfl⟩
  have HQ := Lib.hid hqp
  rw [hqp]
  clear hqp
  go_enter Tryz.func65, Tryz.ntmps65
  go_wp2_with (go_at_call 80; refine (c_negation true _).mono ?_; rintro e w1 ⟨rfl, rfl⟩)
  obtain ⟨W, hW⟩ : ∃ W, W = (((w.alloc (.cells #[.bool s, .slice A1 (nat m).length c1, .slice A2 (nat a).length c2] 25)).alloc (.cells #[.bool t, .slice B1 (nat n).length d1, .slice B2 (nat b).length d2] 25)).alloc (.cells #[.bool false, .slice none 0 0, .slice none 0 0] 25)).alloc (.cells #[.bool true] 4) := ⟨_, rfl⟩
  have B1' : Below (w.heap.size + 3) (((w.alloc (.cells #[.bool s, .slice A1 (nat m).length c1, .slice A2 (nat a).length c2] 25)).alloc (.cells #[.bool t, .slice B1 (nat n).length d1, .slice B2 (nat b).length d2] 25)).alloc (.cells #[.bool false, .slice none 0 0, .slice none 0 0] 25)) W := by subst hW; exact (Below.refl _ _).alloc (by simp) _
  have S0 : Six w.heap.size s (.slice A1 (nat m).length c1) (.slice A2 (nat a).length c2) t (.slice B1 (nat n).length d1) (.slice B2 (nat b).length d2) W := (six_new w _ _ _ _ _ _ _).on B1' (by omega)
  have R0 : ResZ (w.heap.size + 2) W := (resz_new w _ _).on B1' (by omega)
  have B0 : Below w.heap.size w W := by subst hW; exact ((((Below.refl _ _).alloc (Nat.le_refl _) _).alloc (by simp) _).alloc (by simp; omega) _).alloc (by simp; omega) _
  have hz : w.heap.size + 3 < W.heap.size := by subst hW; simp
  have q0 : W.cell? ⟨w.heap.size + 3, 0, none⟩ = some (.bool true) := by
    have := row_new4 (((w.alloc (.cells #[.bool s, .slice A1 (nat m).length c1, .slice A2 (nat a).length c2] 25)).alloc (.cells #[.bool t, .slice B1 (nat n).length d1, .slice B2 (nat b).length d2] 25)).alloc (.cells #[.bool false, .slice none 0 0, .slice none 0 0] 25)) (.cells #[.bool true] 4) (w.heap.size + 3) (by simp)
    rw [← hW] at this
    simp [World.cell?, this]
  rw [← hW]
  have hg3 : (((w.alloc (.cells #[.bool s, .slice A1 (nat m).length c1, .slice A2 (nat a).length c2] 25)).alloc (.cells #[.bool t, .slice B1 (nat n).length d1, .slice B2 (nat b).length d2] 25)).alloc (.cells #[.bool false, .slice none 0 0, .slice none 0 0] 25)).heap.size = w.heap.size + 3 := by simp
  try rw [hg3]
  clear hW hg3 B1'
  have HNE := Lib.hid (c_negation1 t true n b (.agg #[.bool t, .slice B1 (nat n).length d1, .slice B2 (nat b).length d2]) (w.heap.size + 3) W.drew (HG.out.on B0.drew) q0 hz)
  have HB0 := Lib.hid B0
  have HS0 := Lib.hid S0
  have HR0 := Lib.hid R0
  clear B0 S0 R0 HG q0
  go_region_held3 (fun X => X.cell? ⟨w.heap.size, 0, none⟩ = some (.bool s) ∧ X.cell? ⟨w.heap.size, 1, none⟩ = some (.slice A1 (nat m).length c1) ∧ X.cell? ⟨w.heap.size, 2, none⟩ = some (.slice A2 (nat a).length c2) ∧ X.cell? ⟨w.heap.size + 1, 0, none⟩ = some (.bool t) ∧ X.cell? ⟨w.heap.size + 1, 1, none⟩ = some (.slice B1 (nat n).length d1) ∧ X.cell? ⟨w.heap.size + 1, 2, none⟩ = some (.slice B2 (nat b).length d2))
    (first | exact HSb.out | exact HSb.out.store3 (by omega) _ _ _ | exact HSa.out | exact HS0.out)
    (first
      | (go_at_call 112; (with_reducible refine HNE.out.mono ?_); rintro e wa ⟨ra, rfl, hra, hba0⟩; have hba := Below.undrew hba0; have HSa := Lib.hid (HS0.out.on hba (by omega)); have HRa := Lib.hid (HR0.out.on hba (by omega)); have HBa := Lib.hid (below_join HB0.out hba HB0.out.size); have HNa := Lib.hid hra; have hza := hba.size; clear hra hba hba0)
      | (go_at_call 64; (with_reducible refine (c_sum s (negP t true n) m n a b hm hn ha hb _ _ _ (HF.out.on HBa.out) HNa.out).mono ?_); rw [HQ.out]; rintro e wb ⟨rb, rfl, hrb, hbb⟩; obtain ⟨q1, q2, rfl, g1, g2⟩ := hrb; obtain ⟨C1, x1, rfl⟩ := g1.shape; obtain ⟨C2, x2, rfl⟩ := g2.shape; have HSb := Lib.hid (HSa.out.on hbb (by omega)); have hres := HRa.out.on hbb (by omega); have HBb := Lib.hid (below_join HBa.out hbb HBa.out.size); have G1 := Lib.hid g1; have G2 := Lib.hid g2; have hzb := hbb.size; clear g1 g2 hbb; obtain ⟨e0, e1, e2⟩ := three_cells hres; obtain ⟨f0, f1, f2⟩ := three_frozen hres; have HRES := Lib.hid hres; clear hres))
  go_wp2_with (fail)
  refine ret3 (b := w.heap.size + 1 + 1) rfl rfl rfl (row_store3 HRES.out _ _ _) ⟨_, rfl, ⟨_, _, rfl, ?_, ?_⟩, below_store3 HBb.out (by omega) _ _ _⟩
  · exact natSl_storeZ G1.out HRES.out _ _ _
  · exact natSl_storeZ G2.out HRES.out _ _ _
end Go.Proofs.YtfdkdloldjfnjaaGreatDoor

/- DERIVED. order. -/
namespace Go.Proofs.YtfdkdloldjfnjaaGreatDoor
open Go.RowKit
set_option maxRecDepth 100000

/-- The sign of a number given by sign and magnitude. -/
def ordP (r : Bool × Nat) : Int := if r.2 = 0 then 0 else if r.1 = true then -1 else 1

set_option maxHeartbeats 1000000 in
theorem c_order (s t : Bool) (m n a b : Nat) (hm : (nat m).length ≤ 20000) (hn : (nat n).length ≤ 20000) (ha : (nat a).length ≤ 20000) (hb : (nat b).length ≤ 20000) (v u : Value) (w : World) (h : Fr w v s m a) (k : Fr w u t n b) :
    Calls Tryz.prog 71 #[v, u] w fun e w' => e = .returned (.int .i64 (ordP (sumP s m a (negP t true n) n b))) ∧ Below w.heap.size w w' := by
  obtain ⟨v1, v2, rfl, h1, h2⟩ := h
  obtain ⟨u1, u2, rfl, k1, k2⟩ := k
  obtain ⟨A1, c1, rfl⟩ := h1.shape
  obtain ⟨A2, c2, rfl⟩ := h2.shape
  obtain ⟨B1, d1, rfl⟩ := k1.shape
  obtain ⟨B2, d2, rfl⟩ := k2.shape
  have HF := Lib.hid (show Fr w (.agg #[.bool s, .slice A1 (nat m).length c1, .slice A2 (nat a).length c2]) s m a from ⟨_, _, rfl, h1, h2⟩)
  have HG := Lib.hid (show Fr w (.agg #[.bool t, .slice B1 (nat n).length d1, .slice B2 (nat b).length d2]) t n b from ⟨_, _, rfl, k1, k2⟩)
  clear h1 h2 k1 k2
  obtain ⟨q, p, hqp⟩ : ∃ q p, sumP s m a (negP t true n) n b = (q, p) := ⟨_, _, rfl⟩
  have HD := Lib.hid (fun X hX => c_difference s t m n a b hm hn ha hb _ _ X (HF.out.on hX) (HG.out.on hX))
  rw [hqp] at HD
  rw [hqp]
  clear hqp HF HG
  have HB := Lib.hid (((Below.refl w.heap.size w).alloc (Nat.le_refl _) (.cells #[.bool s, .slice A1 (nat m).length c1, .slice A2 (nat a).length c2] 25)).alloc (by simp) (.cells #[.bool t, .slice B1 (nat n).length d1, .slice B2 (nat b).length d2] 25))
  by_cases hp : p = 0
  · subst hp
    have hl : (nat 0).length = 0 := by have := mt (nat_len_pos (n := 0)).1 (by omega); omega
    have hl3 : ((((nat 0).length : Nat) : Int) == 0) = true := by rw [hl]; rfl
    rw [show ordP (q, 0) = 0 from if_pos rfl]
    go_enter Tryz.func71, Tryz.ntmps71
    go_wp2_with (go_at_call 65; (with_reducible refine (HD.out _ HB.out).mono ?_); rintro e w1 ⟨r, rfl, ⟨q1, q2, rfl, g1, g2⟩, hb1⟩; obtain ⟨C1, x1, rfl⟩ := g1.shape; obtain ⟨C2, x2, rfl⟩ := g2.shape; have HB1 := Lib.hid (below_join HB.out hb1 HB.out.size); clear g1 g2 hb1)
    all_goals first | exact absurd (hl3.symm.trans (by assumption)) (by decide) | exact bodyPost_ret (by simp [results, go_sem]; done) rfl ⟨rfl, HB1.out.alloc HB1.out.size _⟩ | (exfalso; omega) | (exfalso; simp_all; done)
  · have hl : (nat p).length ≠ 0 := by have := (nat_len_pos (n := p)).2 (by omega); omega
    have hl2 : ((nat p).length : Int) ≠ 0 := by omega
    cases q with
    | true =>
      rw [show ordP (true, p) = -1 from (if_neg hp).trans (if_pos rfl)]
      go_enter Tryz.func71, Tryz.ntmps71
      go_wp2_with (go_at_call 65; (with_reducible refine (HD.out _ HB.out).mono ?_); rintro e w1 ⟨r, rfl, ⟨q1, q2, rfl, g1, g2⟩, hb1⟩; obtain ⟨C1, x1, rfl⟩ := g1.shape; obtain ⟨C2, x2, rfl⟩ := g2.shape; have HB1 := Lib.hid (below_join HB.out hb1 HB.out.size); clear g1 g2 hb1)
      all_goals first | exact absurd (hl3.symm.trans (by assumption)) (by decide) | exact bodyPost_ret (by simp [results, go_sem]; done) rfl ⟨rfl, HB1.out.alloc HB1.out.size _⟩ | (exfalso; omega) | (exfalso; simp_all; done)
    | false =>
      rw [show ordP (false, p) = 1 from (if_neg hp).trans (if_neg Bool.false_ne_true)]
      go_enter Tryz.func71, Tryz.ntmps71
      go_wp2_with (go_at_call 65; (with_reducible refine (HD.out _ HB.out).mono ?_); rintro e w1 ⟨r, rfl, ⟨q1, q2, rfl, g1, g2⟩, hb1⟩; obtain ⟨C1, x1, rfl⟩ := g1.shape; obtain ⟨C2, x2, rfl⟩ := g2.shape; have HB1 := Lib.hid (below_join HB.out hb1 HB.out.size); clear g1 g2 hb1)
      all_goals first | exact absurd (hl3.symm.trans (by assumption)) (by decide) | exact bodyPost_ret (by simp [results, go_sem]; done) rfl ⟨rfl, HB1.out.alloc HB1.out.size _⟩ | (exfalso; omega) | (exfalso; simp_all; done)
end Go.Proofs.YtfdkdloldjfnjaaGreatDoor
