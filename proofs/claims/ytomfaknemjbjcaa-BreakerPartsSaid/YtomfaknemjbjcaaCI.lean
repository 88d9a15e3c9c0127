/-
  DERIVED. The law BreakerParts. (Written by gen/genCI.py.)
-/
import Derived.Test.YtomfaknemjbjcaaCH
import Derived.Test.YtomfaknemjbjcaaBK
import Derived.Deep.RegionHeld3
namespace Go.Proofs.Ytomfaknemjbjcaa
open Go.RowKit
set_option maxRecDepth 100000

theorem lit2 {w : World} {A1 A2 : Option Addr} {n1 n2 c1 c2 : Nat} {T : TypeId} : (w.alloc (.cells #[.slice A1 n1 c1, .slice A2 n2 c2] T)).heap[w.heap.size]? = some (.cells #[.slice A1 n1 c1, .slice A2 n2 c2] T (0, 0)) := heap_alloc_new _ _
theorem StSl.drop1 {w : World} {A : Option Addr} {c n : Nat} {x : Int × Bool} {l : List (Int × Bool)} (h : StSl w (.slice A n c) (x :: l)) : ∃ b o, A = some ⟨b, o, none⟩ ∧ n = l.length + 1 ∧ (∀ off : Nat, (0 < l.length → off = o + 2) → StSl w (.slice (some ⟨b, off, none⟩) l.length (c - 1)) l) := by
  obtain ⟨A', c', e, h2, h3, h5, h4⟩ := h
  injection e with e1 e2 e3
  subst e1 e2 e3
  obtain ⟨b, o, rfl, hlt, hc⟩ := h4 (by simp)
  refine ⟨b, o, rfl, by simp, fun off hoff => ⟨some ⟨b, off, none⟩, c - 1, rfl, by simp at h2; omega, by omega, (by intro h; cases h), fun h0 => ⟨b, off, rfl, hlt, fun j y hj => ?_⟩⟩⟩
  have := hc (j + 1) y (by simpa using hj)
  rw [hoff h0]
  rw [show o + (j + 1) * 2 = o + 2 + j * 2 by omega] at this
  exact this
theorem StSl.cap {w : World} {A : Option Addr} {c n : Nat} {l : List (Int × Bool)} (h : StSl w (.slice A n c) l) : n = l.length ∧ n ≤ c ∧ c ≤ maxLen := by
  obtain ⟨A', c', e, h2, h3, -⟩ := h
  injection e with e1 e2 e3
  subst e1 e2 e3
  exact ⟨rfl, h2, h3⟩
theorem StSl.drop1_at {w : World} {A : Option Addr} {c n : Nat} {x : Int × Bool} {l : List (Int × Bool)} (h : StSl w (.slice A n c) (x :: l)) : ∃ b o, A = some ⟨b, o, none⟩ ∧ n = l.length + 1 ∧ (∀ off : Nat, (0 < l.length → off = o + 2) → StSl w (.slice (some ⟨b, off, none⟩) l.length (c - 1)) l) := h.drop1
theorem vs_fold {L S F : Int} (hS : S ≤ 1000000) : ∀ (l : List Int) (x : Int × Bool), Vs S x → Vs S (l.foldl (nx L S F) x) := by
  intro l
  induction l with
  | nil => intro x h; exact h
  | cons w l ih => intro x h; exact ih _ (vs_nx h hS)
theorem fltS_ok {L S F : Int} {x : Int × Bool} {l : List Int} (hb : bOk L S F = true) (hv : Vs S x) (hl : lsOk l = true) : fltS L S F x.1 x.2 l = 0 := by
  have ht : tOk S x.1 x.2 = true := by
    rw [tOk_sOk (by have := bOk_iff.1 hb; omega)]
    exact sOk_iff.2 hv
  unfold fltS
  rw [hb, ht, hl]
  rfl
theorem crs_vs {L S F : Int} (hS : S ≤ 1000000) (l : List Int) : ∀ (x : Int × Bool), Vs S x → ∀ (i : Nat) (y : Int × Bool), (x :: crs L S F x l)[i]? = some y → Vs S y := by
  induction l with
  | nil =>
    intro x h i y hy
    cases i with
    | zero => simp at hy; subst hy; exact h
    | succ i => simp [crs] at hy
  | cons w l ih =>
    intro x h i y hy
    cases i with
    | zero => simp at hy; subst hy; exact h
    | succ i => exact ih _ (vs_nx h hS) i y hy
theorem below_box {B : Nat} {w0 wr w' : World} (hB : Below B w0 wr) (hZ : B ≤ wr.heap.size) (b : Below (wr.alloc (.cells #[.int .i64 0, .bool false] 25)).drew.heap.size (wr.alloc (.cells #[.int .i64 0, .bool false] 25)).drew w') :
    Below B w0 w' ∧ wr.heap.size + 1 ≤ w'.heap.size ∧ St w' wr.heap.size 0 false := by
  have hz : wr.heap.size < (wr.alloc (.cells #[.int .i64 0, .bool false] 25)).heap.size := by rw [World.size_alloc]; omega
  have h1 : (wr.alloc (.cells #[.int .i64 0, .bool false] 25)).heap.size ≤ w'.heap.size := b.size
  have hX := (hB.alloc hZ (.cells #[.int .i64 0, .bool false] 25)).drew
  refine ⟨below_join hX b (Nat.le_trans hZ (Nat.le_of_lt hz)), by rw [World.size_alloc] at h1; exact h1, ?_⟩
  exact (b.block _ hz).trans (st_new wr 0 false)
set_option maxHeartbeats 16000000 in
theorem row_BreakerParts (w : World) (a b c e : Nat) (ha : a ≤ 255) (hb : b ≤ 255) (hc : c ≤ 255) (he : e ≤ 255) (v1 : Value) (l0 : List Nat) (hv1 : U8Sl w v1 l0) (v2 : Value) (m0 : List Nat) (hv2 : U8Sl w v2 m0) :
    Calls Try.prog 8 #[smV a b c e, v1, v2] w fun e w' => e = .returned (.bool true) ∧ Below w.heap.size w w' := by
  obtain ⟨h, hh⟩ : ∃ h, h = e % (b + 1) := ⟨_, rfl⟩
  have hhb : h ≤ b := by have := Nat.mod_lt e (show 0 < b + 1 by omega); omega
  obtain ⟨p, hp⟩ : ∃ l, l = ldL l0 := ⟨_, rfl⟩
  obtain ⟨q, hq⟩ : ∃ l, l = ldL m0 := ⟨_, rfl⟩
  have hpm : ∀ x ∈ p, 0 ≤ x ∧ x ≤ 255 := by rw [hp]; exact ldL_mem (by obtain ⟨_, _, _, _, _, _, h5, _⟩ := hv1; exact h5)
  have hqm : ∀ x ∈ q, 0 ≤ x ∧ x ≤ 255 := by rw [hq]; exact ldL_mem (by obtain ⟨_, _, _, _, _, _, h5, _⟩ := hv2; exact h5)
  have hpl : p.length ≤ 30 := by rw [hp]; exact ldL_len l0
  have hql : q.length ≤ 30 := by rw [hq]; exact ldL_len m0
  have hpqm : ∀ x ∈ p ++ q, 0 ≤ x ∧ x ≤ 255 := fun x hx => by rcases List.mem_append.1 hx with h | h; exact hpm x h; exact hqm x h
  have hbo : bOk (a : Int) (b : Int) ((a : Int) + (c : Int)) = true := bOk_iff.2 (by omega)
  have hvs : Vs (b : Int) ((h : Int), false) := ⟨by show (0 : Int) ≤ h; omega, by show (h : Int) ≤ 100000000; omega, .inr (by show (h : Int) ≤ b; omega)⟩
  obtain ⟨x1, hx1⟩ : ∃ x, x = p.foldl (nx (a : Int) (b : Int) ((a : Int) + (c : Int))) ((h : Int), false) := ⟨_, rfl⟩
  have hvs1 : Vs (b : Int) x1 := by rw [hx1]; exact vs_fold (by omega) p _ hvs
  obtain ⟨al, hal⟩ : ∃ l, l = ((h : Int), false) :: crs (a : Int) (b : Int) ((a : Int) + (c : Int)) ((h : Int), false) (p ++ q) := ⟨_, rfl⟩
  obtain ⟨on, hon⟩ : ∃ l, l = ((h : Int), false) :: crs (a : Int) (b : Int) ((a : Int) + (c : Int)) ((h : Int), false) p := ⟨_, rfl⟩
  obtain ⟨tr, htr⟩ : ∃ l, l = crs (a : Int) (b : Int) ((a : Int) + (c : Int)) x1 q := ⟨_, rfl⟩
  have hall : al.length = p.length + q.length + 1 := by rw [hal]; simp [crs_len]
  have honl : on.length = p.length + 1 := by rw [hon]; simp [crs_len]
  have htrl : tr.length = q.length := by rw [htr]; simp [crs_len]
  have hsum : al = on ++ tr := by rw [hal, hon, htr, hx1, crs_append]; rfl
  have honx : on[p.length]? = some x1 := by rw [hon, hx1]; exact crs_last _ _ _ p _
  have hstep : ∀ (i : Nat) (u : Int), (p ++ q)[i]? = some u → ∃ y, al[i]? = some y ∧ al[i + 1]? = some (nx (a : Int) (b : Int) ((a : Int) + (c : Int)) y u) ∧ Vs (b : Int) y := by
    intro i u hu
    obtain ⟨y, h1, h2⟩ := crs_step (a : Int) (b : Int) ((a : Int) + (c : Int)) (p ++ q) ((h : Int), false) i u hu
    rw [← hal] at h1 h2
    exact ⟨y, h1, h2, crs_vs (by omega) (p ++ q) _ hvs i y (by rw [← hal]; exact h1)⟩
  have HC1 := Lib.hid (fun (X : World) (u : Value) (hu : IntSl X u (p ++ q)) => c_Course 0 (a : Int) (b : Int) ((a : Int) + (c : Int)) (h : Int) false (p ++ q) u X hu 0 (fltS_ok (x := ((h : Int), false)) hbo hvs (lsOk_of (by rw [List.length_append]; omega) hpqm)) al (by rw [if_pos rfl]; exact hal))
  have HC2 := Lib.hid (fun (X : World) (u : Value) (hu : IntSl X u p) => c_Course 0 (a : Int) (b : Int) ((a : Int) + (c : Int)) (h : Int) false p u X hu 0 (fltS_ok (x := ((h : Int), false)) hbo hvs (lsOk_of (by omega) hpm)) on (by rw [if_pos rfl]; exact hon))
  have HC3 := Lib.hid (fun (X : World) (u : Value) (hu : IntSl X u q) => c_Course 0 (a : Int) (b : Int) ((a : Int) + (c : Int)) x1.1 x1.2 q u X hu 0 (fltS_ok hbo hvs1 (lsOk_of (by omega) hqm)) (x1 :: tr) (by rw [if_pos rfl, htr]))
  have HNX := Lib.hid (fun (X : World) (y : Int × Bool) (u : Int) (hy : Vs (b : Int) y) (hu : 0 ≤ u ∧ u ≤ 255) => c_Next 0 (a : Int) (b : Int) ((a : Int) + (c : Int)) y.1 u y.2 (nx (a : Int) (b : Int) ((a : Int) + (c : Int)) y u) 0 (by
    unfold nxt
    rw [if_pos (fltS_ok hbo hy (lsOk_of (by simp) (fun x hx => by rw [List.mem_singleton.1 hx]; exact hu)))]) X)
  have HSTEP := Lib.hid hstep
  have HM := Lib.hid (fun (X : World) => c_made a b c e ha hb hc he (h : Int) (by rw [hh]) X)
  have HL1 := Lib.hid (fun (X : World) (hX : Below w.heap.size w X) => c_loads l0 v1 X (hv1.on hX (Nat.le_refl _)))
  have HL2 := Lib.hid (fun (X : World) (hX : Below w.heap.size w X) => c_loads m0 v2 X (hv2.on hX (Nat.le_refl _)))
  rw [← hp] at HL1
  rw [← hq] at HL2
  have HPQ := Lib.hid hpqm
  have HEQ := Lib.hid (fun (X : World) (u u' : Value) (hu : StSl X u al) (hu' : StSl X u' (on ++ tr)) => c_eqStates al (on ++ tr) true (by rw [hsum]; exact decide_eq_true rfl) u u' X hu hu')
  have HALL := Lib.hid hall
  have HONL := Lib.hid honl
  have HTRL := Lib.hid htrl
  have HONX := Lib.hid honx
  obtain ⟨xa, xb⟩ := x1
  unfold smallV at HM
  unfold bkV at HM
  unfold bkV stV at HC1 HC2 HC3
  unfold smV
  obtain ⟨B1, k1, rfl, -, -⟩ := hv1.shape
  obtain ⟨B2, k2, rfl, -, -⟩ := hv2.shape
  clear hh hp hq hpm hqm hpqm hbo hvs hx1 hvs1 hal hon htr hall honl htrl hsum honx hstep hv1 hv2
  obtain ⟨w0, hW⟩ : ∃ w0, w0 = w.alloc (.cells #[.int .u8 (a : Int), .int .u8 (b : Int), .int .u8 (c : Int), .int .u8 (e : Int)] 44) := ⟨_, rfl⟩
  have HB0 := Lib.hid (show Below w.heap.size w w0 by subst hW; exact (Below.refl _ _).alloc (Nat.le_refl _) _)
  go_enter Try.func8, Try.ntmps8
  go_wp2_with (fail)
  rw [← hW]
  clear hW
  go_at_call 28
  refine (HM.out _).mono ?_
  rintro r v1 ⟨rfl, b1⟩
  obtain ⟨w1, hW1⟩ : ∃ w1, w1 = v1.alloc (.cells #[.int .i64 0, .int .i64 (a : Int), .int .i64 (b : Int), .int .i64 ((a : Int) + (c : Int))] 23) := ⟨_, rfl⟩
  have HB1 := Lib.hid (show Below w.heap.size w w1 by subst hW1; have := below_join HB0.out b1 HB0.out.size; exact this.alloc this.size _)
  have HK1 := Lib.hid (show Bk w1 v1.heap.size 0 (a : Int) (b : Int) ((a : Int) + (c : Int)) by subst hW1; exact bk_new _ _ _ _ _)
  have hz1 : v1.heap.size < w1.heap.size := block_lt HK1.out
  clear b1
  go_wp2_with (fail)
  rw [← hW1]
  clear hW1
  go_at_call 33
  refine (HL1.out _ HB1.out).mono ?_
  rintro r w2 ⟨u2, rfl, ho2, b2⟩
  have HP2 := Lib.hid (own_intSl ho2)
  obtain ⟨Ap, cp, hs2, -, -⟩ := (own_intSl ho2).shape
  subst hs2
  have HB2 := Lib.hid (below_join HB1.out b2 HB1.out.size)
  have HK2 := Lib.hid (HK1.out.on b2 hz1)
  have hz2 := Nat.lt_of_lt_of_le hz1 b2.size
  clear ho2 b2
  go_wp2_with (fail)
  go_at_call 33
  refine (HL2.out _ HB2.out).mono ?_
  rintro r w3 ⟨u3, rfl, ho3, b3⟩
  have HQ3 := Lib.hid (own_intSl ho3)
  obtain ⟨Aq, cq, hs3, -, -⟩ := (own_intSl ho3).shape
  subst hs3
  have HB3 := Lib.hid (below_join HB2.out b3 HB2.out.size)
  have HK3 := Lib.hid (HK2.out.on b3 hz2)
  have HP3 := Lib.hid (HP2.out.on b3 (Nat.le_refl _))
  have hz3 := Nat.lt_of_lt_of_le hz2 b3.size
  clear ho3 b3
  go_wp2_with (fail)
  obtain ⟨w4, hW4⟩ : ∃ w4, w4 = (w3.alloc (.cells #[.slice Ap p.length cp, .slice Aq q.length cq] 26)).drew := ⟨_, rfl⟩
  have b4 : Below w3.heap.size w3 w4 := by subst hW4; exact ((Below.refl _ _).alloc (Nat.le_refl _) _).drew
  have HB4 := Lib.hid (below_join HB3.out b4 HB3.out.size)
  have HK4 := Lib.hid (HK3.out.on b4 hz3)
  have HP4 := Lib.hid (HP3.out.on b4 (Nat.le_refl _))
  have HQ4 := Lib.hid (HQ3.out.on b4 (Nat.le_refl _))
  have hz4 := Nat.lt_of_lt_of_le hz3 b4.size
  have HCAT := Lib.hid (c_catInts p q (by omega) (by omega) Ap Aq p.length q.length cp cq w3.heap.size w4 HP4.out HQ4.out (by subst hW4; exact lit2))
  have HB34 := Lib.hid b4
  clear b4
  go_region_held3 (fun X => X.cell? ⟨v1.heap.size, 0, none⟩ = some (.int .i64 0) ∧ X.cell? ⟨v1.heap.size, 1, none⟩ = some (.int .i64 (a : Int)) ∧ X.cell? ⟨v1.heap.size, 2, none⟩ = some (.int .i64 (b : Int)) ∧ X.cell? ⟨v1.heap.size, 3, none⟩ = some (.int .i64 ((a : Int) + (c : Int))))
    (first | exact HK6.out.cells | exact HK5.out.cells | exact (HK3.out.on ((Below.refl w3.heap.size w3).alloc (Nat.le_refl _) _).drew hz3).cells | exact HK3.out.cells)
    (first
      | (rw [← hW4]; go_at_call 35; (with_reducible refine HCAT.out.mono ?_); rintro e w5 ⟨u5, rfl, ho5, b5⟩; have HX5 := Lib.hid (own_intSl ho5); obtain ⟨Ax, cx, hs5, -, -⟩ := (own_intSl ho5).shape; rw [List.length_append] at hs5; subst hs5; have HB5 := Lib.hid (below_join HB4.out b5 HB4.out.size); have HK5 := Lib.hid (HK4.out.on b5 hz4); have HP5 := Lib.hid (HP4.out.on b5 (Nat.le_refl _)); have HQ5 := Lib.hid (HQ4.out.on b5 (Nat.le_refl _)); have hz5 := Nat.lt_of_lt_of_le hz4 b5.size; clear ho5 b5)
      | (go_at_call 13; (with_reducible refine (HC1.out _ _ HX5.out).mono ?_); rintro e w6 ⟨u6, rfl, hst6, b6⟩; obtain ⟨Aa, ca, hs6, -, -⟩ := hst6.shape; rw [HALL.out] at hs6; subst hs6; have HA6 := Lib.hid hst6; have HB6 := Lib.hid (below_join HB5.out b6 HB5.out.size); have HK6 := Lib.hid (HK5.out.on b6 hz5); have HP6 := Lib.hid (HP5.out.on b6 (Nat.le_refl _)); have HQ6 := Lib.hid (HQ5.out.on b6 (Nat.le_refl _)); have hz6 := Nat.lt_of_lt_of_le hz5 b6.size; clear hst6 b6)
      | fail)
  obtain ⟨x0, x1, x2, x3⟩ := HK6.out.cells
  go_wp2_with (fail)
  go_at_call 13
  refine (HC2.out _ _ HP6.out).mono ?_
  rintro e w7 ⟨u7, rfl, hst7, b7⟩
  obtain ⟨AO, cO, hs7, -, -⟩ := hst7.shape
  rw [HONL.out] at hs7
  subst hs7
  have HO7 := Lib.hid hst7
  have HB7 := Lib.hid (below_join HB6.out b7 HB6.out.size)
  have HK7 := Lib.hid (HK6.out.on b7 hz6)
  have HP7 := Lib.hid (HP6.out.on b7 (Nat.le_refl _))
  have HQ7 := Lib.hid (HQ6.out.on b7 (Nat.le_refl _))
  have HA7 := Lib.hid (HA6.out.on b7 (Nat.le_refl _))
  have hz7 := Nat.lt_of_lt_of_le hz6 b7.size
  clear hst7 b7 x0 x1 x2 x3
  go_wp2_with (fail)
  have HLO := Lib.hid HONX.out
  obtain ⟨bo, oo, co, eo, hbo, -, -, q1, q2⟩ := HO7.out.at_ HONX.out
  rw [HONL.out] at eo
  injection eo with eo1 _ eo2
  subst eo1 eo2
  have HBO := Lib.hid hbo
  clear hbo
  have hpk : ((p.length : Nat) : Int).toNat = p.length := by omega
  have hpk0 : (0 : Int) ≤ ((p.length : Nat) : Int) := by omega
  have hpk1 : ((p.length : Nat) : Int) < ((p.length : Nat) : Int) + 1 := by omega
  have hS7 : ∀ X, Below w7.heap.size w7 X → X.cell? ⟨bo, oo + p.length * 2, none⟩ = some (.int .i64 xa) ∧ X.cell? ⟨bo, oo + p.length * 2 + 1, none⟩ = some (.bool xb) := fun X hX => ⟨(hX.cell (p := ⟨bo, oo + p.length * 2, none⟩) HBO.out).trans q1, (hX.cell (p := ⟨bo, oo + p.length * 2 + 1, none⟩) HBO.out).trans q2⟩
  have HS7 := Lib.hid hS7
  clear hS7 q1 q2
  go_region_held3 (fun X => (X.cell? ⟨v1.heap.size, 0, none⟩ = some (.int .i64 0) ∧ X.cell? ⟨v1.heap.size, 1, none⟩ = some (.int .i64 (a : Int)) ∧ X.cell? ⟨v1.heap.size, 2, none⟩ = some (.int .i64 (b : Int)) ∧ X.cell? ⟨v1.heap.size, 3, none⟩ = some (.int .i64 ((a : Int) + (c : Int)))) ∧ X.cell? ⟨bo, oo + p.length * 2, none⟩ = some (.int .i64 xa) ∧ X.cell? ⟨bo, oo + p.length * 2 + 1, none⟩ = some (.bool xb))
    (first | exact ⟨HK8.out.cells, HS7.out _ HB78.out⟩ | exact ⟨HK7.out.cells, HS7.out _ (Below.refl _ _).drew⟩ | exact ⟨HK7.out.cells, HS7.out _ (Below.refl _ _)⟩)
    (first
      | (go_at_call 13; (with_reducible refine (HC3.out _ _ (HQ7.out.on (Below.refl w7.heap.size w7).drew (Nat.le_refl _))).mono ?_); rintro e w8 ⟨u8, rfl, hst8, b80⟩; have b8 := below_join (Below.refl w7.heap.size w7).drew b80 (Nat.le_refl _); obtain ⟨AT, cT, hs8, -, -⟩ := hst8.shape; rw [List.length_cons, HTRL.out] at hs8; subst hs8; have HT8 := Lib.hid hst8; have HB78 := Lib.hid b8; have HB8 := Lib.hid (below_join HB7.out b8 HB7.out.size); have HK8 := Lib.hid (HK7.out.on b8 hz7); have HP8 := Lib.hid (HP7.out.on b8 (Nat.le_refl _)); have HQ8 := Lib.hid (HQ7.out.on b8 (Nat.le_refl _)); have HA8 := Lib.hid (HA7.out.on b8 (Nat.le_refl _)); have HO8 := Lib.hid (HO7.out.on b8 (Nat.le_refl _)); have hz8 := Nat.lt_of_lt_of_le hz7 b8.size; clear hst8 b8 b80)
      | fail)
  obtain ⟨bT, oT, hAT, -, hdr⟩ := HT8.out.drop1_at
  subst hAT
  rw [HTRL.out] at hdr
  have HDR := Lib.hid hdr
  have hcT := HT8.out.cap.2
  clear hdr
  unfold maxLen at hcT
  have hmin : min (1 : Int) ((q.length : Int) + 1) = 1 := by omega
  have HS8 := Lib.hid HS7.out
  obtain ⟨off, hoff, hoff2⟩ : ∃ off, off = (if cT = 1 then oT else oT + 1 * 2) ∧ (0 < q.length → off = oT + 2) := ⟨_, rfl, fun h => by rw [if_neg (by omega)]⟩
  have HD8 := Lib.hid (HDR.out off hoff2)
  rcases Nat.lt_or_ge 1 cT with hc1 | hc1
  · have hc2 : ¬ (cT = 1) := by omega
    have hc3 : ¬ (1 = cT) := by omega
    rw [if_neg hc2] at hoff
    subst hoff
    obtain ⟨w9, hW9⟩ : ∃ w9, w9 = w8.alloc (.cells #[.slice (some ⟨bo, oo, none⟩) (p.length + 1) cO, .slice (some ⟨bT, oT + 1 * 2, none⟩) q.length (cT - 1)] 31) := ⟨_, rfl⟩
    have b9 : Below w8.heap.size w8 w9 := by subst hW9; exact (Below.refl _ _).alloc (Nat.le_refl _) _
    have HCAT9 := Lib.hid (c_catStates on tr (by have := HONL.out; omega) (by have := HTRL.out; omega) _ _ _ _ cO (cT - 1) w8.heap.size w9 (HO8.out.on b9 (Nat.le_refl _)) (HD8.out.on b9 (Nat.le_refl _)) (by subst hW9; exact lit2))
    have HB9 := Lib.hid (below_join HB8.out b9 HB8.out.size)
    have HK9 := Lib.hid (HK8.out.on b9 hz8)
    have HP9 := Lib.hid (HP8.out.on b9 (Nat.le_refl _))
    have HQ9 := Lib.hid (HQ8.out.on b9 (Nat.le_refl _))
    have HA9 := Lib.hid (HA8.out.on b9 (Nat.le_refl _))
    have hz9 := Nat.lt_of_lt_of_le hz8 b9.size
    clear b9
    go_wp2_with (fail)
    rw [← hW9]
    clear hW9
    go_at_call 36
    refine HCAT9.out.mono ?_
    rintro e w10 ⟨u10, rfl, ho10, b10⟩
    have hst10 := own_stSl' ho10 rfl (by rw [List.length_append, HONL.out]; omega)
    obtain ⟨A10, c10, hs10, -, -⟩ := hst10.shape
    rw [List.length_append, HONL.out, HTRL.out] at hs10
    subst hs10
    have HE10 := Lib.hid hst10
    have HB10 := Lib.hid (below_join HB9.out b10 HB9.out.size)
    have HK10 := Lib.hid (HK9.out.on b10 hz9)
    have HP10 := Lib.hid (HP9.out.on b10 (Nat.le_refl _))
    have HQ10 := Lib.hid (HQ9.out.on b10 (Nat.le_refl _))
    have HA10 := Lib.hid (HA9.out.on b10 (Nat.le_refl _))
    have hz10 := Nat.lt_of_lt_of_le hz9 b10.size
    clear ho10 b10 hst10
    go_wp2_with (fail)
    go_at_call 15
    refine (HEQ.out _ _ _ HA10.out HE10.out).mono ?_
    rintro e w11 ⟨rfl, hd11⟩
    have b11 := drew_below (Below.refl w10.heap.size w10) hd11
    have HB11 := Lib.hid (below_join HB10.out b11 HB10.out.size)
    have HK11 := Lib.hid (HK10.out.on b11 hz10)
    have HP11 := Lib.hid (HP10.out.on b11 (Nat.le_refl _))
    have HQ11 := Lib.hid (HQ10.out.on b11 (Nat.le_refl _))
    have HA11 := Lib.hid (HA10.out.on b11 (Nat.le_refl _))
    have hz11 := Nat.lt_of_lt_of_le hz10 b11.size
    clear b11 hd11
    obtain ⟨w12, hW12⟩ : ∃ w12, w12 = w11.alloc (.cells #[.slice Ap p.length cp, .slice Aq q.length cq] 26) := ⟨_, rfl⟩
    have b12 : Below w11.heap.size w11 w12 := by subst hW12; exact (Below.refl _ _).alloc (Nat.le_refl _) _
    have HB12 := Lib.hid (below_join HB11.out b12 HB11.out.size)
    have HK12 := Lib.hid (HK11.out.on b12 hz11)
    have HP12 := Lib.hid (HP11.out.on b12 (Nat.le_refl _))
    have HQ12 := Lib.hid (HQ11.out.on b12 (Nat.le_refl _))
    have HA12 := Lib.hid (HA11.out.on b12 (Nat.le_refl _))
    have hz12 := Nat.lt_of_lt_of_le hz11 b12.size
    have HCAT12 := Lib.hid (c_catInts p q (by omega) (by omega) Ap Aq p.length q.length cp cq w11.heap.size w12 HP12.out HQ12.out (by subst hW12; exact lit2))
    clear b12
    go_wp2_with (fail)
    rw [← hW12]
    clear hW12
    go_at_call 35
    refine HCAT12.out.mono ?_
    rintro e w13 ⟨u13, rfl, ho13, b13⟩
    have HX13 := Lib.hid (own_intSl ho13)
    obtain ⟨Ax, cx, hs13, -, -⟩ := (own_intSl ho13).shape
    rw [List.length_append] at hs13
    subst hs13
    have HB13 := Lib.hid (below_join HB12.out b13 HB12.out.size)
    have HK13 := Lib.hid (HK12.out.on b13 hz12)
    have HP13 := Lib.hid (HP12.out.on b13 (Nat.le_refl _))
    have HQ13 := Lib.hid (HQ12.out.on b13 (Nat.le_refl _))
    have HA13 := Lib.hid (HA12.out.on b13 (Nat.le_refl _))
    have hz13 := Nat.lt_of_lt_of_le hz12 b13.size
    clear ho13 b13
    have HX := Lib.hid HX13.out
    have HA := Lib.hid HA13.out
    clear HP13 HQ13 HX13 HA13
    obtain ⟨N, hN⟩ : ∃ N, N = p.length + q.length := ⟨_, rfl⟩
    rw [← hN] at HX HA ⊢
    have hNl : N ≤ 60 := by omega
    have HNE := Lib.hid hN
    clear hN
    go_wp2_with (fail)
    go_loopw [105] (fun i wr => ∃ k : Nat, k ≤ N ∧ i = .int .i64 (k : Int) ∧ Hid (Below w13.heap.size w13 wr)) (fun i _ => N - (intOf i).toNat)
    case atStart => exact ⟨0, Nat.zero_le _, rfl, Lib.hid (Below.refl _ _)⟩
    case round =>
      obtain ⟨k, hk, rfl, hB⟩ := hrel
      have hki : ((k : Nat) : Int).toNat = k := by omega
      have hki1 : ((k : Nat) + 1 : Int).toNat = k + 1 := by omega
      have HZ := Lib.hid hB.out.size
      by_cases hlt : k < N
      · obtain ⟨u, hu⟩ : ∃ u, (p ++ q)[k]? = some u := ⟨_, List.getElem?_eq_getElem (by have := HNE.out; simp; omega)⟩
        obtain ⟨⟨ya, yb⟩, hy1, hy2, hyv⟩ := HSTEP.out k u hu
        have hur := HPQ.out u (List.mem_of_getElem? hu)
        have HN := Lib.hid (fun (X : World) => HNX.out X (ya, yb) u hyv hur)
        obtain ⟨⟨na, nb⟩, hn⟩ : ∃ z, z = nx (a : Int) (b : Int) ((a : Int) + (c : Int)) (ya, yb) u := ⟨_, rfl⟩
        rw [← hn] at HN hy2
        have htrip : yb = true → na = ya ∧ nb = true := by
          intro h
          subst h
          unfold nx at hn
          simp at hn
          exact hn
        clear hn
        unfold bkV stV at HN
        simp only [] at HN
        obtain ⟨bx, ox, cx', ex, hbx, -, -, qx⟩ := HX.out.at_ hu
        injection ex with ex1 exl ex2
        clear exl
        subst ex1 ex2
        obtain ⟨ba, oa, ca', ea, hba, -, -, qa1, qa2⟩ := HA.out.at_ hy1
        injection ea with ea1 eal ea2
        clear eal
        subst ea1 ea2
        obtain ⟨ba', oa', ca'', ea', -, -, -, qb1, qb2⟩ := HA.out.at_ hy2
        injection ea' with ea1' eal' ea2'
        clear eal'
        injection ea1' with ea1'
        injection ea1' with ea1' ea3'
        subst ea1' ea2' ea3'
        have HS := Lib.hid (fun (X : World) (hX : Below w13.heap.size w13 X) => (⟨(HK13.out.on hX hz13).cells, (hX.cell (p := ⟨ba, oa + k * 2, none⟩) hba).trans qa1, (hX.cell (p := ⟨ba, oa + k * 2 + 1, none⟩) hba).trans qa2, (hX.cell (p := ⟨ba, oa + (k + 1) * 2, none⟩) hba).trans qb1, (hX.cell (p := ⟨ba, oa + (k + 1) * 2 + 1, none⟩) hba).trans qb2⟩ : _ ∧ _ ∧ _ ∧ _ ∧ _))
        have hcx := (hB.out.cell (p := ⟨bx, ox + k, none⟩) hbx).trans qx
        have HTRIP := Lib.hid htrip
        clear hu hy1 hy2 hyv hur htrip qa1 qa2 qb1 qb2 qx hbx hba
        have hlt' : (k : Int) < (N : Int) := by omega
        go_wp2_with (fail)
        have HDR0 := Lib.hid hB.out.drew
        have hk0 : (0 : Int) ≤ (k : Int) := by omega
        have hk1 : (k : Int) < (N : Int) + 1 := by omega
        have HS3 := Lib.hid (fun (X : World) (hX : Below w13.heap.size w13 X) => (⟨(HS.out X hX).1, (HS.out X hX).2.1, (HS.out X hX).2.2.1⟩ : _ ∧ _ ∧ _))
        go_region_held3 (fun X => (X.cell? ⟨v1.heap.size, 0, none⟩ = some (.int .i64 0) ∧ X.cell? ⟨v1.heap.size, 1, none⟩ = some (.int .i64 (a : Int)) ∧ X.cell? ⟨v1.heap.size, 2, none⟩ = some (.int .i64 (b : Int)) ∧ X.cell? ⟨v1.heap.size, 3, none⟩ = some (.int .i64 ((a : Int) + (c : Int)))) ∧ X.cell? ⟨ba, oa + k * 2, none⟩ = some (.int .i64 ya) ∧ X.cell? ⟨ba, oa + k * 2 + 1, none⟩ = some (.bool yb))
          (first | exact HS3.out _ (below_store2 HB14.out HZ.out _ _) | exact HS3.out _ (below_store2 (HB14.out.alloc HB14.out.size _) HB14.out.size _ _) | exact HS3.out _ HB14.out | exact HS3.out _ (HB14.out.alloc HB14.out.size _) | exact HS3.out _ HDR0.out | exact HS3.out _ (HDR0.out.alloc HDR0.out.size _) | exact HS3.out _ (hB.out.alloc HZ.out _).drew | (trace_state; fail))
          (first
            | (go_at_call 11; (with_reducible refine (HN.out _).mono ?_); rintro e w14 ⟨rfl, b14⟩; (first | (obtain ⟨hB14, hz14, hSB⟩ := below_box hB.out HZ.out b14; have HB14 := Lib.hid hB14; obtain ⟨f0, f1⟩ := hSB.frozen; obtain ⟨e0, e1⟩ := hSB.cells; have HSB := Lib.hid hSB; clear hSB hB14 b14) | (have HB14 := Lib.hid (below_join HDR0.out b14 HDR0.out.size); have hz14 := b14.size; clear b14)))
            )
        · obtain ⟨w15, hW15⟩ : ∃ w15, w15 = w14.alloc (.cells #[.int .i64 na, .bool nb] 25) := ⟨_, rfl⟩
          have HB15 := Lib.hid (show Below w13.heap.size w13 w15 by subst hW15; exact HB14.out.alloc HB14.out.size _)
          have HSX := Lib.hid (show St w15 w14.heap.size na nb by subst hW15; exact st_new _ _ _)
          rw [← hW15]
          clear hW15
          obtain ⟨z0, z1⟩ := HSX.out.cells
          obtain ⟨-, y1, y2, y3, y4⟩ := HS.out _ HB15.out
          have g1 := guardSt
          have g2 := neqSt
          have hk2 : (k : Int) + 1 < (N : Int) + 1 := by omega
          rcases yb with _ | _
          · go_wp2_with (fail)
            go_quiet (fail)
            go_wp2_with (fail)
            go_roundw
            case rel => exact ⟨k + 1, by omega, by go_num, Lib.hid (drew_below HB15.out ⟨_, rfl⟩)⟩
            case measure => simp only [intOf]; omega
          · obtain ⟨hna, hnb⟩ := HTRIP.out rfl
            subst hna hnb
            go_wp2_with (fail)
            go_quiet (fail)
            go_wp2_with (fail)
            go_roundw
            case rel => exact ⟨k + 1, by omega, by go_num, Lib.hid (drew_below HB15.out ⟨_, rfl⟩)⟩
            case measure => simp only [intOf]; omega
        · obtain ⟨w15, hW15⟩ : ∃ w15, w15 = (w14.setCell ⟨wr.heap.size, 0, none⟩ (.int .i64 na)).setCell ⟨wr.heap.size, 1, none⟩ (.bool nb) := ⟨_, rfl⟩
          have HB15 := Lib.hid (show Below w13.heap.size w13 w15 by subst hW15; exact below_store2 HB14.out HZ.out _ _)
          have HSX := Lib.hid (show St w15 wr.heap.size na nb by subst hW15; exact row_store2 HSB.out _ _)
          clear f0 f1 e0 e1
          rw [← hW15]
          clear hW15
          obtain ⟨z0, z1⟩ := HSX.out.cells
          obtain ⟨-, y1, y2, y3, y4⟩ := HS.out _ HB15.out
          have g1 := guardSt
          have g2 := neqSt
          have hk2 : (k : Int) + 1 < (N : Int) + 1 := by omega
          rcases yb with _ | _
          · go_wp2_with (fail)
            go_quiet (fail)
            go_wp2_with (fail)
            go_roundw
            case rel => exact ⟨k + 1, by omega, by go_num, Lib.hid (drew_below HB15.out ⟨_, rfl⟩)⟩
            case measure => simp only [intOf]; omega
          · obtain ⟨hna, hnb⟩ := HTRIP.out rfl
            subst hna hnb
            go_wp2_with (fail)
            go_quiet (fail)
            go_wp2_with (fail)
            go_roundw
            case rel => exact ⟨k + 1, by omega, by go_num, Lib.hid (drew_below HB15.out ⟨_, rfl⟩)⟩
            case measure => simp only [intOf]; omega
      · obtain rfl : k = N := by omega
        go_wp2_with (fail)
        go_at_call 21
        refine (c_works _).mono ?_
        rintro e w20 ⟨rfl, b20⟩
        have hBF := below_join HB13.out hB.out HB13.out.size
        have HBF := Lib.hid (below_join hBF b20 hBF.size)
        clear hBF b20
        go_wp2_with (fail)
        go_ret
        exact ⟨rfl, HBF.out⟩
  · obtain rfl : cT = 1 := by omega
    rw [if_pos rfl] at hoff
    obtain rfl : q = [] := List.eq_nil_of_length_eq_zero (by omega)
    subst hoff
    have HTRL0 := Lib.hid (show tr.length = 0 from HTRL.out)
    clear HTRL
    have HTRL := HTRL0
    clear HTRL0
    have HD8' := Lib.hid (show StSl w8 (.slice (some ⟨bT, off, none⟩) 0 0) tr from HD8.out)
    clear HD8
    have HD8 := HD8'
    clear HD8'
    have HQ8' := Lib.hid (show IntSl w8 (.slice Aq 0 cq) [] from HQ8.out)
    clear HQ8
    have HQ8 := HQ8'
    clear HQ8'
    have HA8' := Lib.hid (show StSl w8 (.slice Aa (p.length + 1) ca) al from HA8.out)
    clear HA8
    have HA8 := HA8'
    clear HA8'
    clear hoff2 hcT hql
    obtain ⟨w9, hW9⟩ : ∃ w9, w9 = w8.alloc (.cells #[.slice (some ⟨bo, oo, none⟩) (p.length + 1) cO, .slice (some ⟨bT, off, none⟩) 0 0] 31) := ⟨_, rfl⟩
    have b9 : Below w8.heap.size w8 w9 := by subst hW9; exact (Below.refl _ _).alloc (Nat.le_refl _) _
    have HCAT9 := Lib.hid (c_catStates on tr (by have := HONL.out; omega) (by have := HTRL.out; omega) _ _ _ _ cO (0) w8.heap.size w9 (HO8.out.on b9 (Nat.le_refl _)) (HD8.out.on b9 (Nat.le_refl _)) (by subst hW9; exact lit2))
    have HB9 := Lib.hid (below_join HB8.out b9 HB8.out.size)
    have HK9 := Lib.hid (HK8.out.on b9 hz8)
    have HP9 := Lib.hid (HP8.out.on b9 (Nat.le_refl _))
    have HQ9 := Lib.hid (HQ8.out.on b9 (Nat.le_refl _))
    have HA9 := Lib.hid (HA8.out.on b9 (Nat.le_refl _))
    have hz9 := Nat.lt_of_lt_of_le hz8 b9.size
    clear b9
    go_wp2_with (fail)
    rw [← hW9]
    clear hW9
    go_at_call 36
    refine HCAT9.out.mono ?_
    rintro e w10 ⟨u10, rfl, ho10, b10⟩
    have hst10 := own_stSl' ho10 rfl (by rw [List.length_append, HONL.out]; omega)
    obtain ⟨A10, c10, hs10, -, -⟩ := hst10.shape
    rw [show (on ++ tr).length = p.length + 1 by rw [List.length_append, HONL.out, HTRL.out]] at hs10
    subst hs10
    have HE10 := Lib.hid hst10
    have HB10 := Lib.hid (below_join HB9.out b10 HB9.out.size)
    have HK10 := Lib.hid (HK9.out.on b10 hz9)
    have HP10 := Lib.hid (HP9.out.on b10 (Nat.le_refl _))
    have HQ10 := Lib.hid (HQ9.out.on b10 (Nat.le_refl _))
    have HA10 := Lib.hid (HA9.out.on b10 (Nat.le_refl _))
    have hz10 := Nat.lt_of_lt_of_le hz9 b10.size
    clear ho10 b10 hst10
    go_wp2_with (fail)
    go_at_call 15
    refine (HEQ.out _ _ _ HA10.out HE10.out).mono ?_
    rintro e w11 ⟨rfl, hd11⟩
    have b11 := drew_below (Below.refl w10.heap.size w10) hd11
    have HB11 := Lib.hid (below_join HB10.out b11 HB10.out.size)
    have HK11 := Lib.hid (HK10.out.on b11 hz10)
    have HP11 := Lib.hid (HP10.out.on b11 (Nat.le_refl _))
    have HQ11 := Lib.hid (HQ10.out.on b11 (Nat.le_refl _))
    have HA11 := Lib.hid (HA10.out.on b11 (Nat.le_refl _))
    have hz11 := Nat.lt_of_lt_of_le hz10 b11.size
    clear b11 hd11
    obtain ⟨w12, hW12⟩ : ∃ w12, w12 = w11.alloc (.cells #[.slice Ap p.length cp, .slice Aq 0 cq] 26) := ⟨_, rfl⟩
    have b12 : Below w11.heap.size w11 w12 := by subst hW12; exact (Below.refl _ _).alloc (Nat.le_refl _) _
    have HB12 := Lib.hid (below_join HB11.out b12 HB11.out.size)
    have HK12 := Lib.hid (HK11.out.on b12 hz11)
    have HP12 := Lib.hid (HP11.out.on b12 (Nat.le_refl _))
    have HQ12 := Lib.hid (HQ11.out.on b12 (Nat.le_refl _))
    have HA12 := Lib.hid (HA11.out.on b12 (Nat.le_refl _))
    have hz12 := Nat.lt_of_lt_of_le hz11 b12.size
    have HCAT12 := Lib.hid (c_catInts p [] (by omega) (by simp) Ap Aq p.length 0 cp cq w11.heap.size w12 HP12.out HQ12.out (by subst hW12; exact lit2))
    clear b12
    go_wp2_with (fail)
    rw [← hW12]
    clear hW12
    go_at_call 35
    refine HCAT12.out.mono ?_
    rintro e w13 ⟨u13, rfl, ho13, b13⟩
    have HX13 := Lib.hid (own_intSl ho13)
    obtain ⟨Ax, cx, hs13, -, -⟩ := (own_intSl ho13).shape
    rw [show (p ++ ([] : List Int)).length = p.length by simp] at hs13
    subst hs13
    have HB13 := Lib.hid (below_join HB12.out b13 HB12.out.size)
    have HK13 := Lib.hid (HK12.out.on b13 hz12)
    have HP13 := Lib.hid (HP12.out.on b13 (Nat.le_refl _))
    have HQ13 := Lib.hid (HQ12.out.on b13 (Nat.le_refl _))
    have HA13 := Lib.hid (HA12.out.on b13 (Nat.le_refl _))
    have hz13 := Nat.lt_of_lt_of_le hz12 b13.size
    clear ho13 b13
    have HX := Lib.hid HX13.out
    have HA := Lib.hid HA13.out
    clear HP13 HQ13 HX13 HA13
    obtain ⟨N, hN⟩ : ∃ N, N = p.length := ⟨_, rfl⟩
    rw [← hN] at HX HA ⊢
    have hNl : N ≤ 60 := by omega
    have HNE := Lib.hid hN
    clear hN
    go_wp2_with (fail)
    go_loopw [105] (fun i wr => ∃ k : Nat, k ≤ N ∧ i = .int .i64 (k : Int) ∧ Hid (Below w13.heap.size w13 wr)) (fun i _ => N - (intOf i).toNat)
    case atStart => exact ⟨0, Nat.zero_le _, rfl, Lib.hid (Below.refl _ _)⟩
    case round =>
      obtain ⟨k, hk, rfl, hB⟩ := hrel
      have hki : ((k : Nat) : Int).toNat = k := by omega
      have hki1 : ((k : Nat) + 1 : Int).toNat = k + 1 := by omega
      have HZ := Lib.hid hB.out.size
      by_cases hlt : k < N
      · obtain ⟨u, hu⟩ : ∃ u, (p ++ [])[k]? = some u := ⟨_, List.getElem?_eq_getElem (by have := HNE.out; simp; omega)⟩
        obtain ⟨⟨ya, yb⟩, hy1, hy2, hyv⟩ := HSTEP.out k u hu
        have hur := HPQ.out u (List.mem_of_getElem? hu)
        have HN := Lib.hid (fun (X : World) => HNX.out X (ya, yb) u hyv hur)
        obtain ⟨⟨na, nb⟩, hn⟩ : ∃ z, z = nx (a : Int) (b : Int) ((a : Int) + (c : Int)) (ya, yb) u := ⟨_, rfl⟩
        rw [← hn] at HN hy2
        have htrip : yb = true → na = ya ∧ nb = true := by
          intro h
          subst h
          unfold nx at hn
          simp at hn
          exact hn
        clear hn
        unfold bkV stV at HN
        simp only [] at HN
        obtain ⟨bx, ox, cx', ex, hbx, -, -, qx⟩ := HX.out.at_ hu
        injection ex with ex1 exl ex2
        clear exl
        subst ex1 ex2
        obtain ⟨ba, oa, ca', ea, hba, -, -, qa1, qa2⟩ := HA.out.at_ hy1
        injection ea with ea1 eal ea2
        clear eal
        subst ea1 ea2
        obtain ⟨ba', oa', ca'', ea', -, -, -, qb1, qb2⟩ := HA.out.at_ hy2
        injection ea' with ea1' eal' ea2'
        clear eal'
        injection ea1' with ea1'
        injection ea1' with ea1' ea3'
        subst ea1' ea2' ea3'
        have HS := Lib.hid (fun (X : World) (hX : Below w13.heap.size w13 X) => (⟨(HK13.out.on hX hz13).cells, (hX.cell (p := ⟨ba, oa + k * 2, none⟩) hba).trans qa1, (hX.cell (p := ⟨ba, oa + k * 2 + 1, none⟩) hba).trans qa2, (hX.cell (p := ⟨ba, oa + (k + 1) * 2, none⟩) hba).trans qb1, (hX.cell (p := ⟨ba, oa + (k + 1) * 2 + 1, none⟩) hba).trans qb2⟩ : _ ∧ _ ∧ _ ∧ _ ∧ _))
        have hcx := (hB.out.cell (p := ⟨bx, ox + k, none⟩) hbx).trans qx
        have HTRIP := Lib.hid htrip
        clear hu hy1 hy2 hyv hur htrip qa1 qa2 qb1 qb2 qx hbx hba
        have hlt' : (k : Int) < (N : Int) := by omega
        go_wp2_with (fail)
        have HDR0 := Lib.hid hB.out.drew
        have hk0 : (0 : Int) ≤ (k : Int) := by omega
        have hk1 : (k : Int) < (N : Int) + 1 := by omega
        have HS3 := Lib.hid (fun (X : World) (hX : Below w13.heap.size w13 X) => (⟨(HS.out X hX).1, (HS.out X hX).2.1, (HS.out X hX).2.2.1⟩ : _ ∧ _ ∧ _))
        go_region_held3 (fun X => (X.cell? ⟨v1.heap.size, 0, none⟩ = some (.int .i64 0) ∧ X.cell? ⟨v1.heap.size, 1, none⟩ = some (.int .i64 (a : Int)) ∧ X.cell? ⟨v1.heap.size, 2, none⟩ = some (.int .i64 (b : Int)) ∧ X.cell? ⟨v1.heap.size, 3, none⟩ = some (.int .i64 ((a : Int) + (c : Int)))) ∧ X.cell? ⟨ba, oa + k * 2, none⟩ = some (.int .i64 ya) ∧ X.cell? ⟨ba, oa + k * 2 + 1, none⟩ = some (.bool yb))
          (first | exact HS3.out _ (below_store2 HB14.out HZ.out _ _) | exact HS3.out _ (below_store2 (HB14.out.alloc HB14.out.size _) HB14.out.size _ _) | exact HS3.out _ HB14.out | exact HS3.out _ (HB14.out.alloc HB14.out.size _) | exact HS3.out _ HDR0.out | exact HS3.out _ (HDR0.out.alloc HDR0.out.size _) | exact HS3.out _ (hB.out.alloc HZ.out _).drew | (trace_state; fail))
          (first
            | (go_at_call 11; (with_reducible refine (HN.out _).mono ?_); rintro e w14 ⟨rfl, b14⟩; (first | (obtain ⟨hB14, hz14, hSB⟩ := below_box hB.out HZ.out b14; have HB14 := Lib.hid hB14; obtain ⟨f0, f1⟩ := hSB.frozen; obtain ⟨e0, e1⟩ := hSB.cells; have HSB := Lib.hid hSB; clear hSB hB14 b14) | (have HB14 := Lib.hid (below_join HDR0.out b14 HDR0.out.size); have hz14 := b14.size; clear b14)))
            )
        · obtain ⟨w15, hW15⟩ : ∃ w15, w15 = w14.alloc (.cells #[.int .i64 na, .bool nb] 25) := ⟨_, rfl⟩
          have HB15 := Lib.hid (show Below w13.heap.size w13 w15 by subst hW15; exact HB14.out.alloc HB14.out.size _)
          have HSX := Lib.hid (show St w15 w14.heap.size na nb by subst hW15; exact st_new _ _ _)
          rw [← hW15]
          clear hW15
          obtain ⟨z0, z1⟩ := HSX.out.cells
          obtain ⟨-, y1, y2, y3, y4⟩ := HS.out _ HB15.out
          have g1 := guardSt
          have g2 := neqSt
          have hk2 : (k : Int) + 1 < (N : Int) + 1 := by omega
          rcases yb with _ | _
          · go_wp2_with (fail)
            go_quiet (fail)
            go_wp2_with (fail)
            go_roundw
            case rel => exact ⟨k + 1, by omega, by go_num, Lib.hid (drew_below HB15.out ⟨_, rfl⟩)⟩
            case measure => simp only [intOf]; omega
          · obtain ⟨hna, hnb⟩ := HTRIP.out rfl
            subst hna hnb
            go_wp2_with (fail)
            go_quiet (fail)
            go_wp2_with (fail)
            go_roundw
            case rel => exact ⟨k + 1, by omega, by go_num, Lib.hid (drew_below HB15.out ⟨_, rfl⟩)⟩
            case measure => simp only [intOf]; omega
        · obtain ⟨w15, hW15⟩ : ∃ w15, w15 = (w14.setCell ⟨wr.heap.size, 0, none⟩ (.int .i64 na)).setCell ⟨wr.heap.size, 1, none⟩ (.bool nb) := ⟨_, rfl⟩
          have HB15 := Lib.hid (show Below w13.heap.size w13 w15 by subst hW15; exact below_store2 HB14.out HZ.out _ _)
          have HSX := Lib.hid (show St w15 wr.heap.size na nb by subst hW15; exact row_store2 HSB.out _ _)
          clear f0 f1 e0 e1
          rw [← hW15]
          clear hW15
          obtain ⟨z0, z1⟩ := HSX.out.cells
          obtain ⟨-, y1, y2, y3, y4⟩ := HS.out _ HB15.out
          have g1 := guardSt
          have g2 := neqSt
          have hk2 : (k : Int) + 1 < (N : Int) + 1 := by omega
          rcases yb with _ | _
          · go_wp2_with (fail)
            go_quiet (fail)
            go_wp2_with (fail)
            go_roundw
            case rel => exact ⟨k + 1, by omega, by go_num, Lib.hid (drew_below HB15.out ⟨_, rfl⟩)⟩
            case measure => simp only [intOf]; omega
          · obtain ⟨hna, hnb⟩ := HTRIP.out rfl
            subst hna hnb
            go_wp2_with (fail)
            go_quiet (fail)
            go_wp2_with (fail)
            go_roundw
            case rel => exact ⟨k + 1, by omega, by go_num, Lib.hid (drew_below HB15.out ⟨_, rfl⟩)⟩
            case measure => simp only [intOf]; omega
      · obtain rfl : k = N := by omega
        go_wp2_with (fail)
        go_at_call 21
        refine (c_works _).mono ?_
        rintro e w20 ⟨rfl, b20⟩
        have hBF := below_join HB13.out hB.out HB13.out.size
        have HBF := Lib.hid (below_join hBF b20 hBF.size)
        clear hBF b20
        go_wp2_with (fail)
        go_ret
        exact ⟨rfl, HBF.out⟩
end Go.Proofs.Ytomfaknemjbjcaa
