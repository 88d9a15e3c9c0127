/-
  DERIVED. Several texts in one.
-/
import Derived.Test.YtfdkdloldjfnjaaGreatDoorYMOm
import Derived.Deep.RegionHeld3
set_option linter.unusedVariables false
set_option linter.unusedSimpArgs false

/- DERIVED. validNatural, isOne, magnitude; Valid. -/
namespace Go.Proofs.YtfdkdloldjfnjaaGreatDoor
open Go.RowKit
set_option maxRecDepth 100000

theorem lt_of_nat {w : World} {ok : Nat → Prop} {v : Value} {l : List Nat} (h : NatSl w ok v l) : NatSl w (fun i => i < w.heap.size) v l := by
  obtain ⟨A, c, h1, h2, h3, h4⟩ := h
  refine ⟨A, c, h1, h2, h3, fun hl => ?_⟩
  obtain ⟨b, o, e, -, hc⟩ := h4 hl
  refine ⟨b, o, e, ?_, hc⟩
  have := hc 0 l[0] (List.getElem?_eq_getElem hl)
  unfold World.cell? at this
  cases hb : w.heap[b]? with
  | none => simp [hb] at this
  | some ob => exact (Array.getElem?_eq_some_iff.1 hb).1
/-- Whether limbs are a valid number's. -/
def vnB (a : List Nat) : Bool := decide (a.length ≤ 32) && decide ((nat (val a)).length = a.length)
theorem c_validNatural (a : List Nat) (ha : Lb a) (hal : a.length ≤ 100000) (bv : Bool) (hbv : vnB a = bv) (v : Value) (ok : Nat → Prop) (w : World) (h : NatSl w ok v a) :
    Calls Tryz.prog 55 #[v] w fun e w' => e = .returned (.bool bv) ∧ w = w' := by
  obtain ⟨A, c, rfl⟩ := h.shape
  have HT := Lib.hid (c_trim a ha _ _ w h)
  unfold vnB at hbv
  clear h
  by_cases h1 : a.length ≤ 32
  · by_cases h2 : (nat (val a)).length = a.length
    · have h3 : bv = true := by rw [← hbv]; simp [h1, h2]
      have h4 : ((((nat (val a)).length : Nat) : Int) == ((a.length : Nat) : Int)) = true := by rw [beq_iff_eq]; omega
      have H2 := Lib.hid h2
      clear h2 hbv
      subst h3
      go_enter Tryz.func55, Tryz.ntmps55
      go_wp2_with (go_at_call 93; refine HT.out.mono ?_; rintro e w1 ⟨r, rfl, ⟨-, hr⟩, rfl⟩; have hr2 := hr _ _ _ rfl; rw [H2.out] at hr2; subst hr2; clear hr)
      go_ret
      exact ⟨by simp, rfl⟩
    · have h3 : bv = false := by rw [← hbv]; simp [h2]
      have h4 : ((((nat (val a)).length : Nat) : Int) == ((a.length : Nat) : Int)) = false := by rw [beq_eq_false_iff_ne]; omega
      clear h2 hbv
      subst h3
      go_enter Tryz.func55, Tryz.ntmps55
      go_wp2_with (go_at_call 93; refine HT.out.mono ?_; rintro e w1 ⟨r, rfl, ⟨-, hr⟩, rfl⟩; have hr2 := hr _ _ _ rfl; subst hr2; clear hr)
      go_ret
      exact ⟨by simp, rfl⟩
  · have h3 : bv = false := by rw [← hbv]; simp [h1]
    clear hbv
    subst h3
    go_enter Tryz.func55, Tryz.ntmps55
    go_wp2_with (fail)
    go_ret
    exact ⟨rfl, rfl⟩
theorem c_isOne (n : Nat) (bv : Bool) (hbv : decide (n = 1) = bv) (v : Value) (ok : Nat → Prop) (w : World) (h : NatSl w ok v (nat n)) :
    Calls Tryz.prog 56 #[v] w fun e w' => e = .returned (.bool bv) ∧ w = w' := by
  have n1 : nat 1 = [1] := by rw [nat_pos (by omega)]; simp [nat_zero, BB]
  by_cases h1 : (nat n).length = 1
  · obtain ⟨b, o, c, rfl, -, h2, h3, hc⟩ := h.at_ (i := 0) (by omega)
    have hcell := hc 0 (by omega)
    have hv := val_nat n
    obtain ⟨x, hx⟩ : ∃ x, nat n = [x] := List.length_eq_one_iff.1 h1
    rw [hx] at hcell hv ⊢
    rw [val_one] at hv
    subst hv
    simp only [List.getD_cons_zero, List.length_cons, List.length_nil, Nat.zero_add, Nat.add_zero] at hcell ⊢
    clear h hc h1 h2 hx
    by_cases h4 : x = 1
    · subst h4
      have h3 : bv = true := by rw [← hbv]; simp
      clear hbv n1
      subst h3
      go_enter Tryz.func56, Tryz.ntmps56
      go_wp2_with (fail)
      go_ret
      exact ⟨rfl, rfl⟩
    · have h3 : bv = false := by rw [← hbv]; simp [h4]
      have h5 : ((x : Int) == 1) = false := by rw [beq_eq_false_iff_ne]; omega
      clear hbv n1 h4
      subst h3
      go_enter Tryz.func56, Tryz.ntmps56
      go_wp2_with (fail)
      go_ret
      exact ⟨by simp, rfl⟩
  · have h3 : bv = false := by
      rw [← hbv]
      simp only [decide_eq_false_iff_not]
      rintro rfl
      rw [n1] at h1
      exact h1 rfl
    obtain ⟨A, c, rfl, -⟩ := h
    have h5 : ((((nat n).length : Nat) : Int) == 1) = false := by rw [beq_eq_false_iff_ne]; omega
    clear hbv n1 h1
    subst h3
    generalize (nat n).length = k at *
    go_enter Tryz.func56, Tryz.ntmps56
    go_wp2_with (fail)
    go_ret
    exact ⟨by simp, rfl⟩
theorem c_magnitude (n : Int) (h0 : -9223372036854775808 ≤ n) (h1 : n ≤ 9223372036854775807) (w : World) : Calls Tryz.prog 47 #[.int .i64 n] w (NewNat n.natAbs w) := by
  by_cases hn : n < 0
  · have e : IntKind.u64.wrap (-(IntKind.u64.wrap n)) = ((n.natAbs : Nat) : Int) := by rw [IntKind.wrap_u64, IntKind.wrap_u64]; omega
    have HE := Lib.hid e
    have hb : n.natAbs < 18446744073709551616 := by omega
    clear e
    go_enter Tryz.func47, Tryz.ntmps47
    go_wp2_with (fail)
    rw [HE.out]
    refine (c_natural _ hb w).mono ?_
    rintro e w1 ⟨r, rfl, hr, hb1⟩
    have HR := Lib.hid (And.intro hr hb1)
    clear hr hb1
    go_wp2_with (fail)
    go_ret
    exact ⟨_, rfl, HR.out.1, HR.out.2⟩
  · have e : IntKind.u64.wrap n = ((n.natAbs : Nat) : Int) := by rw [IntKind.wrap_u64]; omega
    have HE := Lib.hid e
    have hb : n.natAbs < 18446744073709551616 := by omega
    clear e
    go_enter Tryz.func47, Tryz.ntmps47
    go_wp2_with (fail)
    have hnn : (n : Int) = ((n.natAbs : Nat) : Int) := by omega
    have HX := Lib.hid (c_natural _ hb w)
    rw [← hnn] at HX
    refine HX.out.mono ?_
    rintro e w1 ⟨r, rfl, hr, hb1⟩
    have HR := Lib.hid (And.intro hr hb1)
    clear hr hb1 hnn
    go_wp2_with (fail)
    go_ret
    exact ⟨_, rfl, HR.out.1, HR.out.2⟩

theorem NatSl.alloc {w : World} {ok : Nat → Prop} {v : Value} {l : List Nat} (h : NatSl w ok v l) (hok : ∀ i, ok i → i < w.heap.size) (o : Obj) : NatSl (w.alloc o) ok v l :=
  h.stand fun k hk => ⟨hk, Below.heap_alloc w o k (hok k hk)⟩
theorem Tz.alloc {w : World} (h : Tz w) (o : Obj) : Tz (w.alloc o) := h.heap (Below.heap_alloc w o _ h.lt)
/-- Whether a fraction is valid. -/
def validB (s : Bool) (a b : List Nat) : Bool := vnB a && (vnB b && (decide (0 < b.length) && (decide (Nat.gcd (val a) (val b) = 1) && (decide (0 < a.length) || !s))))
theorem can_of_vn {a : List Nat} (ha : Lb a) (h : vnB a = true) : Can a := by
  unfold vnB at h
  simp only [Bool.and_eq_true, decide_eq_true_eq] at h
  have := nat_take ha
  rw [h.2, List.take_of_length_le (Nat.le_refl _)] at this
  rw [this]
  exact can_nat _

/-- What stood below is read as before. -/
theorem keep_cells {W w1 : World} (hb : Below W.heap.size W w1) : (∀ b o, b < W.heap.size → w1.cell? ⟨b, o, none⟩ = W.cell? ⟨b, o, none⟩) ∧ (∀ b o, b < W.heap.size → w1.frozen? ⟨b, o, none⟩ = W.frozen? ⟨b, o, none⟩) :=
  ⟨fun b o h => hb.cell (p := ⟨b, o, none⟩) h, fun b o h => hb.frozen (p := ⟨b, o, none⟩) h⟩

set_option maxHeartbeats 2000000 in
theorem c_Valid (s : Bool) (a b : List Nat) (ha : Lb a) (hb : Lb b) (hal : a.length ≤ 100000) (hbl : b.length ≤ 100000) (bv : Bool) (hbv : validB s a b = bv) (va vb : Value) (ok ok' : Nat → Prop) (w : World) (ht : Tz w) (h : NatSl w ok va a) (k : NatSl w ok' vb b) :
    Calls Tryz.prog 18 #[.agg #[.bool s, va, vb]] w fun e w' => e = .returned (.bool bv) ∧ Below w.heap.size w w' := by
  have h' := lt_of_nat h
  have k' := lt_of_nat k
  have HV := Lib.hid (fun (o : Obj) (x : Bool) (hx : vnB a = x) => c_validNatural a ha hal x hx va _ (w.alloc o) (h'.alloc (fun i hi => hi) o))
  have KV := Lib.hid (fun (o : Obj) (x : Bool) (hx : vnB b = x) => c_validNatural b hb hbl x hx vb _ (w.alloc o) (k'.alloc (fun i hi => hi) o))
  have HD := Lib.hid (fun (o : Obj) (hc : Can b) (h0 : 0 < b.length) => c_divisor a b ha hc h0 hal hbl va vb _ _ (w.alloc o) (ht.alloc o) (h'.alloc (fun i hi => hi) o) (k'.alloc (fun i hi => hi) o) (fun i hi => by simp; omega) (fun i hi => by simp; omega))
  have HBV := Lib.hid hbv
  obtain ⟨A, c, rfl⟩ := h.shape
  obtain ⟨B, d, rfl⟩ := k.shape
  have CB := Lib.hid (fun hx => can_of_vn hb hx)
  clear h k h' k' ha hb ht hbv
  rcases hx : vnB a with _ | _
  · have HX := Lib.hid hx
    have hz : bv = false := by rw [← HBV.out]; unfold validB; rw [hx]; rfl
    clear hx
    subst hz
    go_enter Tryz.func18, Tryz.ntmps18
    go_wp2_with (fail)
    refine (HV.out _ _ HX.out).mono ?_
    rintro e w' ⟨rfl, rfl⟩
    go_wp2_with (fail)
    go_ret
    exact ⟨rfl, (Below.refl _ _).alloc (Nat.le_refl _) _⟩
  · rcases hy : vnB b with _ | _
    · have HX := Lib.hid hx
      have HY := Lib.hid hy
      have hz : bv = false := by rw [← HBV.out]; unfold validB; rw [hx, hy]; rfl
      clear hx hy
      subst hz
      go_enter Tryz.func18, Tryz.ntmps18
      go_wp2_with (fail)
      refine (HV.out _ _ HX.out).mono ?_
      rintro e w' ⟨rfl, rfl⟩
      go_wp2_with (fail)
      refine (KV.out _ _ HY.out).mono ?_
      rintro e w' ⟨rfl, rfl⟩
      go_wp2_with (fail)
      go_ret
      exact ⟨rfl, (Below.refl _ _).alloc (Nat.le_refl _) _⟩
    · by_cases hb0 : 0 < b.length
      · have HX := Lib.hid hx
        have HY := Lib.hid hy
        have hbe : (((b.length : Nat) : Int) == 0) = false := by rw [beq_eq_false_iff_ne]; omega
        rcases ho : decide (Nat.gcd (val a) (val b) = 1) with _ | _
        · have hz : bv = false := by rw [← HBV.out]; unfold validB; rw [hx, hy, ho]; simp
          have HO := Lib.hid ho
          clear hx hy ho
          subst hz
          go_enter Tryz.func18, Tryz.ntmps18
          go_wp2_with (fail)
          refine (HV.out _ _ HX.out).mono ?_
          rintro e w' ⟨rfl, rfl⟩
          go_wp2_with (fail)
          refine (KV.out _ _ HY.out).mono ?_
          rintro e w' ⟨rfl, rfl⟩
          go_wp2_with (fail)
          refine (HD.out _ (CB.out HY.out) hb0).mono ?_
          rintro e w2 ⟨r, rfl, hr, hb2⟩
          have HR := Lib.hid (And.intro hr hb2)
          clear hr hb2
          go_wp2_with (fail)
          refine (c_isOne _ false HO.out r _ w2 HR.out.1).mono ?_
          rintro e w3 ⟨rfl, rfl⟩
          go_wp2_with (fail)
          go_ret
          exact ⟨rfl, ((Below.refl _ _).alloc (Nat.le_refl _) _).trans (HR.out.2.mono (by simp))⟩
        · have hz : bv = (decide (0 < a.length) || !s) := by rw [← HBV.out]; unfold validB; rw [hx, hy, ho]; simp [hb0]
          have HO := Lib.hid ho
          clear hx hy ho
          by_cases ha0 : 0 < a.length
          · have hz2 : bv = true := by rw [hz]; simp [ha0]
            have hgt : (0 : Int) < (a.length : Int) := by omega
            clear hz
            subst hz2
            go_enter Tryz.func18, Tryz.ntmps18
            go_wp2_with (fail)
            refine (HV.out _ _ HX.out).mono ?_
            rintro e w' ⟨rfl, rfl⟩
            go_wp2_with (fail)
            refine (KV.out _ _ HY.out).mono ?_
            rintro e w' ⟨rfl, rfl⟩
            go_wp2_with (fail)
            refine (HD.out _ (CB.out HY.out) hb0).mono ?_
            rintro e w2 ⟨r, rfl, hr, hb2⟩
            obtain ⟨hc2, hf2⟩ := keep_cells hb2
            have HR := Lib.hid (And.intro hr hb2)
            clear hr hb2
            go_wp2_with (fail)
            refine (c_isOne _ true HO.out r _ w2 HR.out.1).mono ?_
            rintro e w3 ⟨rfl, rfl⟩
            go_wp2_with (fail)
            go_ret
            exact ⟨rfl, ((Below.refl _ _).alloc (Nat.le_refl _) _).trans (HR.out.2.mono (by simp))⟩
          · have hz2 : bv = !s := by rw [hz]; simp [ha0]
            have hgt : ¬ (0 : Int) < (a.length : Int) := by omega
            clear hz
            subst hz2
            go_enter Tryz.func18, Tryz.ntmps18
            go_wp2_with (fail)
            refine (HV.out _ _ HX.out).mono ?_
            rintro e w' ⟨rfl, rfl⟩
            go_wp2_with (fail)
            refine (KV.out _ _ HY.out).mono ?_
            rintro e w' ⟨rfl, rfl⟩
            go_wp2_with (fail)
            refine (HD.out _ (CB.out HY.out) hb0).mono ?_
            rintro e w2 ⟨r, rfl, hr, hb2⟩
            obtain ⟨hc2, hf2⟩ := keep_cells hb2
            have HR := Lib.hid (And.intro hr hb2)
            clear hr hb2
            go_wp2_with (fail)
            refine (c_isOne _ true HO.out r _ w2 HR.out.1).mono ?_
            rintro e w3 ⟨rfl, rfl⟩
            go_wp2_with (fail)
            go_ret
            exact ⟨rfl, ((Below.refl _ _).alloc (Nat.le_refl _) _).trans (HR.out.2.mono (by simp))⟩
      · have hz : bv = false := by rw [← HBV.out]; unfold validB; rw [hx, hy]; simp [hb0]
        have HX := Lib.hid hx
        have HY := Lib.hid hy
        have hbe : (((b.length : Nat) : Int) == 0) = true := by rw [beq_iff_eq]; omega
        clear hx hy
        subst hz
        go_enter Tryz.func18, Tryz.ntmps18
        go_wp2_with (fail)
        refine (HV.out _ _ HX.out).mono ?_
        rintro e w' ⟨rfl, rfl⟩
        go_wp2_with (fail)
        refine (KV.out _ _ HY.out).mono ?_
        rintro e w' ⟨rfl, rfl⟩
        go_wp2_with (fail)
        go_ret
        exact ⟨rfl, (Below.refl _ _).alloc (Nat.le_refl _) _⟩
end Go.Proofs.YtfdkdloldjfnjaaGreatDoor

/- DERIVED. Fractions in memory; product. -/
namespace Go.Proofs.YtfdkdloldjfnjaaGreatDoor
open Go.RowKit
set_option maxRecDepth 100000

/-- A fraction: its sign, its numerator's limbs, its denominator's. -/
def Fr (w : World) (v : Value) (s : Bool) (n d : Nat) : Prop := ∃ va vb, v = .agg #[.bool s, va, vb] ∧ NatSl w (fun i => i < w.heap.size) va (nat n) ∧ NatSl w (fun i => i < w.heap.size) vb (nat d)
theorem Fr.on {w w' : World} {v : Value} {s : Bool} {n d : Nat} (h : Fr w v s n d) (hb : Below w.heap.size w w') : Fr w' v s n d := by
  obtain ⟨va, vb, rfl, h1, h2⟩ := h
  exact ⟨va, vb, rfl, h1.below hb (fun i hi => ⟨hi, Nat.lt_of_lt_of_le hi hb.size⟩), h2.below hb (fun i hi => ⟨hi, Nat.lt_of_lt_of_le hi hb.size⟩)⟩
def FrPost (s : Bool) (n d : Nat) (w : World) (e : Ending) (w' : World) : Prop := ∃ v, e = .returned v ∧ Fr w' v s n d ∧ Below w.heap.size w w'
theorem c_multiplyN (m n : Nat) (hm : (nat m).length ≤ 50000) (hn : (nat n).length ≤ 50000) (va vb : Value) (ok ok' : Nat → Prop) (w : World) (h : NatSl w ok va (nat m)) (k : NatSl w ok' vb (nat n)) (hok : ∀ i, ok i → i < w.heap.size) (hok' : ∀ i, ok' i → i < w.heap.size) :
    Calls Tryz.prog 92 #[va, vb] w fun e w' => ∃ r, e = .returned r ∧ NatSl w' (fun i => w.heap.size ≤ i ∧ i < w'.heap.size) r (nat (m * n)) ∧ Below w.heap.size w w' := by
  refine (c_multiply (nat m) (nat n) (lb_nat m) (lb_nat n) (by omega) (by omega) va vb ok ok' w h k hok hok').mono ?_
  rintro e w' ⟨r, h1, h2, h3⟩
  rw [val_nat, val_nat] at h2
  exact ⟨r, h1, h2, h3⟩

/-- Two fractions in their boxes. -/
def Six (g : Nat) (s : Bool) (v1 v2 : Value) (t : Bool) (u1 u2 : Value) (X : World) : Prop :=
  X.cell? ⟨g, 0, none⟩ = some (.bool s) ∧ X.cell? ⟨g, 1, none⟩ = some v1 ∧ X.cell? ⟨g, 2, none⟩ = some v2 ∧ X.cell? ⟨g + 1, 0, none⟩ = some (.bool t) ∧ X.cell? ⟨g + 1, 1, none⟩ = some u1 ∧ X.cell? ⟨g + 1, 2, none⟩ = some u2
theorem Six.on {g : Nat} {s : Bool} {v1 v2 : Value} {t : Bool} {u1 u2 : Value} {X Y : World} {B : Nat} (h : Six g s v1 v2 t u1 u2 X) (hb : Below B X Y) (hB : g + 2 < B) : Six g s v1 v2 t u1 u2 Y := by
  obtain ⟨h0, h1, h2, h3, h4, h5⟩ := h
  have e : ∀ b o, b < B → Y.cell? ⟨b, o, none⟩ = X.cell? ⟨b, o, none⟩ := fun b o hb' => hb.cell (p := ⟨b, o, none⟩) hb'
  exact ⟨(e _ _ (by omega)).trans h0, (e _ _ (by omega)).trans h1, (e _ _ (by omega)).trans h2, (e _ _ (by omega)).trans h3, (e _ _ (by omega)).trans h4, (e _ _ (by omega)).trans h5⟩
theorem Six.set {g : Nat} {s : Bool} {v1 v2 : Value} {t : Bool} {u1 u2 : Value} {X : World} (h : Six g s v1 v2 t u1 u2 X) {b : Nat} (hb : g + 1 < b) (o : Nat) (x : Value) : Six g s v1 v2 t u1 u2 (X.setCell ⟨b, o, none⟩ x) := by
  obtain ⟨h0, h1, h2, h3, h4, h5⟩ := h
  have e : ∀ c q, c < b → (X.setCell ⟨b, o, none⟩ x).cell? ⟨c, q, none⟩ = X.cell? ⟨c, q, none⟩ := fun c q hc => World.cell?_of_block (a := ⟨c, q, none⟩) (Below.heap_setCell X ⟨b, o, none⟩ x c (by show c ≠ b; omega))
  exact ⟨(e _ _ (by omega)).trans h0, (e _ _ (by omega)).trans h1, (e _ _ (by omega)).trans h2, (e _ _ (by omega)).trans h3, (e _ _ (by omega)).trans h4, (e _ _ (by omega)).trans h5⟩
theorem Six.store3 {g : Nat} {s : Bool} {v1 v2 : Value} {t : Bool} {u1 u2 : Value} {X : World} (h : Six g s v1 v2 t u1 u2 X) {b : Nat} (hb : g + 1 < b) (x y z : Value) : Six g s v1 v2 t u1 u2 (((X.setCell ⟨b, 0, none⟩ x).setCell ⟨b, 1, none⟩ y).setCell ⟨b, 2, none⟩ z) := ((h.set hb 0 x).set hb 1 y).set hb 2 z
theorem Six.four {g : Nat} {s : Bool} {v1 v2 : Value} {t : Bool} {u1 u2 : Value} {X : World} (h : Six g s v1 v2 t u1 u2 X) : X.cell? ⟨g, 1, none⟩ = some v1 ∧ X.cell? ⟨g, 2, none⟩ = some v2 ∧ X.cell? ⟨g + 1, 1, none⟩ = some u1 ∧ X.cell? ⟨g + 1, 2, none⟩ = some u2 := ⟨h.2.1, h.2.2.1, h.2.2.2.2.1, h.2.2.2.2.2⟩
theorem six_new (w : World) (s : Bool) (v1 v2 : Value) (t : Bool) (u1 u2 : Value) (o : Obj) : Six w.heap.size s v1 v2 t u1 u2 (((w.alloc (.cells #[.bool s, v1, v2] 25)).alloc (.cells #[.bool t, u1, u2] 25)).alloc o) := by
  unfold Six
  refine ⟨?_, ?_, ?_, ?_, ?_, ?_⟩ <;> go_simp
/-- A fresh result of a fraction's size. -/
def Res3 (g : Nat) (X : World) : Prop := ∃ a b c, X.heap[g]? = some (.cells #[a, b, c] 25 (0, 0))
theorem Res3.on {g : Nat} {X Y : World} {B : Nat} (h : Res3 g X) (hb : Below B X Y) (hB : g < B) : Res3 g Y := by obtain ⟨a, b, c, h⟩ := h; exact ⟨a, b, c, (hb.block _ hB).trans h⟩
theorem res3_new (w : World) (o o' : Obj) : Res3 (w.heap.size + 2) (((w.alloc o).alloc o').alloc (.cells #[.bool false, .slice none 0 0, .slice none 0 0] 25)) := by
  refine ⟨.bool false, .slice none 0 0, .slice none 0 0, ?_⟩
  have := heap_alloc_new ((w.alloc o).alloc o') (.cells #[.bool false, .slice none 0 0, .slice none 0 0] 25)
  simpa using this


theorem three_cells {W : World} {b : Nat} {x0 x1 x2 : Value} {T : TypeId} (h : W.heap[b]? = some (.cells #[x0, x1, x2] T (0, 0))) : W.cell? ⟨b, 0, none⟩ = some x0 ∧ W.cell? ⟨b, 1, none⟩ = some x1 ∧ W.cell? ⟨b, 2, none⟩ = some x2 := by simp [World.cell?, h]
theorem three_frozen {W : World} {b : Nat} {x0 x1 x2 : Value} {T : TypeId} (h : W.heap[b]? = some (.cells #[x0, x1, x2] T (0, 0))) : W.frozen? ⟨b, 0, none⟩ = false ∧ W.frozen? ⟨b, 1, none⟩ = false ∧ W.frozen? ⟨b, 2, none⟩ = false := by simp [World.frozen?, h]
theorem row_set3 {W : World} {b i : Nat} {xs : Array Value} {T : TypeId} (h : W.heap[b]? = some (.cells xs T (0, 0))) (v : Value) : (W.setCell ⟨b, i, none⟩ v).heap[b]? = some (.cells (xs.setIfInBounds i v) T (0, 0)) := by
  simp only [World.setCell, Array.getElem?_modify, if_pos trivial, h]
  simp
theorem row_store3 {W : World} {b : Nat} {y0 y1 y2 : Value} {T : TypeId} (h : W.heap[b]? = some (.cells #[y0, y1, y2] T (0, 0))) (x0 x1 x2 : Value) : (((W.setCell ⟨b, 0, none⟩ x0).setCell ⟨b, 1, none⟩ x1).setCell ⟨b, 2, none⟩ x2).heap[b]? = some (.cells #[x0, x1, x2] T (0, 0)) :=
  row_set3 (row_set3 (row_set3 h x0) x1) x2
theorem ret3 {fn : Func} {a : Act} {W : World} {R : Ending → World → Prop} {b i : Nat} {x0 x1 x2 : Value} (hfn : fn.results = #[.cell i 25]) (hp : a.tmps[i]?.getD undef = .pointer (some ⟨b, 0, none⟩)) (hd : a.defers = [])
    (h : W.heap[b]? = some (.cells #[x0, x1, x2] 25 (0, 0))) (hR : R (.returned (.agg #[x0, x1, x2])) W) : bodyPost Tryz.prog fn R .ret a W := by
  obtain ⟨c0, c1, c2⟩ := three_cells h
  exact bodyPost_ret (v := .agg #[x0, x1, x2]) (by simp [results, hfn, hp, go_sem, c0, c1, c2]) hd hR
/-- Three stores into a block at or above B leave what is below B. -/
theorem below_store3 {W X : World} {B b : Nat} (h : Below B W X) (hb : B ≤ b) (x0 x1 x2 : Value) : Below B W (((X.setCell ⟨b, 0, none⟩ x0).setCell ⟨b, 1, none⟩ x1).setCell ⟨b, 2, none⟩ x2) :=
  ((h.setCell hb _ ).setCell hb _).setCell hb _
theorem natSl_store3 {X : World} {b : Nat} {v : Value} {l : List Nat} {B : Nat} (h : NatSl X (fun i => B ≤ i ∧ i < X.heap.size) v l) (hb : b < B) (x0 x1 x2 : Value) : NatSl (((X.setCell ⟨b, 0, none⟩ x0).setCell ⟨b, 1, none⟩ x1).setCell ⟨b, 2, none⟩ x2) (fun i => i < (((X.setCell ⟨b, 0, none⟩ x0).setCell ⟨b, 1, none⟩ x1).setCell ⟨b, 2, none⟩ x2).heap.size) v l :=
  h.stand fun k hk => ⟨by simpa [World.setCell] using hk.2, by
    have : k ≠ b := by omega
    rw [Below.heap_setCell _ _ _ _ this, Below.heap_setCell _ _ _ _ this, Below.heap_setCell _ _ _ _ this]⟩
theorem natSl_on {X Y : World} {B : Nat} {v : Value} {l : List Nat} (h : NatSl X (fun i => B ≤ i ∧ i < X.heap.size) v l) (hb : Below X.heap.size X Y) : NatSl Y (fun i => B ≤ i ∧ i < Y.heap.size) v l :=
  h.below hb (fun i hi => ⟨hi.2, hi.1, Nat.lt_of_lt_of_le hi.2 hb.size⟩)
theorem Below.undrew {w w' : World} (h : Below w.drew.heap.size w.drew w') : Below w.heap.size w w' := ⟨h.os, h.tape, h.output, h.size, h.block⟩
theorem Below.undrewN {w w' : World} {k : Nat} (h : Below (w.drewN k).heap.size (w.drewN k) w') : Below w.heap.size w w' := ⟨h.os, h.tape, h.output, h.size, h.block⟩
theorem below_join {B C : Nat} {a w w' : World} (h : Below B a w) (k : Below C w w') (hc : B ≤ C) : Below B a w' := h.trans (k.mono hc)
end Go.Proofs.YtfdkdloldjfnjaaGreatDoor

/- DERIVED. product. -/
namespace Go.Proofs.YtfdkdloldjfnjaaGreatDoor
open Go.RowKit
set_option maxRecDepth 100000

set_option maxHeartbeats 1000000 in
theorem c_product (s t : Bool) (m n a b : Nat) (hm : (nat m).length ≤ 20000) (hn : (nat n).length ≤ 20000) (ha : (nat a).length ≤ 20000) (hb : (nat b).length ≤ 20000) (v u : Value) (w : World) (h : Fr w v s m a) (k : Fr w u t n b) :
    Calls Tryz.prog 66 #[v, u] w (FrPost (s != t) (m * n) (a * b) w) := by
  obtain ⟨v1, v2, rfl, h1, h2⟩ := h
  obtain ⟨u1, u2, rfl, k1, k2⟩ := k
  have H1 := Lib.hid h1
  have H2 := Lib.hid h2
  have K1 := Lib.hid k1
  have K2 := Lib.hid k2
  clear h1 h2 k1 k2
  go_enter Tryz.func66, Tryz.ntmps66
  go_wp2_with (fail)
  obtain ⟨W, hW⟩ : ∃ W, W = ((w.alloc (.cells #[.bool s, v1, v2] 25)).alloc (.cells #[.bool t, u1, u2] 25)).alloc (.cells #[.bool false, .slice none 0 0, .slice none 0 0] 25) := ⟨_, rfl⟩
  have S0 : Six w.heap.size s v1 v2 t u1 u2 W := by subst hW; exact six_new w s v1 v2 t u1 u2 _
  have R0 : Res3 (w.heap.size + 2) W := by subst hW; exact res3_new w _ _
  have B0 : Below w.heap.size w W := by subst hW; exact (((Below.refl _ _).alloc (Nat.le_refl _) _).alloc (by simp) _).alloc (by simp; omega) _
  have hz : w.heap.size + 2 < W.heap.size := by subst hW; simp
  rw [← hW]
  clear hW
  have HM1 := Lib.hid (fun (X : World) (hX : Below w.heap.size w X) => c_multiplyN m n (by omega) (by omega) v1 u1 _ _ X (H1.out.below (ok' := fun i => i < w.heap.size) hX (fun i hi => ⟨hi, hi⟩)) (K1.out.below (ok' := fun i => i < w.heap.size) hX (fun i hi => ⟨hi, hi⟩)) (fun i hi => Nat.lt_of_lt_of_le hi hX.size) (fun i hi => Nat.lt_of_lt_of_le hi hX.size))
  have HM2 := Lib.hid (fun (X : World) (hX : Below w.heap.size w X) => c_multiplyN a b (by omega) (by omega) v2 u2 _ _ X (H2.out.below (ok' := fun i => i < w.heap.size) hX (fun i hi => ⟨hi, hi⟩)) (K2.out.below (ok' := fun i => i < w.heap.size) hX (fun i hi => ⟨hi, hi⟩)) (fun i hi => Nat.lt_of_lt_of_le hi hX.size) (fun i hi => Nat.lt_of_lt_of_le hi hX.size))
  have HB0 := Lib.hid B0
  have HS0 := Lib.hid S0
  have HR0 := Lib.hid R0
  clear B0 S0 R0 H1 H2 K1 K2
  go_region_held3 (fun X => X.cell? ⟨w.heap.size, 0, none⟩ = some (.bool s) ∧ X.cell? ⟨w.heap.size, 1, none⟩ = some v1 ∧ X.cell? ⟨w.heap.size, 2, none⟩ = some v2 ∧ X.cell? ⟨w.heap.size + 1, 0, none⟩ = some (.bool t) ∧ X.cell? ⟨w.heap.size + 1, 1, none⟩ = some u1 ∧ X.cell? ⟨w.heap.size + 1, 2, none⟩ = some u2)
    (first | exact HSb.out | exact HSb.out.store3 (by omega) _ _ _ | exact HSa.out | exact HS0.out)
    (first
      | (go_at_call 92; (with_reducible refine (HM1.out _ HB0.out.drew).mono ?_); rintro e wa ⟨ra, rfl, hra, hba0⟩; obtain ⟨Aa, ca, rfl⟩ := hra.shape; have hba := Below.undrew hba0; have HSa := Lib.hid (HS0.out.on hba hz); have HRa := Lib.hid (HR0.out.on hba hz); have HBa := Lib.hid (below_join HB0.out hba HB0.out.size); have HNa := Lib.hid hra; have hza := hba.size; clear hra hba hba0)
      | (go_at_call 92; (with_reducible refine (HM2.out _ HBa.out).mono ?_); rintro e wb ⟨rb, rfl, hrb, hbb⟩; obtain ⟨Ab, cb, rfl⟩ := hrb.shape; have HSb := Lib.hid (HSa.out.on hbb (Nat.lt_of_lt_of_le hz hza)); have HRb := HRa.out.on hbb (Nat.lt_of_lt_of_le hz hza); have HBb := Lib.hid (below_join HBa.out hbb HBa.out.size); have HNb := Lib.hid hrb; have HNa2 := Lib.hid (natSl_on HNa.out hbb); have hzb := hbb.size; clear hrb hbb; obtain ⟨z0, z1, z2, hres⟩ := HRb; obtain ⟨e0, e1, e2⟩ := three_cells hres; obtain ⟨f0, f1, f2⟩ := three_frozen hres; have HRES := Lib.hid hres; clear hres))
  go_wp2_with (fail)
  refine ret3 (b := w.heap.size + 1 + 1) rfl rfl rfl (row_store3 HRES.out _ _ _) ⟨_, rfl, ⟨_, _, rfl, ?_, ?_⟩, below_store3 HBb.out (by omega) _ _ _⟩
  · exact natSl_store3 HNa2.out (show w.heap.size + 1 + 1 < W.heap.size by omega) _ _ _
  · exact natSl_store3 HNb.out (by omega) _ _ _
end Go.Proofs.YtfdkdloldjfnjaaGreatDoor

/- DERIVED. sum. -/
namespace Go.Proofs.YtfdkdloldjfnjaaGreatDoor
open Go.RowKit
set_option maxRecDepth 100000

/-- A number in memory, at or above a block. -/
def Fs (lo : Nat) (X : World) (v : Value) (n : Nat) : Prop := NatSl X (fun i => lo ≤ i ∧ i < X.heap.size) v (nat n)
theorem Fs.on {lo : Nat} {X Y : World} {v : Value} {n : Nat} (h : Fs lo X v n) (hb : Below X.heap.size X Y) : Fs lo Y v n := natSl_on h hb
theorem Fs.mono {lo lo' : Nat} {X : World} {v : Value} {n : Nat} (h : Fs lo X v n) (hl : lo' ≤ lo) : Fs lo' X v n := NatSl.mono h fun _ hi => ⟨Nat.le_trans hl hi.1, hi.2⟩
theorem Fs.drew {lo : Nat} {X : World} {v : Value} {n : Nat} (h : Fs lo X v n) : Fs lo X.drew v n := NatSl.drew h
theorem Fs.drewN {lo : Nat} {X : World} {v : Value} {n : Nat} (h : Fs lo X v n) (k : Nat) : Fs lo (X.drewN k) v n := NatSl.drewN h k
theorem Fs.shape {lo : Nat} {X : World} {v : Value} {n : Nat} (h : Fs lo X v n) : ∃ A c, v = .slice A (nat n).length c := NatSl.shape h
theorem c_addF {lo lo' : Nat} {X : World} {va vb : Value} {m n : Nat} (h : Fs lo X va m) (k : Fs lo' X vb n) (hm : (nat m).length ≤ 100000) (hn : (nat n).length ≤ 100000) :
    Calls Tryz.prog 74 #[va, vb] X fun e Y => ∃ r, e = .returned r ∧ Fs X.heap.size Y r (m + n) ∧ Below X.heap.size X Y := by
  have := c_add (nat m) (nat n) (lb_nat m) (lb_nat n) hm hn va vb _ _ X h k (fun i hi => hi.2) (fun i hi => hi.2)
  rw [val_nat, val_nat] at this
  exact this.mono fun e w' h => h
theorem c_subtractF {lo lo' : Nat} {X : World} {va vb : Value} {m n : Nat} (h : Fs lo X va m) (k : Fs lo' X vb n) (hm : (nat m).length ≤ 100000) (hle : n ≤ m) :
    Calls Tryz.prog 102 #[va, vb] X fun e Y => ∃ r, e = .returned r ∧ Fs X.heap.size Y r (m - n) ∧ Below X.heap.size X Y := by
  have := c_subtract (nat m) (nat n) (lb_nat m) (can_nat n) (by rw [val_nat, val_nat]; exact hle) hm va vb _ _ X h k (fun i hi => hi.2)
  rw [val_nat, val_nat] at this
  exact this.mono fun e w' h => h
theorem c_compareF {lo lo' : Nat} {X : World} {va vb : Value} {m n : Nat} (h : Fs lo X va m) (k : Fs lo' X vb n) :
    Calls Tryz.prog 78 #[va, vb] X (CmpPost (cmpI m n) X) := by
  have := c_compare (nat m) (nat n) (can_nat m) (can_nat n) va vb _ _ X h k
  rwa [val_nat, val_nat] at this

theorem nat_lt (n : Nat) : n < BB ^ (nat n).length := nat_len_le.1 (Nat.le_refl _)
theorem mul_len (x y : Nat) : (nat (x * y)).length ≤ (nat x).length + (nat y).length := by
  refine nat_len_le.2 ?_
  rw [Nat.pow_add]
  exact Nat.mul_lt_mul'' (nat_lt x) (nat_lt y)
theorem add_len (x y k : Nat) (hx : (nat x).length ≤ k) (hy : (nat y).length ≤ k) : (nat (x + y)).length ≤ k + 1 := by
  refine nat_len_le.2 ?_
  have h1 := nat_len_le.1 hx
  have h2 := nat_len_le.1 hy
  rw [Nat.pow_succ]
  have h3 : BB ^ k * 2 ≤ BB ^ k * BB := Nat.mul_le_mul_left _ (by decide)
  omega
/-- The sum of two fractions: its sign and numerator. -/
def sumP (s : Bool) (m a : Nat) (t : Bool) (n b : Nat) : Bool × Nat := if (s == t) = true then (s, m * b + n * a) else if m * b < n * a then (t, n * a - m * b) else (s, m * b - n * a)

set_option maxHeartbeats 1000000 in
theorem c_sum (s t : Bool) (m n a b : Nat) (hm : (nat m).length ≤ 20000) (hn : (nat n).length ≤ 20000) (ha : (nat a).length ≤ 20000) (hb : (nat b).length ≤ 20000) (v u : Value) (w : World) (h : Fr w v s m a) (k : Fr w u t n b) :
    Calls Tryz.prog 64 #[v, u] w (FrPost (sumP s m a t n b).1 (sumP s m a t n b).2 (a * b) w) := by
  have lmb := mul_len m b
  have lna := mul_len n a
  obtain ⟨v1, v2, rfl, h1, h2⟩ := h
  obtain ⟨u1, u2, rfl, k1, k2⟩ := k
  have H1 := Lib.hid h1
  have H2 := Lib.hid h2
  have K1 := Lib.hid k1
  have K2 := Lib.hid k2
  clear h1 h2 k1 k2
  go_enter Tryz.func64, Tryz.ntmps64
  go_wp2_with (fail)
  obtain ⟨W, hW⟩ : ∃ W, W = ((w.alloc (.cells #[.bool s, v1, v2] 25)).alloc (.cells #[.bool t, u1, u2] 25)).alloc (.cells #[.bool false, .slice none 0 0, .slice none 0 0] 25) := ⟨_, rfl⟩
  have S0 : Six w.heap.size s v1 v2 t u1 u2 W := by subst hW; exact six_new w s v1 v2 t u1 u2 _
  have R0 : Res3 (w.heap.size + 2) W := by subst hW; exact res3_new w _ _
  have B0 : Below w.heap.size w W := by subst hW; exact (((Below.refl _ _).alloc (Nat.le_refl _) _).alloc (by simp) _).alloc (by simp; omega) _
  have hz : w.heap.size + 2 < W.heap.size := by subst hW; simp
  rw [← hW]
  clear hW
  have HMM := Lib.hid (fun (X : World) (hX : Below w.heap.size w X) (p q : Value) (x y : Nat) (hx : (nat x).length ≤ 20000) (hy : (nat y).length ≤ 20000) (hp : NatSl w (fun i => i < w.heap.size) p (nat x)) (hq : NatSl w (fun i => i < w.heap.size) q (nat y)) => c_multiplyN x y (by omega) (by omega) p q _ _ X (hp.below (ok' := fun i => i < w.heap.size) hX (fun i hi => ⟨hi, hi⟩)) (hq.below (ok' := fun i => i < w.heap.size) hX (fun i hi => ⟨hi, hi⟩)) (fun i hi => Nat.lt_of_lt_of_le hi hX.size) (fun i hi => Nat.lt_of_lt_of_le hi hX.size))
  have HM1 := Lib.hid (fun X hX => HMM.out X hX v1 u2 m b hm hb H1.out K2.out)
  have HM2 := Lib.hid (fun X hX => HMM.out X hX u1 v2 n a hn ha K1.out H2.out)
  have HM3 := Lib.hid (fun X hX => HMM.out X hX v2 u2 a b ha hb H2.out K2.out)
  have HB0 := Lib.hid B0
  have HS0 := Lib.hid S0
  have HR0 := Lib.hid R0
  clear B0 S0 R0 H1 H2 K1 K2 HMM
  go_region_held3 (fun X => X.cell? ⟨w.heap.size, 1, none⟩ = some v1 ∧ X.cell? ⟨w.heap.size, 2, none⟩ = some v2 ∧ X.cell? ⟨w.heap.size + 1, 1, none⟩ = some u1 ∧ X.cell? ⟨w.heap.size + 1, 2, none⟩ = some u2)
    (first | exact HSb.out.four | exact HSa.out.four | exact HS0.out.four)
    (first
      | (go_at_call 92; (with_reducible refine (HM1.out _ HB0.out.drew).mono ?_); rintro e wa ⟨ra, rfl, hra, hba0⟩; obtain ⟨Aa, ca, rfl⟩ := hra.shape; have hba := Below.undrew hba0; have HSa := Lib.hid (HS0.out.on hba hz); have HRa := Lib.hid (HR0.out.on hba hz); have HBa := Lib.hid (below_join HB0.out hba HB0.out.size); have HNa := Lib.hid (show Fs W.heap.size wa _ _ from hra); have hza := hba.size; clear hra hba hba0)
      | (go_at_call 92; (with_reducible refine (HM2.out _ HBa.out).mono ?_); rintro e wb ⟨rb, rfl, hrb, hbb⟩; obtain ⟨Ab, cb, rfl⟩ := hrb.shape; have HSb := Lib.hid (HSa.out.on hbb (Nat.lt_of_lt_of_le hz hza)); have HRb := Lib.hid (HRa.out.on hbb (Nat.lt_of_lt_of_le hz hza)); have HBb := Lib.hid (below_join HBa.out hbb HBa.out.size); have HNb := Lib.hid (show Fs wa.heap.size wb _ _ from hrb); have HNa2 := Lib.hid (HNa.out.on hbb); have hzb := hbb.size; clear hrb hbb))
  obtain ⟨-, x1, x2, -, y1, y2⟩ := HSb.out
  go_wp2_with (go_at_call 92; (with_reducible refine (HM3.out _ HBb.out).mono ?_); rintro e wc ⟨rc, rfl, hrc, hbc⟩; obtain ⟨Ac, cc, rfl⟩ := hrc.shape; have HSc := Lib.hid (HSb.out.on hbc (Nat.lt_of_lt_of_le hz (Nat.le_trans hza hzb))); have HRc := Lib.hid (HRb.out.on hbc (Nat.lt_of_lt_of_le hz (Nat.le_trans hza hzb))); have HBc := Lib.hid (below_join HBb.out hbc HBb.out.size); have HNc := Lib.hid (show Fs wb.heap.size wc _ _ from hrc); have HNa3 := Lib.hid (HNa2.out.on hbc); have HNb3 := Lib.hid (HNb.out.on hbc); have hzc := hbc.size; have hzz : w.heap.size + 2 < wc.heap.size := Nat.lt_of_lt_of_le hz (Nat.le_trans hza (Nat.le_trans hzb hzc)); clear hrc hbc; obtain ⟨z0, -, -, z3, -, -⟩ := HSc.out)
  · have hst : (s == t) = true := by assumption
    go_region_held3 (fun X => X.cell? ⟨w.heap.size, 0, none⟩ = some (.bool s))
      (first | exact HSd.out.1 | exact (HSd.out.store3 (by omega) _ _ _).1 | exact HSc.out.1)
      (first
        | (go_at_call 74; (with_reducible refine (c_addF HNa3.out.drew HNb3.out.drew (by omega) (by omega)).mono ?_); rintro e wd ⟨rd, rfl, hrd, hbd0⟩; obtain ⟨Ad, cd, rfl⟩ := hrd.shape; have hbd := Below.undrew hbd0; have HSd := Lib.hid (HSc.out.on hbd hzz); have HRd := HRc.out.on hbd hzz; have HBd := Lib.hid (below_join HBc.out hbd HBc.out.size); have HNd := Lib.hid (show Fs wc.heap.size wd _ _ from hrd); have HNc2 := Lib.hid (HNc.out.on hbd); have hzd := hbd.size; clear hrd hbd hbd0; obtain ⟨z0, z1, z2, hres⟩ := HRd; obtain ⟨e0, e1, e2⟩ := three_cells hres; obtain ⟨f0, f1, f2⟩ := three_frozen hres; have HRES := Lib.hid hres; clear hres))
    go_wp2_with (fail)
    rw [show sumP s m a t n b = (s, m * b + n * a) from if_pos hst]
    refine ret3 (b := w.heap.size + 1 + 1) rfl rfl rfl (row_store3 HRES.out _ _ _) ⟨_, rfl, ⟨_, _, rfl, ?_, ?_⟩, below_store3 HBd.out (by omega) _ _ _⟩
    · exact natSl_store3 HNd.out (by omega) _ _ _
    · exact natSl_store3 HNc2.out (by omega) _ _ _
  · have hst : (s == t) = false := by assumption
    have hst' : ¬ (s == t) = true := by rw [hst]; decide
    have HC := Lib.hid (cmp_post' (c_compareF HNa3.out HNb3.out))
    by_cases hlt : m * b < n * a
    · rw [cmpI_lt hlt] at HC
      refine HC.out.mono ?_
      rintro e w5 ⟨rfl, n5, rfl⟩
      go_wp2_with (fail)
      go_region_held3 (fun X => X.cell? ⟨w.heap.size + 1, 0, none⟩ = some (.bool t))
        (first | exact HSd.out.2.2.2.1 | exact (HSd.out.store3 (by omega) _ _ _).2.2.2.1 | exact HSc.out.2.2.2.1)
        (first
          | (go_at_call 102; (with_reducible refine (c_subtractF (HNb3.out.drewN _) (HNa3.out.drewN _) (by omega) (by omega)).mono ?_); rintro e wd ⟨rd, rfl, hrd, hbd0⟩; obtain ⟨Ad, cd, rfl⟩ := hrd.shape; have hbd := Below.undrewN hbd0; have HSd := Lib.hid (HSc.out.on hbd hzz); have HRd := HRc.out.on hbd hzz; have HBd := Lib.hid (below_join HBc.out hbd HBc.out.size); have HNd := Lib.hid (show Fs wc.heap.size wd _ _ from hrd); have HNc2 := Lib.hid (HNc.out.on hbd); have hzd := hbd.size; clear hrd hbd hbd0; obtain ⟨z0, z1, z2, hres⟩ := HRd; obtain ⟨e0, e1, e2⟩ := three_cells hres; obtain ⟨f0, f1, f2⟩ := three_frozen hres; have HRES := Lib.hid hres; clear hres))
      go_wp2_with (fail)
      rw [show sumP s m a t n b = (t, n * a - m * b) from (if_neg hst').trans (if_pos hlt)]
      refine ret3 (b := w.heap.size + 1 + 1) rfl rfl rfl (row_store3 HRES.out _ _ _) ⟨_, rfl, ⟨_, _, rfl, ?_, ?_⟩, below_store3 HBd.out (by omega) _ _ _⟩
      · exact natSl_store3 HNd.out (by omega) _ _ _
      · exact natSl_store3 HNc2.out (by omega) _ _ _
    · have hge : ∃ z : Int, cmpI (m * b) (n * a) = z ∧ ¬ z < 0 := ⟨_, rfl, by unfold cmpI; rw [if_neg hlt]; split <;> decide⟩
      obtain ⟨z, hz1, hz2⟩ := hge
      rw [hz1] at HC
      refine HC.out.mono ?_
      rintro e w5 ⟨rfl, n5, rfl⟩
      go_wp2_with (fail)
      go_region_held3 (fun X => X.cell? ⟨w.heap.size, 0, none⟩ = some (.bool s))
        (first | exact HSd.out.1 | exact (HSd.out.store3 (by omega) _ _ _).1 | exact HSc.out.1)
        (first
          | (go_at_call 102; (with_reducible refine (c_subtractF (HNa3.out.drewN _) (HNb3.out.drewN _) (by omega) (by omega)).mono ?_); rintro e wd ⟨rd, rfl, hrd, hbd0⟩; obtain ⟨Ad, cd, rfl⟩ := hrd.shape; have hbd := Below.undrewN hbd0; have HSd := Lib.hid (HSc.out.on hbd hzz); have HRd := HRc.out.on hbd hzz; have HBd := Lib.hid (below_join HBc.out hbd HBc.out.size); have HNd := Lib.hid (show Fs wc.heap.size wd _ _ from hrd); have HNc2 := Lib.hid (HNc.out.on hbd); have hzd := hbd.size; clear hrd hbd hbd0; obtain ⟨z0, z1, z2, hres⟩ := HRd; obtain ⟨e0, e1, e2⟩ := three_cells hres; obtain ⟨f0, f1, f2⟩ := three_frozen hres; have HRES := Lib.hid hres; clear hres))
      go_wp2_with (fail)
      rw [show sumP s m a t n b = (s, m * b - n * a) from (if_neg hst').trans (if_neg hlt)]
      refine ret3 (b := w.heap.size + 1 + 1) rfl rfl rfl (row_store3 HRES.out _ _ _) ⟨_, rfl, ⟨_, _, rfl, ?_, ?_⟩, below_store3 HBd.out (by omega) _ _ _⟩
      · exact natSl_store3 HNd.out (by omega) _ _ _
      · exact natSl_store3 HNc2.out (by omega) _ _ _
end Go.Proofs.YtfdkdloldjfnjaaGreatDoor
