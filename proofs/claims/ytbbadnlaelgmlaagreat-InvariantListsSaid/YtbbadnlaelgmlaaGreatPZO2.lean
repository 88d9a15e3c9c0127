/-
  DERIVED. Several texts in one.
-/
import Derived.Test.YtbbadnlaelgmlaaGreatPZO1
import Derived.Test.YtbbadnlaelgmlaaGreatPZN1
import Derived.Deep.RegionWith
set_option linter.unusedVariables false
set_option linter.unusedSimpArgs false

namespace Go.Proofs.YtbbadnlaelgmlaaGreat
open Go.RowKit
set_option maxRecDepth 100000
set_option linter.unusedVariables false
set_option linter.unusedSimpArgs false

set_option maxHeartbeats 4000000 in
theorem c_phases1 (hb : Nat) (h : Int) (x : Rep) (r : Bool) (hr : (x.host == h) = r) (w : World) (hh : w.cell? ⟨hb, 0, none⟩ = some (.int .i64 h)) (hl : hb < w.heap.size) :
    Calls Tryz.prog 94 #[.agg #[.int .i64 x.svc, .int .i64 x.host], .pointer (some ⟨hb, 0, none⟩)] w fun e w' => e = .returned (.bool r) ∧ Below w.heap.size w w' := by
  obtain ⟨W, h1⟩ : ∃ W, W = w.alloc (.cells #[.int .i64 x.svc, .int .i64 x.host] 53) := ⟨_, rfl⟩
  have B1 : Below w.heap.size w W := by rw [h1]; exact (Below.refl _ _).alloc (Nat.le_refl _) _
  have HB := Lib.hid B1
  have x0 : W.cell? ⟨hb, 0, none⟩ = some (.int .i64 h) := (B1.cell (p := ⟨hb, 0, none⟩) hl).trans hh
  have x1 : W.cell? ⟨w.heap.size, 1, none⟩ = some (.int .i64 x.host) := by rw [h1]; exact cell_of (box_new _ _ _) rfl
  have HR := Lib.hid hr
  clear hh B1 hr
  rw [h1] at x0 x1
  go_enter Tryz.func94, Tryz.ntmps94
  go_wp2_with (fail)
  rw [← h1]
  go_ret
  exact ⟨(show Ending.returned (.bool (x.host == h)) = .returned (.bool r) by rw [HR.out]), HB.out⟩
/-- A scene's boxes in one, as it is captured. -/
def ScAt (X : World) (b : Nat) (z : Sn) : Prop := X.cell? ⟨b, 0, none⟩ = some (.slice z.p.a1 z.s.feeds.length z.p.c1) ∧ X.cell? ⟨b, 1, none⟩ = some (.slice z.p.a2 z.s.brks.length z.p.c2) ∧ X.cell? ⟨b, 2, none⟩ = some (.slice z.p.a3 z.s.loops.length z.p.c3) ∧ X.cell? ⟨b, 3, none⟩ = some (.slice z.p.a4 z.s.racks.length z.p.c4) ∧ X.cell? ⟨b, 4, none⟩ = some (.int .i64 z.s.sw) ∧ X.cell? ⟨b, 5, none⟩ = some (.slice z.p.a5 z.s.links.length z.p.c5) ∧ X.cell? ⟨b, 6, none⟩ = some (.slice z.p.a6 z.s.hosts.length z.p.c6) ∧ X.cell? ⟨b, 7, none⟩ = some (.slice z.A z.xs.length z.c) ∧ X.cell? ⟨b, 8, none⟩ = some (.slice z.q.a1 z.d.hosts.length z.q.c1) ∧ X.cell? ⟨b, 9, none⟩ = some (.slice z.q.a2 z.d.reps.length z.q.c2)
set_option maxHeartbeats 4000000 in
theorem c_aparts1 (z : Sn) (sb ob : Nat) (o h : Int) (r : Bool) (hr : hasB z.d.reps ⟨o, h⟩ = r) (w : World) (hz : SnAt w z) (hs : ScAt w sb z) (ho : w.cell? ⟨ob, 0, none⟩ = some (.int .i64 o)) :
    Calls Tryz.prog 99 #[.int .i64 h, .pointer (some ⟨sb, 0, none⟩), .pointer (some ⟨ob, 0, none⟩)] w fun e w' => e = .returned (.bool r) ∧ Below w.heap.size w w' := by
  have HC := Lib.hid (c_hasTo z o h r hr w hz)
  obtain ⟨f0, f1, f2, f3, f4, f5, f6, f7, f8, f9⟩ := hs
  clear hr hz
  go_enter Tryz.func99, Tryz.ntmps99
  go_wp2_with (fail)
  go_at_call 100
  refine HC.out.mono ?_
  rintro e w1 ⟨rfl, bb⟩
  have HB1 := Lib.hid bb
  clear bb f0 f1 f2 f3 f4 f5 f6 f7 f8 f9 ho
  go_wp2_with (fail)
  go_ret
  exact ⟨rfl, HB1.out⟩
set_option maxHeartbeats 4000000 in
theorem c_nears1 (z : Sn) (sb nb : Nat) (x : Nr) (h : Int) (r : Bool) (hr : hasB z.d.reps ⟨x.svc, h⟩ = r) (w : World) (hz : SnAt w z) (hs : ScAt w sb z) (ho : w.cell? ⟨nb, 0, none⟩ = some (.int .i64 x.svc)) :
    Calls Tryz.prog 102 #[.int .i64 h, .pointer (some ⟨sb, 0, none⟩), .pointer (some ⟨nb, 0, none⟩)] w fun e w' => e = .returned (.bool r) ∧ Below w.heap.size w w' := by
  have HC := Lib.hid (c_hasTo z x.svc h r hr w hz)
  obtain ⟨f0, f1, f2, f3, f4, f5, f6, f7, f8, f9⟩ := hs
  clear hr hz
  go_enter Tryz.func102, Tryz.ntmps102
  go_wp2_with (fail)
  go_at_call 100
  refine HC.out.mono ?_
  rintro e w1 ⟨rfl, bb⟩
  have HB1 := Lib.hid bb
  clear bb f0 f1 f2 f3 f4 f5 f6 f7 f8 f9 ho
  go_wp2_with (fail)
  go_ret
  exact ⟨rfl, HB1.out⟩
theorem c_withinTo (z : Sn) (a most : Int) (l : List Int) (hl : nats (witI z.s a most) = l) (w : World) (h : SnAt w z) :
    Calls Tryz.prog 104 #[.agg #[.slice z.p.a1 z.s.feeds.length z.p.c1, .slice z.p.a2 z.s.brks.length z.p.c2, .slice z.p.a3 z.s.loops.length z.p.c3, .slice z.p.a4 z.s.racks.length z.p.c4, .int .i64 z.s.sw, .slice z.p.a5 z.s.links.length z.p.c5, .slice z.p.a6 z.s.hosts.length z.p.c6], .int .i64 a, .int .i64 most] w fun e w' => ∃ A c, e = .returned (.slice A l.length c) ∧ Rw 1 inF w' A c l ∧ Below w.heap.size w w' := by
  subst hl
  refine (c_neWithin z.p z.s a most _ rfl w h.si).mono fun e w' q => ?_
  obtain ⟨v, e1, ho, hb⟩ := q
  obtain ⟨A, c, rfl, hr⟩ := own_rw ho
  exact ⟨A, c, e1, hr, hb⟩
set_option maxHeartbeats 8000000 in
theorem c_nears2 (z : Sn) (sb nb fb : Nat) (x : Nr) (h : Int) (r : Bool) (hr : (!nerB z.s z.d x h) = r) (w : World) (hz : SnAt w z) (hs : ∀ X, Below w.heap.size w X → ScAt X sb z) (ho : ∀ X, Below w.heap.size w X → X.cell? ⟨nb, 0, none⟩ = some (.int .i64 x.svc) ∧ X.cell? ⟨nb, 1, none⟩ = some (.int .i64 x.lat)) (hf : ∀ X, Below w.heap.size w X → X.cell? ⟨fb, 0, none⟩ = some (.func (.func 102) #[] #[.pointer (some ⟨sb, 0, none⟩), .pointer (some ⟨nb, 0, none⟩)])) :
    Calls Tryz.prog 103 #[.int .i64 h, .pointer (some ⟨sb, 0, none⟩), .pointer (some ⟨nb, 0, none⟩), .pointer (some ⟨fb, 0, none⟩)] w fun e w' => e = .returned (.bool r) ∧ Below w.heap.size w w' := by
  obtain ⟨l, hl⟩ : ∃ l, nats (witI z.s h x.lat) = l := ⟨_, rfl⟩
  have HL := Lib.hid hl
  have HSN := Lib.hid (fun (X : World) (hX : Below w.heap.size w X) => hz.on hX (Nat.le_refl _))
  have HS := Lib.hid hs
  have HO := Lib.hid ho
  obtain ⟨b, hb⟩ : ∃ b, l.any (fun k => hasB z.d.reps ⟨x.svc, k⟩) = b := ⟨_, rfl⟩
  have HBB := Lib.hid hb
  obtain rfl : (!b) = r := by rw [← hr, ← hb, ← hl]; rfl
  have HC := Lib.hid (fun (X : World) (hX : Below w.heap.size w X) => (by
    obtain ⟨f0, f1, f2, f3, f4, f5, f6, f7, f8, f9⟩ := hs X hX
    exact ⟨f0, f1, f2, f3, f4, f5, f6, f7, f8, f9, (ho X hX).2, hf X hX⟩ : X.cell? ⟨sb, 0, none⟩ = some (.slice z.p.a1 z.s.feeds.length z.p.c1) ∧ X.cell? ⟨sb, 1, none⟩ = some (.slice z.p.a2 z.s.brks.length z.p.c2) ∧ X.cell? ⟨sb, 2, none⟩ = some (.slice z.p.a3 z.s.loops.length z.p.c3) ∧ X.cell? ⟨sb, 3, none⟩ = some (.slice z.p.a4 z.s.racks.length z.p.c4) ∧ X.cell? ⟨sb, 4, none⟩ = some (.int .i64 z.s.sw) ∧ X.cell? ⟨sb, 5, none⟩ = some (.slice z.p.a5 z.s.links.length z.p.c5) ∧ X.cell? ⟨sb, 6, none⟩ = some (.slice z.p.a6 z.s.hosts.length z.p.c6) ∧ X.cell? ⟨sb, 7, none⟩ = some (.slice z.A z.xs.length z.c) ∧ X.cell? ⟨sb, 8, none⟩ = some (.slice z.q.a1 z.d.hosts.length z.q.c1) ∧ X.cell? ⟨sb, 9, none⟩ = some (.slice z.q.a2 z.d.reps.length z.q.c2) ∧ X.cell? ⟨nb, 1, none⟩ = some (.int .i64 x.lat) ∧ X.cell? ⟨fb, 0, none⟩ = some (.func (.func 102) #[] #[.pointer (some ⟨sb, 0, none⟩), .pointer (some ⟨nb, 0, none⟩)])))
  have HCF := Lib.hid (fun (X : World) (hX : Below w.heap.size w X) (A : Option Addr) (c : Nat) (hA : Rw 1 inF X A c l) => c_CFN (fun k => hasB z.d.reps ⟨x.svc, k⟩) sb nb A c l X hA (fun Y hY y r _ hr => c_nears1 z sb nb x y r hr Y (HSN.out Y (below_join hX hY hX.size)) (HS.out Y (below_join hX hY hX.size)) (HO.out Y (below_join hX hY hX.size)).1) b HBB.out)
  have HKw := Lib.hid (Below.refl w.heap.size w)
  clear hl hb hz hs ho hf hr
  go_enter Tryz.func103, Tryz.ntmps103
  go_wp2_with (fail)
  go_region_held3 (fun X => X.cell? ⟨sb, 0, none⟩ = some (.slice z.p.a1 z.s.feeds.length z.p.c1) ∧ X.cell? ⟨sb, 1, none⟩ = some (.slice z.p.a2 z.s.brks.length z.p.c2) ∧ X.cell? ⟨sb, 2, none⟩ = some (.slice z.p.a3 z.s.loops.length z.p.c3) ∧ X.cell? ⟨sb, 3, none⟩ = some (.slice z.p.a4 z.s.racks.length z.p.c4) ∧ X.cell? ⟨sb, 4, none⟩ = some (.int .i64 z.s.sw) ∧ X.cell? ⟨sb, 5, none⟩ = some (.slice z.p.a5 z.s.links.length z.p.c5) ∧ X.cell? ⟨sb, 6, none⟩ = some (.slice z.p.a6 z.s.hosts.length z.p.c6) ∧ X.cell? ⟨sb, 7, none⟩ = some (.slice z.A z.xs.length z.c) ∧ X.cell? ⟨sb, 8, none⟩ = some (.slice z.q.a1 z.d.hosts.length z.q.c1) ∧ X.cell? ⟨sb, 9, none⟩ = some (.slice z.q.a2 z.d.reps.length z.q.c2) ∧ X.cell? ⟨nb, 1, none⟩ = some (.int .i64 x.lat) ∧ X.cell? ⟨fb, 0, none⟩ = some (.func (.func 102) #[] #[.pointer (some ⟨sb, 0, none⟩), .pointer (some ⟨nb, 0, none⟩)]))
    (first | exact HC.out v202 HKv202.out | exact HC.out v201 HKv201.out | exact HC.out w HKw.out | fail)
    (first
      | (go_at_call 104; (with_reducible refine (c_withinTo z h x.lat l HL.out w.drew (HSN.out _ HKw.out.drew)).mono ?_); rintro e v201 ⟨A1, q1, rfl, rw1, bb0⟩; have bb := below_join (Below.refl w.heap.size w).drew bb0 (Nat.le_refl _); have HKv201 := Lib.hid (below_join HKw.out bb HKw.out.size); have RWv201 := Lib.hid rw1; clear rw1; clear bb bb0)
      | (go_at_call 101; (with_reducible refine (HCF.out v201 HKv201.out _ _ RWv201.out).mono ?_); rintro e v202 ⟨rfl, bb0⟩; have bb := below_join (Below.refl v201.heap.size v201) bb0 (Nat.le_refl _); have HKv202 := Lib.hid (below_join HKv201.out bb HKv201.out.size); have RWv202 := Lib.hid (RWv201.out.on bb (Nat.le_refl _)); clear bb bb0)
      | fail)
  go_wp2_with (fail)
  go_ret
  exact ⟨rfl, HKv202.out⟩
end Go.Proofs.YtbbadnlaelgmlaaGreat

namespace Go.Proofs.YtbbadnlaelgmlaaGreat
open Go.RowKit
set_option maxRecDepth 100000
set_option linter.unusedVariables false
set_option linter.unusedSimpArgs false

set_option maxHeartbeats 16000000 in
theorem c_findPhases (z : Sn) (W0 : World) (g kb : Nat) (fv : Value) (l : List Bn) (ok : z.Ok) (hl : l.length ≤ 5000) (w : World) (h : Fnd z W0 g kb 2 fv l w) :
    Calls Tryz.prog 50 #[.agg #[.slice z.p.a1 z.s.feeds.length z.p.c1, .slice z.p.a2 z.s.brks.length z.p.c2, .slice z.p.a3 z.s.loops.length z.p.c3, .slice z.p.a4 z.s.racks.length z.p.c4, .int .i64 z.s.sw, .slice z.p.a5 z.s.links.length z.p.c5, .slice z.p.a6 z.s.hosts.length z.p.c6, .slice z.A z.xs.length z.c, .slice z.q.a1 z.d.hosts.length z.q.c1, .slice z.q.a2 z.d.reps.length z.q.c2], .func (.func 29) #[] #[.pointer (some ⟨g, 0, none⟩), .pointer (some ⟨kb, 0, none⟩)]] w fun e w' => e = .returned (.tuple #[]) ∧ Fnd z W0 g kb 2 fv (l ++ bnK z.s z.ss z.d 2) w' ∧ Kg g w w' := by
  obtain ⟨W, h1⟩ : ∃ W, W = w.alloc (.cells #[.slice z.p.a1 z.s.feeds.length z.p.c1, .slice z.p.a2 z.s.brks.length z.p.c2, .slice z.p.a3 z.s.loops.length z.p.c3, .slice z.p.a4 z.s.racks.length z.p.c4, .int .i64 z.s.sw, .slice z.p.a5 z.s.links.length z.p.c5, .slice z.p.a6 z.s.hosts.length z.p.c6, .slice z.A z.xs.length z.c, .slice z.q.a1 z.d.hosts.length z.q.c1, .slice z.q.a2 z.d.reps.length z.q.c2] 71) := ⟨_, rfl⟩
  have B1 : Below w.heap.size w W := by rw [h1]; exact (Below.refl _ _).alloc (Nat.le_refl _) _
  have L0 : Loc g W w.heap.size (.cells #[.slice z.p.a1 z.s.feeds.length z.p.c1, .slice z.p.a2 z.s.brks.length z.p.c2, .slice z.p.a3 z.s.loops.length z.p.c3, .slice z.p.a4 z.s.racks.length z.p.c4, .int .i64 z.s.sw, .slice z.p.a5 z.s.links.length z.p.c5, .slice z.p.a6 z.s.hosts.length z.p.c6, .slice z.A z.xs.length z.c, .slice z.q.a1 z.d.hosts.length z.q.c1, .slice z.q.a2 z.d.reps.length z.q.c2] 71 (0, 0)) := by rw [h1]; exact h.new _
  have HF := Lib.hid (h.on B1)
  have HKG := Lib.hid (h.kg B1)
  have HS := Lib.hid (fun (X : World) (hX : Kg g W X) => (scn_cells (L0.on hX) : X.cell? ⟨w.heap.size, 0, none⟩ = some (.slice z.p.a1 z.s.feeds.length z.p.c1) ∧ X.cell? ⟨w.heap.size, 1, none⟩ = some (.slice z.p.a2 z.s.brks.length z.p.c2) ∧ X.cell? ⟨w.heap.size, 2, none⟩ = some (.slice z.p.a3 z.s.loops.length z.p.c3) ∧ X.cell? ⟨w.heap.size, 3, none⟩ = some (.slice z.p.a4 z.s.racks.length z.p.c4) ∧ X.cell? ⟨w.heap.size, 4, none⟩ = some (.int .i64 z.s.sw) ∧ X.cell? ⟨w.heap.size, 5, none⟩ = some (.slice z.p.a5 z.s.links.length z.p.c5) ∧ X.cell? ⟨w.heap.size, 6, none⟩ = some (.slice z.p.a6 z.s.hosts.length z.p.c6) ∧ X.cell? ⟨w.heap.size, 7, none⟩ = some (.slice z.A z.xs.length z.c) ∧ X.cell? ⟨w.heap.size, 8, none⟩ = some (.slice z.q.a1 z.d.hosts.length z.q.c1) ∧ X.cell? ⟨w.heap.size, 9, none⟩ = some (.slice z.q.a2 z.d.reps.length z.q.c2)))
  have HK0 := Lib.hid (Kg.refl g W)
  obtain ⟨n1, n2, n3, n4, n5, n6, n7, n8⟩ := h.snx.bounds
  have HOK := Lib.hid ok
  have HL := Lib.hid hl
  have HPO : ∀ X, Fnd z W0 g kb 2 fv (l ++ bnK z.s z.ss z.d 2) X → Kg g W X → (Ending.returned (.tuple #[]) = .returned (.tuple #[]) ∧ Fnd z W0 g kb 2 fv (l ++ bnK z.s z.ss z.d 2) X ∧ Kg g w X) := fun X hx hk => ⟨rfl, hx, HKG.out.trans hk⟩
  obtain ⟨Q, hQ⟩ : ∃ Q : Ending → World → Prop, Q = fun e w' => e = .returned (.tuple #[]) ∧ Fnd z W0 g kb 2 fv (l ++ bnK z.s z.ss z.d 2) w' ∧ Kg g w w' := ⟨_, rfl⟩
  have HQ := Lib.hid (fun X hx hk => (by rw [hQ]; exact HPO X hx hk : Q (.returned (.tuple #[])) X))
  rw [← hQ]
  clear h B1 L0 hl HKG HPO hQ ok
  obtain ⟨f0, f1, f2, f3, f4, f5, f6, f7, f8, f9⟩ := HS.out W HK0.out
  rw [h1] at f0 f1 f2 f3 f4 f5 f6 f7 f8 f9
  generalize hBB : w.heap.size = B at *
  go_enter Tryz.func50, Tryz.ntmps50
  go_wp2_with (fail)
  rw [← h1]
  clear h1 f0 f1 f2 f3 f4 f5 f6 f7 f8 f9
  have hnn := few_hosts HOK.out
  have HSM := Lib.hid (hosts_same HOK.out)
  go_loopw [4, 5, 10] (fun h4 h5 i wr => ∃ k : Nat, k ≤ z.s.hosts.length ∧ i = .int .i64 (k : Int) ∧ Hid (Fnd z W0 g kb 2 fv (l ++ bk1 2 (bnPha z.d) k) wr) ∧ Hid (Kg g W wr)) (fun _ _ i _ => z.s.hosts.length - (intOf i).toNat)
  case atStart => exact ⟨0, Nat.zero_le _, rfl, Lib.hid (by rw [bk1_zero, List.append_nil]; exact HF.out), HK0⟩
  case round =>
    obtain ⟨k, hk, rfl, hFr, hKr⟩ := hrel
    have hki : ((k : Nat) : Int).toNat = k := by omega
    by_cases hlt : k < z.s.hosts.length
    · obtain ⟨x, hx⟩ : ∃ x, z.d.hosts[k]? = some x := ⟨_, List.getElem?_eq_getElem (by have := HSM.out; omega)⟩
      have hki2 : (k : Int) < (z.s.hosts.length : Int) := by omega
      have hki3 : (k : Int) < (z.d.hosts.length : Int) := by have := HSM.out; omega
      obtain ⟨m, hm⟩ : ∃ m, l ++ bk1 2 (bnPha z.d) k = m := ⟨_, rfl⟩
      have HSU := Lib.hid (show l ++ bk1 2 (bnPha z.d) (k + 1) = m ++ bk0 2 k ((bnPha z.d) k) by rw [bk1_succ, ← List.append_assoc, hm])
      have HML := Lib.hid (show m.length ≤ 10000 by rw [← hm, List.length_append]; have := bk1_len 2 (bnPha z.d) k; have := HL.out; omega)
      rw [hm] at hFr
      clear hm
      have hsn := hFr.out.snx
      obtain ⟨pb, po, e6, hpb, x0⟩ := ho_at hsn hx
      obtain ⟨V, hV⟩ : ∃ X, X = wr.alloc (.cells #[.int .i64 (k : Int)] 3) := ⟨_, rfl⟩
      have bV : Below wr.heap.size wr V := by rw [hV]; exact (Below.refl _ _).alloc (Nat.le_refl _) _
      have LV : Loc g V wr.heap.size (.cells #[.int .i64 (k : Int)] 3 (0, 0)) := by rw [hV]; exact hFr.out.new _
      have HFV := Lib.hid (hFr.out.on bV)
      have HKV := Lib.hid (hKr.out.trans (hFr.out.kg bV))
      have HC := Lib.hid (fun (X : World) (hX : Below V.heap.size V X) => (by
        have hk2 := HFV.out.kg hX
        have hbx := bV.trans (hX.mono bV.size)
        obtain ⟨f0, f1, f2, f3, f4, f5, f6, f7, f8, f9⟩ := HS.out X (HKV.out.trans hk2)
        rw [e6] at f8
        exact ⟨f0, f1, f2, f3, f4, f5, f6, f7, f8, f9, (hbx.cell (p := ⟨pb, po + k * 2, none⟩) hpb).trans x0, (LV.on hk2).cell rfl⟩ : X.cell? ⟨B, 0, none⟩ = some (.slice z.p.a1 z.s.feeds.length z.p.c1) ∧ X.cell? ⟨B, 1, none⟩ = some (.slice z.p.a2 z.s.brks.length z.p.c2) ∧ X.cell? ⟨B, 2, none⟩ = some (.slice z.p.a3 z.s.loops.length z.p.c3) ∧ X.cell? ⟨B, 3, none⟩ = some (.slice z.p.a4 z.s.racks.length z.p.c4) ∧ X.cell? ⟨B, 4, none⟩ = some (.int .i64 z.s.sw) ∧ X.cell? ⟨B, 5, none⟩ = some (.slice z.p.a5 z.s.links.length z.p.c5) ∧ X.cell? ⟨B, 6, none⟩ = some (.slice z.p.a6 z.s.hosts.length z.p.c6) ∧ X.cell? ⟨B, 7, none⟩ = some (.slice z.A z.xs.length z.c) ∧ X.cell? ⟨B, 8, none⟩ = some (.slice (some ⟨pb, po, none⟩) z.d.hosts.length z.q.c1) ∧ X.cell? ⟨B, 9, none⟩ = some (.slice z.q.a2 z.d.reps.length z.q.c2) ∧ X.cell? ⟨pb, po + k * 2, none⟩ = some (.int .u8 (x.phase : Int)) ∧ X.cell? ⟨wr.heap.size, 0, none⟩ = some (.int .i64 (k : Int))))
      have HSN := Lib.hid (fun (X : World) (hX : Below V.heap.size V X) => (HFV.out.on hX).snx)
      have HKbV := Lib.hid (Below.refl V.heap.size V)
      have hvb : wr.heap.size < V.heap.size := by rw [hV, World.size_alloc]; omega
      have hPH := phAt_eq hx
      have HPH := Lib.hid hPH
      obtain ⟨b, hb⟩ : ∃ b, isOn z.d.reps (k : Int) = b := ⟨_, rfl⟩
      have HON := Lib.hid hb
      have HCF := Lib.hid (fun (X : World) (hX : Below V.heap.size V X) => c_CFP (fun r => r.host == (k : Int)) wr.heap.size z.q.a2 z.q.c2 z.d.reps X (HSN.out X hX).wo.reps (fun Y hY y r _ hr => c_phases1 wr.heap.size (k : Int) y r hr Y (((hX.trans (hY.mono hX.size)).cell (p := ⟨wr.heap.size, 0, none⟩) hvb).trans (LV.cell rfl)) (Nat.lt_of_lt_of_le hvb (Nat.le_trans hX.size hY.size))) b HON.out)
      clear hx x0 e6 hPH hb
      obtain ⟨f0, f1, f2, f3, f4, f5, f6, f7, f8, f9, c0, c1⟩ := HC.out V HKbV.out
      rw [hV] at f0 f1 f2 f3 f4 f5 f6 f7 f8 f9 c0 c1
      rcases t0 : ((x.phase : Int) == 2) with _ | _
      · rcases t1 : ((x.phase : Int) == 3) with _ | _
        · rcases t2 : ((x.phase : Int) == 4) with _ | _
          · have HT0 := Lib.hid t0
            have HT1 := Lib.hid t1
            have HT2 := Lib.hid t2
            have hp : ¬ (2 ≤ x.phase ∧ x.phase ≤ 4) := by
              have e2 := HT0.out; have e3 := HT1.out; have e4 := HT2.out
              rw [beq_eq_false_iff_ne] at e2 e3 e4
              omega
            have HSK := Lib.hid (show l ++ bk1 2 (bnPha z.d) (k + 1) = m ++ [] by rw [HSU.out, show (bnPha z.d) k = false from (by unfold bnPha; rw [HPH.out, ← Bool.decide_and, decide_eq_false hp]; rfl)]; rfl)
            clear hp
            go_wp2_with (fail)
            rw [← hV]
            clear hV f0 f1 f2 f3 f4 f5 f6 f7 f8 f9 c0 c1
            go_roundw
            case rel => exact ⟨k + 1, by omega, by go_num, Lib.hid (by rw [HSK.out, List.append_nil]; exact HFV.out.on HKbV.out), Lib.hid (HKV.out.trans (HFV.out.kg HKbV.out))⟩
            case measure => simp only [intOf]; omega
          · have HT0 := Lib.hid t0
            have HT1 := Lib.hid t1
            have HT2 := Lib.hid t2
            have hp : x.phase = 4 := by have := eq_of_beq HT2.out; omega
            have HP := Lib.hid hp
            clear hp
            go_wp2_with (fail)
            rw [← hV]
            clear hV f0 f1 f2 f3 f4 f5 f6 f7 f8 f9 c0 c1
            go_at_call 47
            refine (HCF.out V HKbV.out).mono ?_
            rintro e v1 ⟨rfl, bb⟩
            have HKbv1 := Lib.hid (below_join HKbV.out bb HKbV.out.size)
            clear bb
            obtain ⟨f0, f1, f2, f3, f4, f5, f6, f7, f8, f9, c0, c1⟩ := HC.out v1 HKbv1.out
            rcases b with _ | _
            · have HSK := Lib.hid (show l ++ bk1 2 (bnPha z.d) (k + 1) = m ++ [] by rw [HSU.out, show (bnPha z.d) k = false from (by unfold bnPha; rw [HPH.out, HP.out, HON.out]; rfl)]; rfl)
              go_wp2_with (fail)
              clear f0 f1 f2 f3 f4 f5 f6 f7 f8 f9 c0 c1
              go_roundw
              case rel => exact ⟨k + 1, by omega, by go_num, Lib.hid (by rw [HSK.out, List.append_nil]; exact HFV.out.on HKbv1.out), Lib.hid (HKV.out.trans (HFV.out.kg HKbv1.out))⟩
              case measure => simp only [intOf]; omega
            · have HSK := Lib.hid (show l ++ bk1 2 (bnPha z.d) (k + 1) = m ++ [⟨2, (k : Int), 0⟩] by rw [HSU.out, show (bnPha z.d) k = true from (by unfold bnPha; rw [HPH.out, HP.out, HON.out]; rfl)]; rfl)
              go_wp2_with (fail)
              clear f0 f1 f2 f3 f4 f5 f6 f7 f8 f9 c0 c1
              go_at_call 29
              refine (c_coll z W0 g kb 2 fv m (k : Int) 0 v1 (HFV.out.on HKbv1.out) HML.out).mono ?_
              rintro e y ⟨rfl, fy, ky⟩
              have HY := Lib.hid fy
              have HKY := Lib.hid ((HKV.out.trans (HFV.out.kg HKbv1.out)).trans ky)
              clear fy ky
              go_wp2_with (fail)
              go_roundw
              case rel => exact ⟨k + 1, by omega, by go_num, Lib.hid (by rw [HSK.out]; exact HY.out), HKY⟩
              case measure => simp only [intOf]; omega
        · have HT0 := Lib.hid t0
          have HT1 := Lib.hid t1
          have hp : x.phase = 3 := by have := eq_of_beq HT1.out; omega
          have HP := Lib.hid hp
          clear hp
          go_wp2_with (fail)
          rw [← hV]
          clear hV f0 f1 f2 f3 f4 f5 f6 f7 f8 f9 c0 c1
          go_at_call 47
          refine (HCF.out V HKbV.out).mono ?_
          rintro e v1 ⟨rfl, bb⟩
          have HKbv1 := Lib.hid (below_join HKbV.out bb HKbV.out.size)
          clear bb
          obtain ⟨f0, f1, f2, f3, f4, f5, f6, f7, f8, f9, c0, c1⟩ := HC.out v1 HKbv1.out
          rcases b with _ | _
          · have HSK := Lib.hid (show l ++ bk1 2 (bnPha z.d) (k + 1) = m ++ [] by rw [HSU.out, show (bnPha z.d) k = false from (by unfold bnPha; rw [HPH.out, HP.out, HON.out]; rfl)]; rfl)
            go_wp2_with (fail)
            clear f0 f1 f2 f3 f4 f5 f6 f7 f8 f9 c0 c1
            go_roundw
            case rel => exact ⟨k + 1, by omega, by go_num, Lib.hid (by rw [HSK.out, List.append_nil]; exact HFV.out.on HKbv1.out), Lib.hid (HKV.out.trans (HFV.out.kg HKbv1.out))⟩
            case measure => simp only [intOf]; omega
          · have HSK := Lib.hid (show l ++ bk1 2 (bnPha z.d) (k + 1) = m ++ [⟨2, (k : Int), 0⟩] by rw [HSU.out, show (bnPha z.d) k = true from (by unfold bnPha; rw [HPH.out, HP.out, HON.out]; rfl)]; rfl)
            go_wp2_with (fail)
            clear f0 f1 f2 f3 f4 f5 f6 f7 f8 f9 c0 c1
            go_at_call 29
            refine (c_coll z W0 g kb 2 fv m (k : Int) 0 v1 (HFV.out.on HKbv1.out) HML.out).mono ?_
            rintro e y ⟨rfl, fy, ky⟩
            have HY := Lib.hid fy
            have HKY := Lib.hid ((HKV.out.trans (HFV.out.kg HKbv1.out)).trans ky)
            clear fy ky
            go_wp2_with (fail)
            go_roundw
            case rel => exact ⟨k + 1, by omega, by go_num, Lib.hid (by rw [HSK.out]; exact HY.out), HKY⟩
            case measure => simp only [intOf]; omega
      · have HT0 := Lib.hid t0
        have hp : x.phase = 2 := by have := eq_of_beq HT0.out; omega
        have HP := Lib.hid hp
        clear hp
        go_wp2_with (fail)
        rw [← hV]
        clear hV f0 f1 f2 f3 f4 f5 f6 f7 f8 f9 c0 c1
        go_at_call 47
        refine (HCF.out V HKbV.out).mono ?_
        rintro e v1 ⟨rfl, bb⟩
        have HKbv1 := Lib.hid (below_join HKbV.out bb HKbV.out.size)
        clear bb
        obtain ⟨f0, f1, f2, f3, f4, f5, f6, f7, f8, f9, c0, c1⟩ := HC.out v1 HKbv1.out
        rcases b with _ | _
        · have HSK := Lib.hid (show l ++ bk1 2 (bnPha z.d) (k + 1) = m ++ [] by rw [HSU.out, show (bnPha z.d) k = false from (by unfold bnPha; rw [HPH.out, HP.out, HON.out]; rfl)]; rfl)
          go_wp2_with (fail)
          clear f0 f1 f2 f3 f4 f5 f6 f7 f8 f9 c0 c1
          go_roundw
          case rel => exact ⟨k + 1, by omega, by go_num, Lib.hid (by rw [HSK.out, List.append_nil]; exact HFV.out.on HKbv1.out), Lib.hid (HKV.out.trans (HFV.out.kg HKbv1.out))⟩
          case measure => simp only [intOf]; omega
        · have HSK := Lib.hid (show l ++ bk1 2 (bnPha z.d) (k + 1) = m ++ [⟨2, (k : Int), 0⟩] by rw [HSU.out, show (bnPha z.d) k = true from (by unfold bnPha; rw [HPH.out, HP.out, HON.out]; rfl)]; rfl)
          go_wp2_with (fail)
          clear f0 f1 f2 f3 f4 f5 f6 f7 f8 f9 c0 c1
          go_at_call 29
          refine (c_coll z W0 g kb 2 fv m (k : Int) 0 v1 (HFV.out.on HKbv1.out) HML.out).mono ?_
          rintro e y ⟨rfl, fy, ky⟩
          have HY := Lib.hid fy
          have HKY := Lib.hid ((HKV.out.trans (HFV.out.kg HKbv1.out)).trans ky)
          clear fy ky
          go_wp2_with (fail)
          go_roundw
          case rel => exact ⟨k + 1, by omega, by go_num, Lib.hid (by rw [HSK.out]; exact HY.out), HKY⟩
          case measure => simp only [intOf]; omega
    · obtain rfl : k = z.s.hosts.length := by omega
      go_wp2_with (fail)
      go_end0
      exact HQ.out _ (by have := hFr.out; unfold bnK; exact this) hKr.out
end Go.Proofs.YtbbadnlaelgmlaaGreat

namespace Go.Proofs.YtbbadnlaelgmlaaGreat
set_option linter.unusedVariables false
set_option linter.unusedSimpArgs false
set_option maxRecDepth 100000

/-- In their order. -/
def ltBn (x y : Bn) : Prop := x.kind < y.kind ∨ x.kind = y.kind ∧ (x.a < y.a ∨ x.a = y.a ∧ x.b < y.b)
theorem asc_ints_filter {l : List Int} (p : Int → Bool) (h : l.Pairwise (· < ·)) : (l.filter p).Pairwise (· < ·) := List.Pairwise.sublist List.filter_sublist h
theorem asc_bk1 (k : Nat) (f : Nat → Bool) (n : Nat) : (bk1 k f n).Pairwise ltBn := by
  unfold bk1
  rw [List.pairwise_map]
  refine List.Pairwise.sublist List.filter_sublist ((List.pairwise_lt_range).imp ?_)
  intro a b h
  exact .inr ⟨rfl, .inl (by show (a : Int) < b; omega)⟩
theorem asc_bk2 (k : Nat) (f : Nat → List Int) : ∀ n : Nat, (∀ i, i < n → (f i).Pairwise (· < ·)) → (bk2 k f n).Pairwise ltBn
  | 0, _ => by rw [bk2_zero]; exact List.Pairwise.nil
  | n + 1, h => by
    rw [bk2_succ, List.pairwise_append]
    refine ⟨asc_bk2 k f n fun i hi => h i (by omega), ?_, ?_⟩
    · rw [List.pairwise_map]
      exact (h n (by omega)).imp fun hab => .inr ⟨rfl, .inr ⟨rfl, hab⟩⟩
    · intro x hx y hy
      obtain ⟨i, v, hi, -, rfl⟩ := mem_bk2.1 hx
      obtain ⟨u, -, rfl⟩ := List.mem_map.1 hy
      exact .inr ⟨rfl, .inl (by show (i : Int) < n; omega)⟩
theorem asc_whereD : ∀ {l : List Rep} (s : Int), Asc l → (whereD l s).Pairwise (· < ·) := by
  intro l s h
  unfold whereD
  rw [List.pairwise_map]
  refine List.Pairwise.imp_of_mem ?_ (List.Pairwise.sublist List.filter_sublist h)
  intro a b ha hb hab
  have h1 := (List.mem_filter.1 ha).2
  have h2 := (List.mem_filter.1 hb).2
  rw [beq_iff_eq] at h1 h2
  rw [lessR_iff] at hab
  omega
theorem asc_oth {own many : Int} : ∀ {l : List Int} {last : Int}, othGo own many last l = true → (∀ x ∈ l, last < x) ∧ l.Pairwise (· < ·) := by
  intro l
  induction l with
  | nil => intro last _; exact ⟨fun x hx => (by cases hx), List.Pairwise.nil⟩
  | cons y l ih =>
    intro last h
    rw [othGo] at h
    split at h
    · cases h
    · rename_i hn
      obtain ⟨h1, h2⟩ := ih h
      have hy : last < y := by
        have : ¬ y ≤ last := fun k => hn (.inl k)
        omega
      refine ⟨fun x hx => ?_, List.pairwise_cons.2 ⟨h1, h2⟩⟩
      rcases List.mem_cons.1 hx with rfl | hx
      · exact hy
      · have := h1 x hx; omega
theorem oth_len0 {own many : Int} : ∀ {l : List Int} {last : Int}, last < many → othGo own many last l = true → (l.length : Int) + last + 1 ≤ many := by
  intro l
  induction l with
  | nil => intro last h _; simp; omega
  | cons y l ih =>
    intro last h0 h
    rw [othGo] at h
    split at h
    · cases h
    · rename_i hn
      have h1 : ¬ y ≤ last := fun k => hn (.inl k)
      have h2 : ¬ many ≤ y := fun k => hn (.inr (.inl k))
      have := ih (by omega) h
      rw [List.length_cons]
      omega
theorem oth_len {own : Int} {n : Nat} {l : List Int} (h : othB own n l = true) : l.length ≤ n := by
  have := oth_len0 (by omega) h
  omega
theorem asc_nats (p : Nat → Bool) (n : Nat) : (((List.range n).filter p).map fun (k : Nat) => (k : Int)).Pairwise (· < ·) := by
  rw [List.pairwise_map]
  exact List.Pairwise.sublist List.filter_sublist ((List.pairwise_lt_range).imp fun h => by omega)
theorem svc_names {ss : List Svc} (h : WishOk ss) {i : Nat} (hi : i < ss.length) : othB i ss.length (svAt ss i).apart = true ∧ othB i ss.length ((svAt ss i).near.map (·.svc)) = true ∧ keepB (svAt ss i) = true := by
  have h2 := h.2.1 i _ (List.getElem?_eq_getElem hi)
  rw [svAt_eq (List.getElem?_eq_getElem hi)]
  unfold svcB nameB at h2
  rw [Bool.and_eq_true, Bool.and_eq_true] at h2
  exact ⟨h2.2.1, h2.2.2, h2.1⟩
theorem asc_bnK {s : SiteD} {ss : List Svc} {d : WorldD} (ok : WorldOk s ss d) (k : Nat) : (bnK s ss d k).Pairwise ltBn := by
  have hw : ∀ i : Int, (whereD d.reps i).Pairwise (· < ·) := fun i => asc_whereD i (asc_iff.1 ok.2.2.2.2.2.2)
  unfold bnK
  split
  all_goals first
    | exact asc_bk1 _ _ _
    | exact List.Pairwise.nil
    | skip
  · exact asc_bk2 _ _ _ fun i hi => asc_nats _ _
  · exact asc_bk2 _ _ _ fun i hi => asc_ints_filter _ (asc_oth (svc_names ok.2.1 hi).1).2
  · refine asc_bk2 _ _ _ fun i hi => ?_
    have h := (asc_oth (svc_names ok.2.1 hi).2.1).2
    rw [List.pairwise_map] at h
    unfold bnNea
    rw [List.pairwise_map]
    exact List.Pairwise.sublist List.filter_sublist h
  · exact asc_bk2 _ _ _ fun i hi => asc_ints_filter _ (hw i)
theorem asc_bnTo {s : SiteD} {ss : List Svc} {d : WorldD} (ok : WorldOk s ss d) : ∀ n : Nat, (bnTo s ss d n).Pairwise ltBn
  | 0 => List.Pairwise.nil
  | n + 1 => by
    rw [bnTo_succ, List.pairwise_append]
    refine ⟨asc_bnTo ok n, asc_bnK ok _, fun x hx y hy => ?_⟩
    obtain ⟨i, hi, hx⟩ := mem_bnTo.1 hx
    have h1 := (bnK_kind hx).1
    have h2 := (bnK_kind hy).1
    exact .inl (by omega)
theorem asc_bnV {s : SiteD} {ss : List Svc} {d : WorldD} {r : Bool} (hr : r = true → WorldOk s ss d) : (bnV s ss d r).Pairwise ltBn := by
  unfold bnV
  split
  · rename_i h; exact asc_bnTo (hr h) 10
  · exact List.Pairwise.nil
/-- Each is behind the one before it. -/
theorem asc_next {l : List Bn} (h : l.Pairwise ltBn) {i : Nat} {x y : Bn} (hx : l[i]? = some x) (hy : l[i + 1]? = some y) : ltBn x y := by
  rw [List.pairwise_iff_getElem] at h
  obtain ⟨h1, rfl⟩ := List.getElem?_eq_some_iff.1 hx
  obtain ⟨h2, rfl⟩ := List.getElem?_eq_some_iff.1 hy
  exact h i (i + 1) h1 h2 (by omega)
/-! What stops and starts change. -/
theorem bk1_mono {k n : Nat} {f g : Nat → Bool} (h : ∀ i, i < n → f i = true → g i = true) {x : Bn} (hx : x ∈ bk1 k f n) : x ∈ bk1 k g n := by
  obtain ⟨i, h1, h2, rfl⟩ := mem_bk1.1 hx
  exact mem_bk1.2 ⟨i, h1, h i h1 h2, rfl⟩
theorem bk2_mono {k n : Nat} {f g : Nat → List Int} (h : ∀ i, i < n → ∀ y ∈ f i, y ∈ g i) {x : Bn} (hx : x ∈ bk2 k f n) : x ∈ bk2 k g n := by
  obtain ⟨i, y, h1, h2, rfl⟩ := mem_bk2.1 hx
  exact mem_bk2.2 ⟨i, y, h1, h i h1 y h2, rfl⟩
theorem where_sub {l m : List Rep} (h : l.Sublist m) (s : Int) : (whereD l s).Sublist (whereD m s) := (h.filter _).map _
theorem sumN_mono {f g : Nat → Int} : ∀ {n : Nat}, (∀ i, i < n → f i ≤ g i) → sumN f n ≤ sumN g n
  | 0, _ => Int.le_refl _
  | n + 1, h => by
    rw [sumN, sumN]
    have := sumN_mono (f := f) (g := g) (n := n) (fun i hi => h i (by omega))
    have := h n (by omega)
    omega
theorem usedN_sub {ss : List Svc} {host : Int} {l m : List Rep} (h : l.Sublist m) (h0 : ∀ r ∈ m, 0 ≤ coresAt ss r.svc) : usedN ss l host ≤ usedN ss m host := by
  unfold usedN
  induction h with
  | slnil => exact Int.le_refl _
  | cons r h ih =>
    rw [List.map_cons, List.sum_cons]
    have := ih fun r hr => h0 r (by simp [hr])
    have := h0 r (by simp)
    split <;> omega
  | cons_cons r h ih =>
    rw [List.map_cons, List.map_cons, List.sum_cons, List.sum_cons]
    have := ih fun r hr => h0 r (by simp [hr])
    omega
theorem used_is {s : SiteD} {ss : List Svc} {d : WorldD} (ok : WorldOk s ss d) (host : Int) : usedD ss d.reps host = usedN ss d.reps host ∧ ∀ r ∈ d.reps, 1 ≤ coresAt ss r.svc := by
  obtain ⟨h1, ⟨h2, h3, h4⟩, h5, h6, h7, h8, h9⟩ := ok
  have hsv : ∀ r ∈ d.reps, 0 ≤ r.svc ∧ r.svc < ss.length := fun r hr => by
    have := h8 r hr
    unfold repOk at this
    rw [Bool.and_eq_true, ixB_iff, ixB_iff] at this
    exact this.1
  have hco : ∀ x ∈ ss, 1 ≤ x.cores ∧ x.cores ≤ 1000 := fun x hx => by
    obtain ⟨i, hi⟩ := List.getElem?_of_mem hx
    have := h3 i x hi
    unfold svcB at this
    rw [Bool.and_eq_true, keepB_iff] at this
    exact this.1.1
  constructor
  · unfold usedD
    rw [(used_eq (host := host) hco hsv (by omega) 0 (by omega) (by omega)).1]
    omega
  · intro r hr
    have := hsv r hr
    have hi : r.svc.toNat < ss.length := by omega
    unfold coresAt
    rw [List.getElem?_eq_getElem hi]
    exact (hco _ (List.getElem_mem hi)).1
theorem used_sub {s : SiteD} {ss : List Svc} {d e : WorldD} (ok : WorldOk s ss d) (ok' : WorldOk s ss e) (h : e.reps.Sublist d.reps) (host : Int) : usedD ss e.reps host ≤ usedD ss d.reps host := by
  rw [(used_is ok host).1, (used_is ok' host).1]
  exact usedN_sub h fun r hr => by have := (used_is ok host).2 r hr; omega
theorem has_sub {l m : List Rep} (h : l.Sublist m) {r : Rep} (k : hasB l r = true) : hasB m r = true := by
  unfold hasB at *
  rw [decide_eq_true_eq] at *
  exact h.subset k
/-- Fewer replicas break nothing anew but Least and Near. -/
theorem fewer_ok {s : SiteD} {ss : List Svc} {d e : WorldD} (ok : WorldOk s ss d) (ok' : WorldOk s ss e) (h : e.reps.Sublist d.reps) (hh : e.hosts = d.hosts) {k : Nat} (h3 : k ≠ 3) (h6 : k ≠ 6) {x : Bn} (hx : x ∈ bnK s ss e k) : x ∈ bnK s ss d k := by
  have hW : ∀ i : Int, (whereD e.reps i).Sublist (whereD d.reps i) := fun i => where_sub h i
  have hL : ∀ b : Nat → Bool, loadN s ss e b ≤ loadN s ss d b := fun b => by
    unfold loadN
    refine sumN_mono fun i hi => ?_
    obtain ⟨p, q, e1, e2, -, h4, h5⟩ := host_ok ok hi
    split
    · unfold watN
      rw [show phAt e i = phAt d i by unfold phAt; rw [hh], hsAt_eq e1]
      split
      · omega
      · have := Int.mul_le_mul_of_nonneg_left (used_sub ok ok' h (i : Int)) h5.1
        omega
    · omega
  unfold bnK at hx ⊢
  split at hx
  · refine bk1_mono (fun i hi => ?_) hx
    unfold bnCor
    rw [decide_eq_true_eq, decide_eq_true_eq]
    have := used_sub ok ok' h (i : Int)
    omega
  · refine bk1_mono (fun i hi => ?_) hx
    unfold bnPha isOn
    rw [show phAt e i = phAt d i by unfold phAt; rw [hh]]
    simp only [Bool.and_eq_true, List.any_eq_true]
    rintro ⟨h1, r, hr, h2⟩
    exact ⟨h1, r, h.subset hr, h2⟩
  · exact absurd rfl h3
  · refine bk2_mono (fun i hi y hy => ?_) hx
    unfold bnSpr sprL at hy ⊢
    obtain ⟨n, hn, rfl⟩ := List.mem_map.1 hy
    obtain ⟨h1, h2⟩ := List.mem_filter.1 hn
    refine List.mem_map.2 ⟨n, List.mem_filter.2 ⟨h1, ?_⟩, rfl⟩
    rw [decide_eq_true_eq] at h2 ⊢
    have : inDm s (svAt ss i).dom (whereD e.reps i) n ≤ inDm s (svAt ss i).dom (whereD d.reps i) n := by
      unfold inDm
      exact ((hW i).filter _).length_le
    omega
  · refine bk2_mono (fun i hi y hy => ?_) hx
    unfold bnApt at hy ⊢
    obtain ⟨h1, h2⟩ := List.mem_filter.1 hy
    refine List.mem_filter.2 ⟨h1, ?_⟩
    unfold shrB at h2 ⊢
    rw [List.any_eq_true] at h2 ⊢
    obtain ⟨a, ha, h2⟩ := h2
    exact ⟨a, (hW i).subset ha, has_sub h h2⟩
  · exact absurd rfl h6
  · refine bk2_mono (fun i hi y hy => ?_) hx
    unfold bnFrm at hy ⊢
    obtain ⟨h1, h2⟩ := List.mem_filter.1 hy
    refine List.mem_filter.2 ⟨(hW i).subset h1, ?_⟩
    unfold fwAt at h2 ⊢
    rw [hh] at h2; exact h2
  · refine bk1_mono (fun i hi => ?_) hx
    unfold bnBrk
    rw [decide_eq_true_eq, decide_eq_true_eq]
    have := hL (isBrk s i)
    omega
  · refine bk1_mono (fun i hi => ?_) hx
    unfold bnFed
    rw [decide_eq_true_eq, decide_eq_true_eq]
    have := hL (isFeed s i)
    omega
  · refine bk1_mono (fun i hi => ?_) hx
    unfold bnLop
    rw [decide_eq_true_eq, decide_eq_true_eq]
    have := hL (isLoop s i)
    omega
  · cases hx
/-- One more replica breaks no Least anew, and no Phase if its host serves. -/
theorem more_ok {s : SiteD} {ss : List Svc} {d e : WorldD} (h : d.reps.Sublist e.reps) (hh : e.hosts = d.hosts) {r : Rep} (hr : ∀ q ∈ e.reps, q = r ∨ q ∈ d.reps) (hp : phAt d r.host.toNat = 0) (h0 : 0 ≤ r.host) {k : Nat} (hk : k = 2 ∨ k = 3) {x : Bn} (hx : x ∈ bnK s ss e k) : x ∈ bnK s ss d k := by
  rcases hk with rfl | rfl
  · unfold bnK at hx ⊢
    refine bk1_mono (fun i hi => ?_) hx
    unfold bnPha isOn
    rw [show phAt e i = phAt d i by unfold phAt; rw [hh]]
    simp only [Bool.and_eq_true, List.any_eq_true, decide_eq_true_eq, beq_iff_eq]
    rintro ⟨h1, q, hq, h2⟩
    rcases hr q hq with rfl | hq
    · rw [h2, Int.toNat_natCast] at hp
      omega
    · exact ⟨h1, q, hq, h2⟩
  · unfold bnK at hx ⊢
    refine bk1_mono (fun i hi => ?_) hx
    unfold bnLea
    rw [decide_eq_true_eq, decide_eq_true_eq]
    have := (where_sub h (i : Int)).length_le
    omega
/-- What Kept says of the broken ones of one kind. -/
theorem kept_of {s : SiteD} {ss : List Svc} {d e : WorldD} {r r' : Bool} (hr : r = true) {k : Nat} (h : r' = true → ∀ x ∈ bnK s ss e k, x ∈ bnK s ss d k) : keptB (bnV s ss d r) (ofL (bnV s ss e r') k) = true := by
  rw [keptB_iff]
  intro x hx
  obtain ⟨h1, h2⟩ := mem_ofL.1 hx
  unfold bnV at h1 ⊢
  rw [if_pos hr]
  split at h1
  · rename_i hr'
    obtain ⟨i, hi, h3⟩ := mem_bnTo.1 h1
    have h4 := (bnK_kind h3).1
    obtain rfl : k = i + 1 := by omega
    exact mem_bnTo.2 ⟨i, hi, h hr' x h3⟩
  · cases h1
theorem stopL_sub (l : List Rep) (r : Rep) : (stopL l r).Sublist l := by
  unfold stopL
  conv => rhs; rw [← List.take_append_drop (plc l r) l]
  refine List.Sublist.append (List.Sublist.refl _) ?_
  rw [← List.drop_drop]
  exact List.drop_sublist _ _
theorem startL_sub (l : List Rep) (r : Rep) : l.Sublist (startL l r) := by
  unfold startL
  conv => lhs; rw [← List.take_append_drop (plc l r) l]
  exact List.Sublist.append (List.Sublist.refl _) (List.sublist_cons_self _ _)
theorem startL_of {l : List Rep} {r q : Rep} (h : q ∈ startL l r) : q = r ∨ q ∈ l := by
  unfold startL at h
  rcases List.mem_append.1 h with h | h
  · exact .inr (List.mem_of_mem_take h)
  · rcases List.mem_cons.1 h with h | h
    · exact .inl h
    · exact .inr (List.mem_of_mem_drop h)
end Go.Proofs.YtbbadnlaelgmlaaGreat

namespace Go.Proofs.YtbbadnlaelgmlaaGreat
open Go.RowKit
set_option maxRecDepth 100000
set_option linter.unusedVariables false
set_option linter.unusedSimpArgs false

theorem apt_len {z : Sn} (ok : z.Ok) (i : Nat) (hi : i < z.xs.length) : (bnApt z.ss z.d i).length ≤ 100 := by
  unfold bnApt
  refine Nat.le_trans (List.length_filter_le _ _) ?_
  have h := (svc_names ok.2.1 (i := i) (by unfold Sn.ss; rw [svs_len]; exact hi)).1
  exact Nat.le_trans (oth_len h) (by have := few_svcs ok; unfold Sn.ss; rw [svs_len]; omega)
theorem nea_len {z : Sn} (ok : z.Ok) (i : Nat) (hi : i < z.xs.length) : (bnNea z.s z.ss z.d i).length ≤ 100 := by
  unfold bnNea
  rw [List.length_map]
  refine Nat.le_trans (List.length_filter_le _ _) ?_
  have h := (svc_names ok.2.1 (i := i) (by unfold Sn.ss; rw [svs_len]; exact hi)).2.1
  have h2 := oth_len h
  rw [List.length_map] at h2
  exact Nat.le_trans h2 (by have := few_svcs ok; unfold Sn.ss; rw [svs_len]; omega)
theorem filt_take {α : Type} {l : List α} {j : Nat} {y : α} (h : l[j]? = some y) (p : α → Bool) : (l.take (j + 1)).filter p = (l.take j).filter p ++ if p y = true then [y] else [] := by
  rw [List.take_add_one, h, List.filter_append]
  congr 1
  rcases hp : p y with _ | _ <;> simp [hp]
set_option maxHeartbeats 16000000 in
theorem c_findAparts (z : Sn) (W0 : World) (g kb : Nat) (fv : Value) (l : List Bn) (ok : z.Ok) (hl : l.length ≤ 5000) (w : World) (h : Fnd z W0 g kb 5 fv l w) :
    Calls Tryz.prog 53 #[.agg #[.slice z.p.a1 z.s.feeds.length z.p.c1, .slice z.p.a2 z.s.brks.length z.p.c2, .slice z.p.a3 z.s.loops.length z.p.c3, .slice z.p.a4 z.s.racks.length z.p.c4, .int .i64 z.s.sw, .slice z.p.a5 z.s.links.length z.p.c5, .slice z.p.a6 z.s.hosts.length z.p.c6, .slice z.A z.xs.length z.c, .slice z.q.a1 z.d.hosts.length z.q.c1, .slice z.q.a2 z.d.reps.length z.q.c2], .func (.func 29) #[] #[.pointer (some ⟨g, 0, none⟩), .pointer (some ⟨kb, 0, none⟩)]] w fun e w' => e = .returned (.tuple #[]) ∧ Fnd z W0 g kb 5 fv (l ++ bnK z.s z.ss z.d 5) w' ∧ Kg g w w' := by
  obtain ⟨W, h1⟩ : ∃ W, W = w.alloc (.cells #[.slice z.p.a1 z.s.feeds.length z.p.c1, .slice z.p.a2 z.s.brks.length z.p.c2, .slice z.p.a3 z.s.loops.length z.p.c3, .slice z.p.a4 z.s.racks.length z.p.c4, .int .i64 z.s.sw, .slice z.p.a5 z.s.links.length z.p.c5, .slice z.p.a6 z.s.hosts.length z.p.c6, .slice z.A z.xs.length z.c, .slice z.q.a1 z.d.hosts.length z.q.c1, .slice z.q.a2 z.d.reps.length z.q.c2] 71) := ⟨_, rfl⟩
  have B1 : Below w.heap.size w W := by rw [h1]; exact (Below.refl _ _).alloc (Nat.le_refl _) _
  have L0 : Loc g W w.heap.size (.cells #[.slice z.p.a1 z.s.feeds.length z.p.c1, .slice z.p.a2 z.s.brks.length z.p.c2, .slice z.p.a3 z.s.loops.length z.p.c3, .slice z.p.a4 z.s.racks.length z.p.c4, .int .i64 z.s.sw, .slice z.p.a5 z.s.links.length z.p.c5, .slice z.p.a6 z.s.hosts.length z.p.c6, .slice z.A z.xs.length z.c, .slice z.q.a1 z.d.hosts.length z.q.c1, .slice z.q.a2 z.d.reps.length z.q.c2] 71 (0, 0)) := by rw [h1]; exact h.new _
  have HF := Lib.hid (h.on B1)
  have HKG := Lib.hid (h.kg B1)
  have HS := Lib.hid (fun (X : World) (hX : Kg g W X) => (scn_cells (L0.on hX) : X.cell? ⟨w.heap.size, 0, none⟩ = some (.slice z.p.a1 z.s.feeds.length z.p.c1) ∧ X.cell? ⟨w.heap.size, 1, none⟩ = some (.slice z.p.a2 z.s.brks.length z.p.c2) ∧ X.cell? ⟨w.heap.size, 2, none⟩ = some (.slice z.p.a3 z.s.loops.length z.p.c3) ∧ X.cell? ⟨w.heap.size, 3, none⟩ = some (.slice z.p.a4 z.s.racks.length z.p.c4) ∧ X.cell? ⟨w.heap.size, 4, none⟩ = some (.int .i64 z.s.sw) ∧ X.cell? ⟨w.heap.size, 5, none⟩ = some (.slice z.p.a5 z.s.links.length z.p.c5) ∧ X.cell? ⟨w.heap.size, 6, none⟩ = some (.slice z.p.a6 z.s.hosts.length z.p.c6) ∧ X.cell? ⟨w.heap.size, 7, none⟩ = some (.slice z.A z.xs.length z.c) ∧ X.cell? ⟨w.heap.size, 8, none⟩ = some (.slice z.q.a1 z.d.hosts.length z.q.c1) ∧ X.cell? ⟨w.heap.size, 9, none⟩ = some (.slice z.q.a2 z.d.reps.length z.q.c2)))
  have HK0 := Lib.hid (Kg.refl g W)
  obtain ⟨n1, n2, n3, n4, n5, n6, n7, n8⟩ := h.snx.bounds
  have HOK := Lib.hid ok
  have HL := Lib.hid hl
  have HPO : ∀ X, Fnd z W0 g kb 5 fv (l ++ bnK z.s z.ss z.d 5) X → Kg g W X → (Ending.returned (.tuple #[]) = .returned (.tuple #[]) ∧ Fnd z W0 g kb 5 fv (l ++ bnK z.s z.ss z.d 5) X ∧ Kg g w X) := fun X hx hk => ⟨rfl, hx, HKG.out.trans hk⟩
  obtain ⟨Q, hQ⟩ : ∃ Q : Ending → World → Prop, Q = fun e w' => e = .returned (.tuple #[]) ∧ Fnd z W0 g kb 5 fv (l ++ bnK z.s z.ss z.d 5) w' ∧ Kg g w w' := ⟨_, rfl⟩
  have HQ := Lib.hid (fun X hx hk => (by rw [hQ]; exact HPO X hx hk : Q (.returned (.tuple #[])) X))
  rw [← hQ]
  clear h B1 L0 hl HKG HPO hQ ok
  obtain ⟨f0, f1, f2, f3, f4, f5, f6, f7, f8, f9⟩ := HS.out W HK0.out
  rw [h1] at f0 f1 f2 f3 f4 f5 f6 f7 f8 f9
  generalize hBB : w.heap.size = B at *
  go_enter Tryz.func53, Tryz.ntmps53
  go_wp2_with (fail)
  rw [← h1]
  clear h1 f0 f1 f2 f3 f4 f5 f6 f7 f8 f9
  have hnn := few_svcs HOK.out
  have hrp := few_reps HOK.out
  go_loopw [13] (fun i wr => ∃ k : Nat, k ≤ z.xs.length ∧ i = .int .i64 (k : Int) ∧ Hid (Fnd z W0 g kb 5 fv (l ++ bk2 5 (bnApt z.ss z.d) k) wr) ∧ Hid (Kg g W wr)) (fun i _ => z.xs.length - (intOf i).toNat)
  case atStart => exact ⟨0, Nat.zero_le _, rfl, Lib.hid (by rw [bk2_zero, List.append_nil]; exact HF.out), HK0⟩
  case round =>
    obtain ⟨k, hk, rfl, hFr, hKr⟩ := hrel
    have hki : ((k : Nat) : Int).toNat = k := by omega
    by_cases hlt : k < z.xs.length
    · obtain ⟨x, hx⟩ : ∃ x, z.xs[k]? = some x := ⟨_, List.getElem?_eq_getElem hlt⟩
      have hki2 : (k : Int) < (z.xs.length : Int) := by omega
      obtain ⟨m, hm⟩ : ∃ m, l ++ bk2 5 (bnApt z.ss z.d) k = m := ⟨_, rfl⟩
      have HSV := Lib.hid (svAt_eq (show z.ss[k]? = some x.1 from svs_at hx))
      have HSU := Lib.hid (show l ++ bk2 5 (bnApt z.ss z.d) (k + 1) = m ++ ((bnApt z.ss z.d) k).map fun y => ⟨5, (k : Int), y⟩ by rw [bk2_succ, ← List.append_assoc, hm])
      have HML := Lib.hid (show m.length ≤ 6000 by
        rw [← hm, List.length_append]
        have h1 := bk2_len 5 100 (bnApt z.ss z.d) k (fun i hi => apt_len HOK.out i (by omega))
        have := HL.out; omega)
      rw [hm] at hFr
      clear hm
      have hsn := hFr.out.snx
      obtain ⟨pb, po, e7, hpb, x0, x1, x2, x3, x4, x5, x6, x7⟩ := sv_of hsn hx
      have HXM := Lib.hid (List.mem_of_getElem? hx)
      obtain ⟨V, hV⟩ : ∃ X, X = wr.alloc (.cells #[.int .i64 x.1.cores, .int .i64 x.1.reps, .int .i64 x.1.least, .int .u8 (x.1.dom : Int), .int .i64 x.1.spread, .slice x.2.a1 x.1.apart.length x.2.c1, .slice x.2.a2 x.1.near.length x.2.c2, .int .i64 x.1.fw] 94) := ⟨_, rfl⟩
      have bV : Below wr.heap.size wr V := by rw [hV]; exact (Below.refl _ _).alloc (Nat.le_refl _) _
      have LV : Loc g V wr.heap.size (.cells #[.int .i64 x.1.cores, .int .i64 x.1.reps, .int .i64 x.1.least, .int .u8 (x.1.dom : Int), .int .i64 x.1.spread, .slice x.2.a1 x.1.apart.length x.2.c1, .slice x.2.a2 x.1.near.length x.2.c2, .int .i64 x.1.fw] 94 (0, 0)) := by rw [hV]; exact hFr.out.new _
      have HFV := Lib.hid (hFr.out.on bV)
      have HKV := Lib.hid (hKr.out.trans (hFr.out.kg bV))
      have HC := Lib.hid (fun (X : World) (hX : Kg g V X) => (by
        obtain ⟨f0, f1, f2, f3, f4, f5, f6, f7, f8, f9⟩ := HS.out X (HKV.out.trans hX)
        exact ⟨f0, f1, f2, f3, f4, f5, f6, f7, f8, f9, (LV.on hX).cell rfl, (LV.on hX).cell rfl, (LV.on hX).cell rfl, (LV.on hX).cell rfl, (LV.on hX).cell rfl, (LV.on hX).cell rfl, (LV.on hX).cell rfl, (LV.on hX).cell rfl⟩ : X.cell? ⟨B, 0, none⟩ = some (.slice z.p.a1 z.s.feeds.length z.p.c1) ∧ X.cell? ⟨B, 1, none⟩ = some (.slice z.p.a2 z.s.brks.length z.p.c2) ∧ X.cell? ⟨B, 2, none⟩ = some (.slice z.p.a3 z.s.loops.length z.p.c3) ∧ X.cell? ⟨B, 3, none⟩ = some (.slice z.p.a4 z.s.racks.length z.p.c4) ∧ X.cell? ⟨B, 4, none⟩ = some (.int .i64 z.s.sw) ∧ X.cell? ⟨B, 5, none⟩ = some (.slice z.p.a5 z.s.links.length z.p.c5) ∧ X.cell? ⟨B, 6, none⟩ = some (.slice z.p.a6 z.s.hosts.length z.p.c6) ∧ X.cell? ⟨B, 7, none⟩ = some (.slice z.A z.xs.length z.c) ∧ X.cell? ⟨B, 8, none⟩ = some (.slice z.q.a1 z.d.hosts.length z.q.c1) ∧ X.cell? ⟨B, 9, none⟩ = some (.slice z.q.a2 z.d.reps.length z.q.c2) ∧ X.cell? ⟨wr.heap.size, 0, none⟩ = some (.int .i64 x.1.cores) ∧ X.cell? ⟨wr.heap.size, 1, none⟩ = some (.int .i64 x.1.reps) ∧ X.cell? ⟨wr.heap.size, 2, none⟩ = some (.int .i64 x.1.least) ∧ X.cell? ⟨wr.heap.size, 3, none⟩ = some (.int .u8 (x.1.dom : Int)) ∧ X.cell? ⟨wr.heap.size, 4, none⟩ = some (.int .i64 x.1.spread) ∧ X.cell? ⟨wr.heap.size, 5, none⟩ = some (.slice x.2.a1 x.1.apart.length x.2.c1) ∧ X.cell? ⟨wr.heap.size, 6, none⟩ = some (.slice x.2.a2 x.1.near.length x.2.c2) ∧ X.cell? ⟨wr.heap.size, 7, none⟩ = some (.int .i64 x.1.fw)))
      have HKVV := Lib.hid (Kg.refl g V)
      obtain ⟨f0, f1, f2, f3, f4, f5, f6, f7, f8, f9, s0, s1, s2, s3, s4, s5, s6, s7⟩ := HC.out V HKVV.out
      rw [hV] at f0 f1 f2 f3 f4 f5 f6 f7 f8 f9 s0 s1 s2 s3 s4 s5 s6 s7
      clear hx bV LV hsn
      obtain ⟨wl, hwl⟩ : ∃ wl, whereD z.d.reps (k : Int) = wl := ⟨_, rfl⟩
      have HWL := Lib.hid hwl
      have HSK := Lib.hid (show l ++ bk2 5 (bnApt z.ss z.d) (k + 1) = m ++ (x.1.apart.filter (shrB z.d wl)).map fun y => ⟨5, (k : Int), y⟩ by rw [HSU.out]; unfold bnApt; rw [HSV.out, HWL.out])
      have HFL := Lib.hid (show (x.1.apart.filter (shrB z.d wl)).length ≤ 100 by
        have h1 := apt_len HOK.out k hlt
        unfold bnApt at h1
        rw [HSV.out, hwl] at h1; exact h1)
      clear hwl
      rw [e7]
      go_wp2_with (fail)
      rw [← hV]
      clear hV f0 f1 f2 f3 f4 f5 f6 f7 f8 f9 s0 s1 s2 s3 s4 s5 s6 s7 x0 x1 x2 x3 x4 x5 x6 x7
      generalize hsb : wr.heap.size = sb at *
      have hcap := ((HFV.out.snx).wi.each x HXM.out).apart.1
      have hcap2 := ((HFV.out.snx).wi.each x HXM.out).apart.2.1
      unfold maxLen at hcap2
      go_loopw [21] (fun i wr => ∃ q : Nat, q ≤ x.1.apart.length ∧ i = .int .i64 (q : Int) ∧ Hid (Fnd z W0 g kb 5 fv (m ++ ((x.1.apart.take q).filter (shrB z.d wl)).map fun y => ⟨5, (k : Int), y⟩) wr) ∧ Hid (Kg g V wr)) (fun i _ => x.1.apart.length - (intOf i).toNat)
      case atStart => exact ⟨0, Nat.zero_le _, rfl, Lib.hid (by simp only [List.take_zero, List.filter_nil, List.map_nil, List.append_nil]; exact HFV.out), HKVV⟩
      case round =>
        obtain ⟨q, hq, rfl, hFi, hKi⟩ := hrel
        have hqi : ((q : Nat) : Int).toNat = q := by omega
        by_cases hql : q < x.1.apart.length
        · obtain ⟨y, hy⟩ : ∃ y, x.1.apart[q]? = some y := ⟨_, List.getElem?_eq_getElem hql⟩
          have hqi2 : (q : Int) < ((x.1.apart.length : Nat) : Int) := by omega
          obtain ⟨mm, hmm⟩ : ∃ mm, m ++ ((x.1.apart.take q).filter (shrB z.d wl)).map (fun y => (⟨5, (k : Int), y⟩ : Bn)) = mm := ⟨_, rfl⟩
          have HSI := Lib.hid (show m ++ ((x.1.apart.take (q + 1)).filter (shrB z.d wl)).map (fun y => (⟨5, (k : Int), y⟩ : Bn)) = mm ++ if (shrB z.d wl) y = true then [⟨5, (k : Int), y⟩] else [] by
            rw [filt_take hy, List.map_append, ← List.append_assoc, hmm]
            congr 1
            split <;> rfl)
          have HMM := Lib.hid (show mm.length ≤ 10000 by
            rw [← hmm, List.length_append, List.length_map]
            have h1 := List.Sublist.length_le ((List.take_sublist q x.1.apart).filter (shrB z.d wl))
            have := HFL.out; have := HML.out; omega)
          rw [hmm] at hFi
          clear hmm
          have hsv := (hFi.out.snx).wi.each x HXM.out
          obtain ⟨ab, ao, ea, hab, -⟩ := hsv.apart.at_ hy
          have hra := hsv.apart
          rw [ea] at hra
          have y0 := int_at hra hy
          clear hra hsv
          rw [ea]
          obtain ⟨b, hb⟩ : ∃ b, (shrB z.d wl) y = b := ⟨_, rfl⟩
          have HBB := Lib.hid hb
          have HKU := Lib.hid (hKi.out.trans (hFi.out.kg (Below.refl _ _)))
          obtain ⟨V2, hV2⟩ : ∃ X, X = wr.alloc (.cells #[.int .i64 y] 3) := ⟨_, rfl⟩
          have bV2 : Below wr.heap.size wr V2 := by rw [hV2]; exact (Below.refl _ _).alloc (Nat.le_refl _) _
          have LV2 : Loc g V2 wr.heap.size (.cells #[.int .i64 y] 3 (0, 0)) := by rw [hV2]; exact hFi.out.new _
          have HF2 := Lib.hid (hFi.out.on bV2)
          have HK2 := Lib.hid (hKi.out.trans (hFi.out.kg bV2))
          have HC2 := Lib.hid (fun (X : World) (hX : Below V2.heap.size V2 X) => (by
            have hk2 := HK2.out.trans (HF2.out.kg hX)
            obtain ⟨f0, f1, f2, f3, f4, f5, f6, f7, f8, f9, s0, s1, s2, s3, s4, s5, s6, s7⟩ := HC.out X hk2
            exact ⟨⟨f0, f1, f2, f3, f4, f5, f6, f7, f8, f9⟩, (LV2.on (HF2.out.kg hX)).cell rfl⟩ : ScAt X B z ∧ X.cell? ⟨wr.heap.size, 0, none⟩ = some (.int .i64 y)))
          have HSN := Lib.hid (fun (X : World) (hX : Below V2.heap.size V2 X) => (HF2.out.on hX).snx)
          have HKbV2 := Lib.hid (Below.refl V2.heap.size V2)
          have HCF := Lib.hid (fun (X : World) (hX : Below V2.heap.size V2 X) (A : Option Addr) (c : Nat) (hA : Rw 1 inF X A c wl) => c_CFA (fun h => hasB z.d.reps ⟨y, h⟩) B wr.heap.size A c wl X hA (fun Y hY h r _ hr => c_aparts1 z B wr.heap.size y h r hr Y (HSN.out Y (below_join hX hY hX.size)) (HC2.out Y (below_join hX hY hX.size)).1 (HC2.out Y (below_join hX hY hX.size)).2) b (by rw [← HBB.out]; rfl))
          clear hy hb bV2
          obtain ⟨⟨f0, f1, f2, f3, f4, f5, f6, f7, f8, f9⟩, c0⟩ := HC2.out V2 HKbV2.out
          rw [hV2] at f0 f1 f2 f3 f4 f5 f6 f7 f8 f9 c0
          go_wp2_with (fail)
          rw [← hV2]
          clear hV2 f0 f1 f2 f3 f4 f5 f6 f7 f8 f9 c0
          go_at_call 97
          refine (c_whereTo z (k : Int) wl HWL.out (by omega) V2 (HSN.out V2 HKbV2.out)).mono ?_
          rintro e v1 ⟨A1, q1, rfl, rw1, bb⟩
          have HKbv1 := Lib.hid (below_join HKbV2.out bb HKbV2.out.size)
          have HRW := Lib.hid rw1
          clear bb rw1
          go_wp2_with (fail)
          go_at_call 101
          refine (HCF.out v1 HKbv1.out A1 q1 HRW.out).mono ?_
          rintro e v2 ⟨rfl, bb⟩
          have HKbv2 := Lib.hid (below_join HKbv1.out bb HKbv1.out.size)
          clear bb
          obtain ⟨⟨f0, f1, f2, f3, f4, f5, f6, f7, f8, f9⟩, c0⟩ := HC2.out v2 HKbv2.out
          rcases b with _ | _
          · have HSJ := Lib.hid (show m ++ ((x.1.apart.take (q + 1)).filter (shrB z.d wl)).map (fun y => (⟨5, (k : Int), y⟩ : Bn)) = mm by rw [HSI.out, HBB.out]; simp)
            go_wp2_with (fail)
            clear f0 f1 f2 f3 f4 f5 f6 f7 f8 f9 c0
            go_roundw
            case rel => exact ⟨q + 1, by omega, by go_num, Lib.hid (by rw [HSJ.out]; exact HF2.out.on HKbv2.out), Lib.hid (HK2.out.trans (HF2.out.kg HKbv2.out))⟩
            case measure => simp only [intOf]; omega
          · have HSJ := Lib.hid (show m ++ ((x.1.apart.take (q + 1)).filter (shrB z.d wl)).map (fun y => (⟨5, (k : Int), y⟩ : Bn)) = mm ++ [⟨5, (k : Int), y⟩] by rw [HSI.out, HBB.out]; rfl)
            go_wp2_with (fail)
            clear f0 f1 f2 f3 f4 f5 f6 f7 f8 f9 c0
            go_at_call 29
            refine (c_coll z W0 g kb 5 fv mm (k : Int) y v2 (HF2.out.on HKbv2.out) HMM.out).mono ?_
            rintro e u ⟨rfl, fy, ky⟩
            have HY := Lib.hid fy
            have HKY := Lib.hid ((HK2.out.trans (HF2.out.kg HKbv2.out)).trans ky)
            clear fy ky
            go_wp2_with (fail)
            go_roundw
            case rel => exact ⟨q + 1, by omega, by go_num, Lib.hid (by rw [HSJ.out]; exact HY.out), HKY⟩
            case measure => simp only [intOf]; omega
        · obtain rfl : q = x.1.apart.length := by omega
          have HFI := Lib.hid (show Fnd z W0 g kb 5 fv (l ++ bk2 5 (bnApt z.ss z.d) (k + 1)) wr by have := hFi.out; rw [List.take_length] at this; rw [HSK.out]; exact this)
          have HKI := Lib.hid (HKV.out.trans hKi.out)
          go_wp2_with (fail)
          go_roundw
          case rel => exact ⟨k + 1, by omega, by go_num, HFI, HKI⟩
          case measure => simp only [intOf]; omega
    · obtain rfl : k = z.xs.length := by omega
      go_wp2_with (fail)
      go_end0
      exact HQ.out _ (by have := hFr.out; unfold bnK; unfold Sn.ss; rw [svs_len]; exact this) hKr.out
set_option maxHeartbeats 16000000 in
theorem c_findNears (z : Sn) (W0 : World) (g kb : Nat) (fv : Value) (l : List Bn) (ok : z.Ok) (hl : l.length ≤ 5000) (w : World) (h : Fnd z W0 g kb 6 fv l w) :
    Calls Tryz.prog 54 #[.agg #[.slice z.p.a1 z.s.feeds.length z.p.c1, .slice z.p.a2 z.s.brks.length z.p.c2, .slice z.p.a3 z.s.loops.length z.p.c3, .slice z.p.a4 z.s.racks.length z.p.c4, .int .i64 z.s.sw, .slice z.p.a5 z.s.links.length z.p.c5, .slice z.p.a6 z.s.hosts.length z.p.c6, .slice z.A z.xs.length z.c, .slice z.q.a1 z.d.hosts.length z.q.c1, .slice z.q.a2 z.d.reps.length z.q.c2], .func (.func 29) #[] #[.pointer (some ⟨g, 0, none⟩), .pointer (some ⟨kb, 0, none⟩)]] w fun e w' => e = .returned (.tuple #[]) ∧ Fnd z W0 g kb 6 fv (l ++ bnK z.s z.ss z.d 6) w' ∧ Kg g w w' := by
  obtain ⟨W, h1⟩ : ∃ W, W = w.alloc (.cells #[.slice z.p.a1 z.s.feeds.length z.p.c1, .slice z.p.a2 z.s.brks.length z.p.c2, .slice z.p.a3 z.s.loops.length z.p.c3, .slice z.p.a4 z.s.racks.length z.p.c4, .int .i64 z.s.sw, .slice z.p.a5 z.s.links.length z.p.c5, .slice z.p.a6 z.s.hosts.length z.p.c6, .slice z.A z.xs.length z.c, .slice z.q.a1 z.d.hosts.length z.q.c1, .slice z.q.a2 z.d.reps.length z.q.c2] 71) := ⟨_, rfl⟩
  have B1 : Below w.heap.size w W := by rw [h1]; exact (Below.refl _ _).alloc (Nat.le_refl _) _
  have L0 : Loc g W w.heap.size (.cells #[.slice z.p.a1 z.s.feeds.length z.p.c1, .slice z.p.a2 z.s.brks.length z.p.c2, .slice z.p.a3 z.s.loops.length z.p.c3, .slice z.p.a4 z.s.racks.length z.p.c4, .int .i64 z.s.sw, .slice z.p.a5 z.s.links.length z.p.c5, .slice z.p.a6 z.s.hosts.length z.p.c6, .slice z.A z.xs.length z.c, .slice z.q.a1 z.d.hosts.length z.q.c1, .slice z.q.a2 z.d.reps.length z.q.c2] 71 (0, 0)) := by rw [h1]; exact h.new _
  have HF := Lib.hid (h.on B1)
  have HKG := Lib.hid (h.kg B1)
  have HS := Lib.hid (fun (X : World) (hX : Kg g W X) => (scn_cells (L0.on hX) : X.cell? ⟨w.heap.size, 0, none⟩ = some (.slice z.p.a1 z.s.feeds.length z.p.c1) ∧ X.cell? ⟨w.heap.size, 1, none⟩ = some (.slice z.p.a2 z.s.brks.length z.p.c2) ∧ X.cell? ⟨w.heap.size, 2, none⟩ = some (.slice z.p.a3 z.s.loops.length z.p.c3) ∧ X.cell? ⟨w.heap.size, 3, none⟩ = some (.slice z.p.a4 z.s.racks.length z.p.c4) ∧ X.cell? ⟨w.heap.size, 4, none⟩ = some (.int .i64 z.s.sw) ∧ X.cell? ⟨w.heap.size, 5, none⟩ = some (.slice z.p.a5 z.s.links.length z.p.c5) ∧ X.cell? ⟨w.heap.size, 6, none⟩ = some (.slice z.p.a6 z.s.hosts.length z.p.c6) ∧ X.cell? ⟨w.heap.size, 7, none⟩ = some (.slice z.A z.xs.length z.c) ∧ X.cell? ⟨w.heap.size, 8, none⟩ = some (.slice z.q.a1 z.d.hosts.length z.q.c1) ∧ X.cell? ⟨w.heap.size, 9, none⟩ = some (.slice z.q.a2 z.d.reps.length z.q.c2)))
  have HK0 := Lib.hid (Kg.refl g W)
  obtain ⟨n1, n2, n3, n4, n5, n6, n7, n8⟩ := h.snx.bounds
  have HOK := Lib.hid ok
  have HL := Lib.hid hl
  have HPO : ∀ X, Fnd z W0 g kb 6 fv (l ++ bnK z.s z.ss z.d 6) X → Kg g W X → (Ending.returned (.tuple #[]) = .returned (.tuple #[]) ∧ Fnd z W0 g kb 6 fv (l ++ bnK z.s z.ss z.d 6) X ∧ Kg g w X) := fun X hx hk => ⟨rfl, hx, HKG.out.trans hk⟩
  obtain ⟨Q, hQ⟩ : ∃ Q : Ending → World → Prop, Q = fun e w' => e = .returned (.tuple #[]) ∧ Fnd z W0 g kb 6 fv (l ++ bnK z.s z.ss z.d 6) w' ∧ Kg g w w' := ⟨_, rfl⟩
  have HQ := Lib.hid (fun X hx hk => (by rw [hQ]; exact HPO X hx hk : Q (.returned (.tuple #[])) X))
  rw [← hQ]
  clear h B1 L0 hl HKG HPO hQ ok
  obtain ⟨f0, f1, f2, f3, f4, f5, f6, f7, f8, f9⟩ := HS.out W HK0.out
  rw [h1] at f0 f1 f2 f3 f4 f5 f6 f7 f8 f9
  generalize hBB : w.heap.size = B at *
  go_enter Tryz.func54, Tryz.ntmps54
  go_wp2_with (fail)
  rw [← h1]
  clear h1 f0 f1 f2 f3 f4 f5 f6 f7 f8 f9
  have hnn := few_svcs HOK.out
  have hrp := few_reps HOK.out
  go_loopw [14] (fun i wr => ∃ k : Nat, k ≤ z.xs.length ∧ i = .int .i64 (k : Int) ∧ Hid (Fnd z W0 g kb 6 fv (l ++ bk2 6 (bnNea z.s z.ss z.d) k) wr) ∧ Hid (Kg g W wr)) (fun i _ => z.xs.length - (intOf i).toNat)
  case atStart => exact ⟨0, Nat.zero_le _, rfl, Lib.hid (by rw [bk2_zero, List.append_nil]; exact HF.out), HK0⟩
  case round =>
    obtain ⟨k, hk, rfl, hFr, hKr⟩ := hrel
    have hki : ((k : Nat) : Int).toNat = k := by omega
    by_cases hlt : k < z.xs.length
    · obtain ⟨x, hx⟩ : ∃ x, z.xs[k]? = some x := ⟨_, List.getElem?_eq_getElem hlt⟩
      have hki2 : (k : Int) < (z.xs.length : Int) := by omega
      obtain ⟨m, hm⟩ : ∃ m, l ++ bk2 6 (bnNea z.s z.ss z.d) k = m := ⟨_, rfl⟩
      have HSV := Lib.hid (svAt_eq (show z.ss[k]? = some x.1 from svs_at hx))
      have HSU := Lib.hid (show l ++ bk2 6 (bnNea z.s z.ss z.d) (k + 1) = m ++ ((bnNea z.s z.ss z.d) k).map fun y => ⟨6, (k : Int), y⟩ by rw [bk2_succ, ← List.append_assoc, hm])
      have HML := Lib.hid (show m.length ≤ 6000 by
        rw [← hm, List.length_append]
        have h1 := bk2_len 6 100 (bnNea z.s z.ss z.d) k (fun i hi => nea_len HOK.out i (by omega))
        have := HL.out; omega)
      rw [hm] at hFr
      clear hm
      have hsn := hFr.out.snx
      obtain ⟨pb, po, e7, hpb, x0, x1, x2, x3, x4, x5, x6, x7⟩ := sv_of hsn hx
      have HXM := Lib.hid (List.mem_of_getElem? hx)
      obtain ⟨V, hV⟩ : ∃ X, X = wr.alloc (.cells #[.int .i64 x.1.cores, .int .i64 x.1.reps, .int .i64 x.1.least, .int .u8 (x.1.dom : Int), .int .i64 x.1.spread, .slice x.2.a1 x.1.apart.length x.2.c1, .slice x.2.a2 x.1.near.length x.2.c2, .int .i64 x.1.fw] 94) := ⟨_, rfl⟩
      have bV : Below wr.heap.size wr V := by rw [hV]; exact (Below.refl _ _).alloc (Nat.le_refl _) _
      have LV : Loc g V wr.heap.size (.cells #[.int .i64 x.1.cores, .int .i64 x.1.reps, .int .i64 x.1.least, .int .u8 (x.1.dom : Int), .int .i64 x.1.spread, .slice x.2.a1 x.1.apart.length x.2.c1, .slice x.2.a2 x.1.near.length x.2.c2, .int .i64 x.1.fw] 94 (0, 0)) := by rw [hV]; exact hFr.out.new _
      have HFV := Lib.hid (hFr.out.on bV)
      have HKV := Lib.hid (hKr.out.trans (hFr.out.kg bV))
      have HC := Lib.hid (fun (X : World) (hX : Kg g V X) => (by
        obtain ⟨f0, f1, f2, f3, f4, f5, f6, f7, f8, f9⟩ := HS.out X (HKV.out.trans hX)
        exact ⟨f0, f1, f2, f3, f4, f5, f6, f7, f8, f9, (LV.on hX).cell rfl, (LV.on hX).cell rfl, (LV.on hX).cell rfl, (LV.on hX).cell rfl, (LV.on hX).cell rfl, (LV.on hX).cell rfl, (LV.on hX).cell rfl, (LV.on hX).cell rfl⟩ : X.cell? ⟨B, 0, none⟩ = some (.slice z.p.a1 z.s.feeds.length z.p.c1) ∧ X.cell? ⟨B, 1, none⟩ = some (.slice z.p.a2 z.s.brks.length z.p.c2) ∧ X.cell? ⟨B, 2, none⟩ = some (.slice z.p.a3 z.s.loops.length z.p.c3) ∧ X.cell? ⟨B, 3, none⟩ = some (.slice z.p.a4 z.s.racks.length z.p.c4) ∧ X.cell? ⟨B, 4, none⟩ = some (.int .i64 z.s.sw) ∧ X.cell? ⟨B, 5, none⟩ = some (.slice z.p.a5 z.s.links.length z.p.c5) ∧ X.cell? ⟨B, 6, none⟩ = some (.slice z.p.a6 z.s.hosts.length z.p.c6) ∧ X.cell? ⟨B, 7, none⟩ = some (.slice z.A z.xs.length z.c) ∧ X.cell? ⟨B, 8, none⟩ = some (.slice z.q.a1 z.d.hosts.length z.q.c1) ∧ X.cell? ⟨B, 9, none⟩ = some (.slice z.q.a2 z.d.reps.length z.q.c2) ∧ X.cell? ⟨wr.heap.size, 0, none⟩ = some (.int .i64 x.1.cores) ∧ X.cell? ⟨wr.heap.size, 1, none⟩ = some (.int .i64 x.1.reps) ∧ X.cell? ⟨wr.heap.size, 2, none⟩ = some (.int .i64 x.1.least) ∧ X.cell? ⟨wr.heap.size, 3, none⟩ = some (.int .u8 (x.1.dom : Int)) ∧ X.cell? ⟨wr.heap.size, 4, none⟩ = some (.int .i64 x.1.spread) ∧ X.cell? ⟨wr.heap.size, 5, none⟩ = some (.slice x.2.a1 x.1.apart.length x.2.c1) ∧ X.cell? ⟨wr.heap.size, 6, none⟩ = some (.slice x.2.a2 x.1.near.length x.2.c2) ∧ X.cell? ⟨wr.heap.size, 7, none⟩ = some (.int .i64 x.1.fw)))
      have HKVV := Lib.hid (Kg.refl g V)
      obtain ⟨f0, f1, f2, f3, f4, f5, f6, f7, f8, f9, s0, s1, s2, s3, s4, s5, s6, s7⟩ := HC.out V HKVV.out
      rw [hV] at f0 f1 f2 f3 f4 f5 f6 f7 f8 f9 s0 s1 s2 s3 s4 s5 s6 s7
      clear hx bV LV hsn
      obtain ⟨wl, hwl⟩ : ∃ wl, whereD z.d.reps (k : Int) = wl := ⟨_, rfl⟩
      have HWL := Lib.hid hwl
      have HSK := Lib.hid (show l ++ bk2 6 (bnNea z.s z.ss z.d) (k + 1) = m ++ (x.1.near.filter (lonB z.s z.d wl)).map fun y => ⟨6, (k : Int), y.svc⟩ by rw [HSU.out]; unfold bnNea; rw [HSV.out, HWL.out, List.map_map]; rfl)
      have HFL := Lib.hid (show (x.1.near.filter (lonB z.s z.d wl)).length ≤ 100 by
        have h1 := nea_len HOK.out k hlt
        unfold bnNea at h1; rw [List.length_map] at h1
        rw [HSV.out, hwl] at h1; exact h1)
      clear hwl
      rw [e7]
      go_wp2_with (fail)
      rw [← hV]
      clear hV f0 f1 f2 f3 f4 f5 f6 f7 f8 f9 s0 s1 s2 s3 s4 s5 s6 s7 x0 x1 x2 x3 x4 x5 x6 x7
      generalize hsb : wr.heap.size = sb at *
      have hcap := ((HFV.out.snx).wi.each x HXM.out).near.1
      have hcap2 := ((HFV.out.snx).wi.each x HXM.out).near.2.1
      unfold maxLen at hcap2
      go_loopw [22] (fun i wr => ∃ q : Nat, q ≤ x.1.near.length ∧ i = .int .i64 (q : Int) ∧ Hid (Fnd z W0 g kb 6 fv (m ++ ((x.1.near.take q).filter (lonB z.s z.d wl)).map fun y => ⟨6, (k : Int), y.svc⟩) wr) ∧ Hid (Kg g V wr)) (fun i _ => x.1.near.length - (intOf i).toNat)
      case atStart => exact ⟨0, Nat.zero_le _, rfl, Lib.hid (by simp only [List.take_zero, List.filter_nil, List.map_nil, List.append_nil]; exact HFV.out), HKVV⟩
      case round =>
        obtain ⟨q, hq, rfl, hFi, hKi⟩ := hrel
        have hqi : ((q : Nat) : Int).toNat = q := by omega
        by_cases hql : q < x.1.near.length
        · obtain ⟨y, hy⟩ : ∃ y, x.1.near[q]? = some y := ⟨_, List.getElem?_eq_getElem hql⟩
          have hqi2 : (q : Int) < ((x.1.near.length : Nat) : Int) := by omega
          obtain ⟨mm, hmm⟩ : ∃ mm, m ++ ((x.1.near.take q).filter (lonB z.s z.d wl)).map (fun y => (⟨6, (k : Int), y.svc⟩ : Bn)) = mm := ⟨_, rfl⟩
          have HSI := Lib.hid (show m ++ ((x.1.near.take (q + 1)).filter (lonB z.s z.d wl)).map (fun y => (⟨6, (k : Int), y.svc⟩ : Bn)) = mm ++ if (lonB z.s z.d wl) y = true then [⟨6, (k : Int), y.svc⟩] else [] by
            rw [filt_take hy, List.map_append, ← List.append_assoc, hmm]
            congr 1
            split <;> rfl)
          have HMM := Lib.hid (show mm.length ≤ 10000 by
            rw [← hmm, List.length_append, List.length_map]
            have h1 := List.Sublist.length_le ((List.take_sublist q x.1.near).filter (lonB z.s z.d wl))
            have := HFL.out; have := HML.out; omega)
          rw [hmm] at hFi
          clear hmm
          have hsv := (hFi.out.snx).wi.each x HXM.out
          obtain ⟨ab, ao, ea, hab, -⟩ := hsv.near.at_ hy
          have hra := hsv.near
          rw [ea] at hra
          obtain ⟨y0, y1⟩ := near_at hra hy
          clear hra hsv
          rw [ea]
          obtain ⟨b, hb⟩ : ∃ b, (lonB z.s z.d wl) y = b := ⟨_, rfl⟩
          have HBB := Lib.hid hb
          have HKU := Lib.hid (hKi.out.trans (hFi.out.kg (Below.refl _ _)))
          obtain ⟨V2, hV2⟩ : ∃ X, X = wr.alloc (.cells #[.int .i64 y.svc, .int .i64 y.lat] 109) := ⟨_, rfl⟩
          have bV2 : Below wr.heap.size wr V2 := by rw [hV2]; exact (Below.refl _ _).alloc (Nat.le_refl _) _
          have LV2 : Loc g V2 wr.heap.size (.cells #[.int .i64 y.svc, .int .i64 y.lat] 109 (0, 0)) := by rw [hV2]; exact hFi.out.new _
          have hz2 : V2.heap.size = wr.heap.size + 1 := by rw [hV2, World.size_alloc]
          have HF2 := Lib.hid (hFi.out.on bV2)
          have HK2 := Lib.hid (hKi.out.trans (hFi.out.kg bV2))
          obtain ⟨V3, hV3⟩ : ∃ X, X = V2.alloc (.cells #[.func (.func 102) #[] #[.pointer (some ⟨B, 0, none⟩), .pointer (some ⟨wr.heap.size, 0, none⟩)]] 134) := ⟨_, rfl⟩
          have bV3 : Below V2.heap.size V2 V3 := by rw [hV3]; exact (Below.refl _ _).alloc (Nat.le_refl _) _
          have LV3 : Loc g V3 (wr.heap.size + 1) (.cells #[.func (.func 102) #[] #[.pointer (some ⟨B, 0, none⟩), .pointer (some ⟨wr.heap.size, 0, none⟩)]] 134 (0, 0)) := by rw [hV3, ← hz2]; exact HF2.out.new _
          have HF3 := Lib.hid (HF2.out.on bV3)
          have HK3 := Lib.hid (HK2.out.trans (HF2.out.kg bV3))
          have HC3 := Lib.hid (fun (X : World) (hX : Below V3.heap.size V3 X) => (by
            have hk3 := HF3.out.kg hX
            obtain ⟨f0, f1, f2, f3, f4, f5, f6, f7, f8, f9, s0, s1, s2, s3, s4, s5, s6, s7⟩ := HC.out X (HK3.out.trans hk3)
            exact ⟨⟨f0, f1, f2, f3, f4, f5, f6, f7, f8, f9⟩, ⟨(LV2.on ((HF2.out.kg bV3).trans hk3)).cell rfl, (LV2.on ((HF2.out.kg bV3).trans hk3)).cell rfl⟩, (LV3.on hk3).cell rfl⟩ : ScAt X B z ∧ (X.cell? ⟨wr.heap.size, 0, none⟩ = some (.int .i64 y.svc) ∧ X.cell? ⟨wr.heap.size, 1, none⟩ = some (.int .i64 y.lat)) ∧ X.cell? ⟨wr.heap.size + 1, 0, none⟩ = some (.func (.func 102) #[] #[.pointer (some ⟨B, 0, none⟩), .pointer (some ⟨wr.heap.size, 0, none⟩)])))
          have HSN := Lib.hid (fun (X : World) (hX : Below V3.heap.size V3 X) => (HF3.out.on hX).snx)
          have HKbV3 := Lib.hid (Below.refl V3.heap.size V3)
          have HCF := Lib.hid (fun (X : World) (hX : Below V3.heap.size V3 X) (A : Option Addr) (c : Nat) (hA : Rw 1 inF X A c wl) => c_CFF (fun h => !nerB z.s z.d y h) B wr.heap.size (wr.heap.size + 1) A c wl X hA (fun Y hY h r _ hr => c_nears2 z B wr.heap.size (wr.heap.size + 1) y h r hr Y (HSN.out Y (below_join hX hY hX.size)) (fun Z hZ => (HC3.out Z (below_join (below_join hX hY hX.size) hZ (Nat.le_trans hX.size hY.size))).1) (fun Z hZ => (HC3.out Z (below_join (below_join hX hY hX.size) hZ (Nat.le_trans hX.size hY.size))).2.1) (fun Z hZ => (HC3.out Z (below_join (below_join hX hY hX.size) hZ (Nat.le_trans hX.size hY.size))).2.2)) b (by rw [← HBB.out]; rfl))
          clear hy hb bV2 bV3
          obtain ⟨⟨f0, f1, f2, f3, f4, f5, f6, f7, f8, f9⟩, ⟨c0, c1⟩, c2⟩ := HC3.out V3 HKbV3.out
          rw [hV3, hV2] at f0 f1 f2 f3 f4 f5 f6 f7 f8 f9 c0 c1 c2
          have hz4 := Lib.hid hz2
          rw [hV2] at hV3
          clear hz2
          go_wp2_with (fail)
          rw [← hV3]
          clear hV2 hV3 f0 f1 f2 f3 f4 f5 f6 f7 f8 f9 c0 c1 c2
          go_at_call 97
          refine (c_whereTo z (k : Int) wl HWL.out (by omega) V3 (HSN.out V3 HKbV3.out)).mono ?_
          rintro e v1 ⟨A1, q1, rfl, rw1, bb⟩
          have HKbv1 := Lib.hid (below_join HKbV3.out bb HKbV3.out.size)
          have HRW := Lib.hid rw1
          clear bb rw1
          go_wp2_with (fail)
          go_at_call 101
          refine (HCF.out v1 HKbv1.out A1 q1 HRW.out).mono ?_
          rintro e v2 ⟨rfl, bb⟩
          have HKbv2 := Lib.hid (below_join HKbv1.out bb HKbv1.out.size)
          clear bb
          obtain ⟨⟨f0, f1, f2, f3, f4, f5, f6, f7, f8, f9⟩, ⟨c0, c1⟩, c2⟩ := HC3.out v2 HKbv2.out
          rcases b with _ | _
          · have HSJ := Lib.hid (show m ++ ((x.1.near.take (q + 1)).filter (lonB z.s z.d wl)).map (fun y => (⟨6, (k : Int), y.svc⟩ : Bn)) = mm by rw [HSI.out, HBB.out]; simp)
            go_wp2_with (fail)
            clear f0 f1 f2 f3 f4 f5 f6 f7 f8 f9 c0 c1 c2
            go_roundw
            case rel => exact ⟨q + 1, by omega, by go_num, Lib.hid (by rw [HSJ.out]; exact HF3.out.on HKbv2.out), Lib.hid (HK3.out.trans (HF3.out.kg HKbv2.out))⟩
            case measure => simp only [intOf]; omega
          · have HSJ := Lib.hid (show m ++ ((x.1.near.take (q + 1)).filter (lonB z.s z.d wl)).map (fun y => (⟨6, (k : Int), y.svc⟩ : Bn)) = mm ++ [⟨6, (k : Int), y.svc⟩] by rw [HSI.out, HBB.out]; rfl)
            go_wp2_with (fail)
            clear f0 f1 f2 f3 f4 f5 f6 f7 f8 f9 c0 c1 c2
            go_at_call 29
            refine (c_coll z W0 g kb 6 fv mm (k : Int) y.svc v2 (HF3.out.on HKbv2.out) HMM.out).mono ?_
            rintro e u ⟨rfl, fy, ky⟩
            have HY := Lib.hid fy
            have HKY := Lib.hid ((HK3.out.trans (HF3.out.kg HKbv2.out)).trans ky)
            clear fy ky
            go_wp2_with (fail)
            go_roundw
            case rel => exact ⟨q + 1, by omega, by go_num, Lib.hid (by rw [HSJ.out]; exact HY.out), HKY⟩
            case measure => simp only [intOf]; omega
        · obtain rfl : q = x.1.near.length := by omega
          have HFI := Lib.hid (show Fnd z W0 g kb 6 fv (l ++ bk2 6 (bnNea z.s z.ss z.d) (k + 1)) wr by have := hFi.out; rw [List.take_length] at this; rw [HSK.out]; exact this)
          have HKI := Lib.hid (HKV.out.trans hKi.out)
          go_wp2_with (fail)
          go_roundw
          case rel => exact ⟨k + 1, by omega, by go_num, HFI, HKI⟩
          case measure => simp only [intOf]; omega
    · obtain rfl : k = z.xs.length := by omega
      go_wp2_with (fail)
      go_end0
      exact HQ.out _ (by have := hFr.out; unfold bnK; unfold Sn.ss; rw [svs_len]; exact this) hKr.out
end Go.Proofs.YtbbadnlaelgmlaaGreat

namespace Go.Proofs.YtbbadnlaelgmlaaGreat
open Go.RowKit
set_option maxRecDepth 100000
set_option linter.unusedVariables false
set_option linter.unusedSimpArgs false

theorem Fnd.row {z : Sn} {W0 V X Y : World} {g kb kd : Nat} {fv : Value} {l : List Bn} {e : TypeId} {size n : Nat} {v : Value} {xs : List Value} (h : Fnd z W0 g kb kd fv l V) (ho : X.ownsRow V.heap.size e size v n xs) (hb : Below V.heap.size V X) (k : Kg g X Y) : Y.ownsRow V.heap.size e size v n xs := by
  obtain ⟨k1, h0 | ⟨g', cap, cur, e1, k3, k4, k5⟩⟩ := ho
  · exact ⟨k1, .inl h0⟩
  · refine ⟨k1, .inr ⟨g', cap, cur, e1, k3, k.same g' _ (by have := h.gl; omega) (fun e2 => ?_) k4, k5⟩⟩
    have e3 : lbk V g = some g' := by rw [← e2]; unfold lbk; rw [hb.block g h.gl]
    have := (h.co.lb e3).2.1
    omega
theorem own_rwA {w : World} {base c : Nat} {A : Option Addr} {l : List Int} (h : w.ownsRow base 3 1 (.slice A l.length c) l.length (ints l)) : Rw 1 inF w A c l := by
  obtain ⟨A', c', e, hr⟩ := own_rw h
  injection e with e1 _ e2
  subst e1 e2
  exact hr
theorem c_whereOwn (z : Sn) (s : Int) (l : List Int) (hr : whereD z.d.reps s = l) (hm : z.d.reps.length ≤ 1000) (w : World) (h : SnAt w z) :
    Calls Tryz.prog 97 #[.agg #[.slice z.q.a1 z.d.hosts.length z.q.c1, .slice z.q.a2 z.d.reps.length z.q.c2], .int .i64 s] w fun e w' => ∃ A c, e = .returned (.slice A l.length c) ∧ w'.ownsRow w.heap.size 3 1 (.slice A l.length c) l.length (ints l) ∧ Below w.heap.size w w' := by
  subst hr
  refine (c_woWhere z.q z.d s hm w h.wo).mono fun e w' q => ?_
  obtain ⟨v, e1, ho, hb⟩ := q
  obtain ⟨A, c, rfl⟩ := own_shape ho
  exact ⟨A, c, e1, ho, hb⟩
theorem where_in {z : Sn} (ok : z.Ok) {s h : Int} (hh : h ∈ whereD z.d.reps s) : 0 ≤ h ∧ h < z.d.hosts.length := by
  obtain ⟨r, hr, rfl⟩ := where_host hh
  have := ok.2.2.2.2.2.1 r hr
  unfold repOk at this
  rw [Bool.and_eq_true, ixB_iff, ixB_iff] at this
  have h2 := ok.2.2.1
  omega
theorem frm_len {z : Sn} (ok : z.Ok) (i : Nat) (hi : i < z.xs.length) : (bnFrm z.ss z.d i).length ≤ 100 := by
  unfold bnFrm
  refine Nat.le_trans (List.length_filter_le _ _) (Nat.le_trans (where_len _ _) ?_)
  have := few_reps ok; omega
theorem fw_at {z : Sn} {w : World} (h : SnAt w z) {n : Nat} (hn : n < z.d.hosts.length) : ∃ b o, z.q.a1 = some ⟨b, o, none⟩ ∧ b < w.heap.size ∧ w.cell? ⟨b, o + n * 2 + 1, none⟩ = some (.int .i64 (fwAt z.d (n : Int))) := by
  obtain ⟨x, hx⟩ : ∃ x, z.d.hosts[n]? = some x := ⟨_, List.getElem?_eq_getElem hn⟩
  obtain ⟨b, o, e, hb, -⟩ := h.wo.hosts.at_ hx
  have h2 := h.wo.hosts
  rw [e] at h2
  refine ⟨b, o, e, hb, ?_⟩
  rw [(hst_at h2 hx).2]
  unfold fwAt
  rw [Int.toNat_natCast, hx]; rfl
set_option maxHeartbeats 16000000 in
theorem c_findFirmwares (z : Sn) (W0 : World) (g kb : Nat) (fv : Value) (l : List Bn) (ok : z.Ok) (hl : l.length ≤ 5000) (w : World) (h : Fnd z W0 g kb 7 fv l w) :
    Calls Tryz.prog 55 #[.agg #[.slice z.p.a1 z.s.feeds.length z.p.c1, .slice z.p.a2 z.s.brks.length z.p.c2, .slice z.p.a3 z.s.loops.length z.p.c3, .slice z.p.a4 z.s.racks.length z.p.c4, .int .i64 z.s.sw, .slice z.p.a5 z.s.links.length z.p.c5, .slice z.p.a6 z.s.hosts.length z.p.c6, .slice z.A z.xs.length z.c, .slice z.q.a1 z.d.hosts.length z.q.c1, .slice z.q.a2 z.d.reps.length z.q.c2], .func (.func 29) #[] #[.pointer (some ⟨g, 0, none⟩), .pointer (some ⟨kb, 0, none⟩)]] w fun e w' => e = .returned (.tuple #[]) ∧ Fnd z W0 g kb 7 fv (l ++ bnK z.s z.ss z.d 7) w' ∧ Kg g w w' := by
  obtain ⟨W, h1⟩ : ∃ W, W = w.alloc (.cells #[.slice z.p.a1 z.s.feeds.length z.p.c1, .slice z.p.a2 z.s.brks.length z.p.c2, .slice z.p.a3 z.s.loops.length z.p.c3, .slice z.p.a4 z.s.racks.length z.p.c4, .int .i64 z.s.sw, .slice z.p.a5 z.s.links.length z.p.c5, .slice z.p.a6 z.s.hosts.length z.p.c6, .slice z.A z.xs.length z.c, .slice z.q.a1 z.d.hosts.length z.q.c1, .slice z.q.a2 z.d.reps.length z.q.c2] 71) := ⟨_, rfl⟩
  have B1 : Below w.heap.size w W := by rw [h1]; exact (Below.refl _ _).alloc (Nat.le_refl _) _
  have L0 : Loc g W w.heap.size (.cells #[.slice z.p.a1 z.s.feeds.length z.p.c1, .slice z.p.a2 z.s.brks.length z.p.c2, .slice z.p.a3 z.s.loops.length z.p.c3, .slice z.p.a4 z.s.racks.length z.p.c4, .int .i64 z.s.sw, .slice z.p.a5 z.s.links.length z.p.c5, .slice z.p.a6 z.s.hosts.length z.p.c6, .slice z.A z.xs.length z.c, .slice z.q.a1 z.d.hosts.length z.q.c1, .slice z.q.a2 z.d.reps.length z.q.c2] 71 (0, 0)) := by rw [h1]; exact h.new _
  have HF := Lib.hid (h.on B1)
  have HKG := Lib.hid (h.kg B1)
  have HS := Lib.hid (fun (X : World) (hX : Kg g W X) => (scn_cells (L0.on hX) : X.cell? ⟨w.heap.size, 0, none⟩ = some (.slice z.p.a1 z.s.feeds.length z.p.c1) ∧ X.cell? ⟨w.heap.size, 1, none⟩ = some (.slice z.p.a2 z.s.brks.length z.p.c2) ∧ X.cell? ⟨w.heap.size, 2, none⟩ = some (.slice z.p.a3 z.s.loops.length z.p.c3) ∧ X.cell? ⟨w.heap.size, 3, none⟩ = some (.slice z.p.a4 z.s.racks.length z.p.c4) ∧ X.cell? ⟨w.heap.size, 4, none⟩ = some (.int .i64 z.s.sw) ∧ X.cell? ⟨w.heap.size, 5, none⟩ = some (.slice z.p.a5 z.s.links.length z.p.c5) ∧ X.cell? ⟨w.heap.size, 6, none⟩ = some (.slice z.p.a6 z.s.hosts.length z.p.c6) ∧ X.cell? ⟨w.heap.size, 7, none⟩ = some (.slice z.A z.xs.length z.c) ∧ X.cell? ⟨w.heap.size, 8, none⟩ = some (.slice z.q.a1 z.d.hosts.length z.q.c1) ∧ X.cell? ⟨w.heap.size, 9, none⟩ = some (.slice z.q.a2 z.d.reps.length z.q.c2)))
  have HK0 := Lib.hid (Kg.refl g W)
  obtain ⟨n1, n2, n3, n4, n5, n6, n7, n8⟩ := h.snx.bounds
  have HOK := Lib.hid ok
  have HL := Lib.hid hl
  have HPO : ∀ X, Fnd z W0 g kb 7 fv (l ++ bnK z.s z.ss z.d 7) X → Kg g W X → (Ending.returned (.tuple #[]) = .returned (.tuple #[]) ∧ Fnd z W0 g kb 7 fv (l ++ bnK z.s z.ss z.d 7) X ∧ Kg g w X) := fun X hx hk => ⟨rfl, hx, HKG.out.trans hk⟩
  obtain ⟨Q, hQ⟩ : ∃ Q : Ending → World → Prop, Q = fun e w' => e = .returned (.tuple #[]) ∧ Fnd z W0 g kb 7 fv (l ++ bnK z.s z.ss z.d 7) w' ∧ Kg g w w' := ⟨_, rfl⟩
  have HQ := Lib.hid (fun X hx hk => (by rw [hQ]; exact HPO X hx hk : Q (.returned (.tuple #[])) X))
  rw [← hQ]
  clear h B1 L0 hl HKG HPO hQ ok
  obtain ⟨f0, f1, f2, f3, f4, f5, f6, f7, f8, f9⟩ := HS.out W HK0.out
  rw [h1] at f0 f1 f2 f3 f4 f5 f6 f7 f8 f9
  generalize hBB : w.heap.size = B at *
  go_enter Tryz.func55, Tryz.ntmps55
  go_wp2_with (fail)
  rw [← h1]
  clear h1 f0 f1 f2 f3 f4 f5 f6 f7 f8 f9
  have hnn := few_svcs HOK.out
  have hrp := few_reps HOK.out
  go_loopw [12] (fun i wr => ∃ k : Nat, k ≤ z.xs.length ∧ i = .int .i64 (k : Int) ∧ Hid (Fnd z W0 g kb 7 fv (l ++ bk2 7 (bnFrm z.ss z.d) k) wr) ∧ Hid (Kg g W wr)) (fun i _ => z.xs.length - (intOf i).toNat)
  case atStart => exact ⟨0, Nat.zero_le _, rfl, Lib.hid (by rw [bk2_zero, List.append_nil]; exact HF.out), HK0⟩
  case round =>
    obtain ⟨k, hk, rfl, hFr, hKr⟩ := hrel
    have hki : ((k : Nat) : Int).toNat = k := by omega
    by_cases hlt : k < z.xs.length
    · obtain ⟨x, hx⟩ : ∃ x, z.xs[k]? = some x := ⟨_, List.getElem?_eq_getElem hlt⟩
      have hki2 : (k : Int) < (z.xs.length : Int) := by omega
      obtain ⟨m, hm⟩ : ∃ m, l ++ bk2 7 (bnFrm z.ss z.d) k = m := ⟨_, rfl⟩
      have HSV := Lib.hid (svAt_eq (show z.ss[k]? = some x.1 from svs_at hx))
      have HSU := Lib.hid (show l ++ bk2 7 (bnFrm z.ss z.d) (k + 1) = m ++ ((bnFrm z.ss z.d) k).map fun y => ⟨7, (k : Int), y⟩ by rw [bk2_succ, ← List.append_assoc, hm])
      have HML := Lib.hid (show m.length ≤ 6000 by
        rw [← hm, List.length_append]
        have h1 := bk2_len 7 100 (bnFrm z.ss z.d) k (fun i hi => frm_len HOK.out i (by omega))
        have := HL.out; omega)
      rw [hm] at hFr
      clear hm
      have hsn := hFr.out.snx
      obtain ⟨pb, po, e7, hpb, x0, x1, x2, x3, x4, x5, x6, x7⟩ := sv_of hsn hx
      have HXM := Lib.hid (List.mem_of_getElem? hx)
      obtain ⟨V, hV⟩ : ∃ X, X = wr.alloc (.cells #[.int .i64 x.1.cores, .int .i64 x.1.reps, .int .i64 x.1.least, .int .u8 (x.1.dom : Int), .int .i64 x.1.spread, .slice x.2.a1 x.1.apart.length x.2.c1, .slice x.2.a2 x.1.near.length x.2.c2, .int .i64 x.1.fw] 94) := ⟨_, rfl⟩
      have bV : Below wr.heap.size wr V := by rw [hV]; exact (Below.refl _ _).alloc (Nat.le_refl _) _
      have LV : Loc g V wr.heap.size (.cells #[.int .i64 x.1.cores, .int .i64 x.1.reps, .int .i64 x.1.least, .int .u8 (x.1.dom : Int), .int .i64 x.1.spread, .slice x.2.a1 x.1.apart.length x.2.c1, .slice x.2.a2 x.1.near.length x.2.c2, .int .i64 x.1.fw] 94 (0, 0)) := by rw [hV]; exact hFr.out.new _
      have HFV := Lib.hid (hFr.out.on bV)
      have HKV := Lib.hid (hKr.out.trans (hFr.out.kg bV))
      have HC := Lib.hid (fun (X : World) (hX : Kg g V X) => (by
        obtain ⟨f0, f1, f2, f3, f4, f5, f6, f7, f8, f9⟩ := HS.out X (HKV.out.trans hX)
        exact ⟨f0, f1, f2, f3, f4, f5, f6, f7, f8, f9, (LV.on hX).cell rfl, (LV.on hX).cell rfl, (LV.on hX).cell rfl, (LV.on hX).cell rfl, (LV.on hX).cell rfl, (LV.on hX).cell rfl, (LV.on hX).cell rfl, (LV.on hX).cell rfl⟩ : X.cell? ⟨B, 0, none⟩ = some (.slice z.p.a1 z.s.feeds.length z.p.c1) ∧ X.cell? ⟨B, 1, none⟩ = some (.slice z.p.a2 z.s.brks.length z.p.c2) ∧ X.cell? ⟨B, 2, none⟩ = some (.slice z.p.a3 z.s.loops.length z.p.c3) ∧ X.cell? ⟨B, 3, none⟩ = some (.slice z.p.a4 z.s.racks.length z.p.c4) ∧ X.cell? ⟨B, 4, none⟩ = some (.int .i64 z.s.sw) ∧ X.cell? ⟨B, 5, none⟩ = some (.slice z.p.a5 z.s.links.length z.p.c5) ∧ X.cell? ⟨B, 6, none⟩ = some (.slice z.p.a6 z.s.hosts.length z.p.c6) ∧ X.cell? ⟨B, 7, none⟩ = some (.slice z.A z.xs.length z.c) ∧ X.cell? ⟨B, 8, none⟩ = some (.slice z.q.a1 z.d.hosts.length z.q.c1) ∧ X.cell? ⟨B, 9, none⟩ = some (.slice z.q.a2 z.d.reps.length z.q.c2) ∧ X.cell? ⟨wr.heap.size, 0, none⟩ = some (.int .i64 x.1.cores) ∧ X.cell? ⟨wr.heap.size, 1, none⟩ = some (.int .i64 x.1.reps) ∧ X.cell? ⟨wr.heap.size, 2, none⟩ = some (.int .i64 x.1.least) ∧ X.cell? ⟨wr.heap.size, 3, none⟩ = some (.int .u8 (x.1.dom : Int)) ∧ X.cell? ⟨wr.heap.size, 4, none⟩ = some (.int .i64 x.1.spread) ∧ X.cell? ⟨wr.heap.size, 5, none⟩ = some (.slice x.2.a1 x.1.apart.length x.2.c1) ∧ X.cell? ⟨wr.heap.size, 6, none⟩ = some (.slice x.2.a2 x.1.near.length x.2.c2) ∧ X.cell? ⟨wr.heap.size, 7, none⟩ = some (.int .i64 x.1.fw)))
      have HKVV := Lib.hid (Kg.refl g V)
      obtain ⟨f0, f1, f2, f3, f4, f5, f6, f7, f8, f9, s0, s1, s2, s3, s4, s5, s6, s7⟩ := HC.out V HKVV.out
      rw [hV] at f0 f1 f2 f3 f4 f5 f6 f7 f8 f9 s0 s1 s2 s3 s4 s5 s6 s7
      clear hx bV LV hsn
      obtain ⟨wl, hwl⟩ : ∃ wl, whereD z.d.reps (k : Int) = wl := ⟨_, rfl⟩
      have HWL := Lib.hid hwl
      have HSK := Lib.hid (show l ++ bk2 7 (bnFrm z.ss z.d) (k + 1) = m ++ (wl.filter (fun h => decide (fwAt z.d h < x.1.fw))).map fun y => ⟨7, (k : Int), y⟩ by rw [HSU.out]; unfold bnFrm; rw [HSV.out, HWL.out])
      have hwn : wl.length ≤ 100 := by rw [← hwl]; exact Nat.le_trans (where_len _ _) (by omega)
      clear hwl
      rw [e7]
      go_wp2_with (fail)
      rw [← hV]
      clear hV f0 f1 f2 f3 f4 f5 f6 f7 f8 f9 s0 s1 s2 s3 s4 s5 s6 s7 x0 x1 x2 x3 x4 x5 x6 x7
      generalize hsb : wr.heap.size = sb at *
      go_at_call 97
      refine (c_whereOwn z (k : Int) wl HWL.out (by omega) V HFV.out.snx).mono ?_
      rintro e v1 ⟨A1, q1, rfl, ho1, b1⟩
      have HF1 := Lib.hid (HFV.out.on b1)
      have HK1 := Lib.hid (HFV.out.kg b1)
      have HRO := Lib.hid (fun (Y : World) (hY : Kg g v1 Y) => HFV.out.row ho1 b1 hY)
      have HC1 := Lib.hid (fun (X : World) (hX : Kg g v1 X) => HC.out X (HK1.out.trans hX))
      have HK11 := Lib.hid (Kg.refl g v1)
      clear ho1 b1
      go_wp2_with (fail)
      go_loopw [22] (fun i wr => ∃ q : Nat, q ≤ wl.length ∧ i = .int .i64 (q : Int) ∧ Hid (Fnd z W0 g kb 7 fv (m ++ ((wl.take q).filter (fun h => decide (fwAt z.d h < x.1.fw))).map fun y => ⟨7, (k : Int), y⟩) wr) ∧ Hid (Kg g v1 wr)) (fun i _ => wl.length - (intOf i).toNat)
      case atStart => exact ⟨0, Nat.zero_le _, rfl, Lib.hid (by simp only [List.take_zero, List.filter_nil, List.map_nil, List.append_nil]; exact HF1.out), HK11⟩
      case round =>
        obtain ⟨q, hq, rfl, hFi, hKi⟩ := hrel
        have hqi : ((q : Nat) : Int).toNat = q := by omega
        by_cases hql : q < wl.length
        · obtain ⟨y, hy⟩ : ∃ y, wl[q]? = some y := ⟨_, List.getElem?_eq_getElem hql⟩
          have hqi2 : (q : Int) < ((wl.length : Nat) : Int) := by omega
          obtain ⟨mm, hmm⟩ : ∃ mm, m ++ ((wl.take q).filter (fun h => decide (fwAt z.d h < x.1.fw))).map (fun y => (⟨7, (k : Int), y⟩ : Bn)) = mm := ⟨_, rfl⟩
          have HSI := Lib.hid (show m ++ ((wl.take (q + 1)).filter (fun h => decide (fwAt z.d h < x.1.fw))).map (fun y => (⟨7, (k : Int), y⟩ : Bn)) = mm ++ if (fun h => decide (fwAt z.d h < x.1.fw)) y = true then [⟨7, (k : Int), y⟩] else [] by
            rw [filt_take hy, List.map_append, ← List.append_assoc, hmm]
            congr 1
            split <;> rfl)
          have HMM := Lib.hid (show mm.length ≤ 10000 by
            rw [← hmm, List.length_append, List.length_map]
            have h1 := List.length_filter_le (fun h => decide (fwAt z.d h < x.1.fw)) (wl.take q)
            rw [List.length_take] at h1
            have := HML.out; omega)
          rw [hmm] at hFi
          clear hmm
          have hyin := where_in (s := (k : Int)) HOK.out (h := y) (by rw [HWL.out]; exact List.mem_of_getElem? hy)
          obtain ⟨hn, hhn⟩ : ∃ hn : Nat, y = (hn : Int) := ⟨y.toNat, by omega⟩
          have hnn2 : hn < z.d.hosts.length := by omega
          subst hhn
          have hni : ((hn : Nat) : Int).toNat = hn := by omega
          have hni2 : (hn : Int) < (z.d.hosts.length : Int) := hyin.2
          have hrw := own_rwA (HRO.out wr hKi.out)
          obtain ⟨ab, ao, ea, -, -⟩ := hrw.at_ hy
          have hrw2 := hrw
          rw [ea] at hrw2
          have y0 := inRw hrw2 hy
          clear hrw hrw2
          obtain ⟨qb, qo, eq, hqb, c1⟩ := fw_at hFi.out.snx hnn2
          obtain ⟨fw, hfw⟩ : ∃ fw, fwAt z.d (hn : Int) = fw := ⟨_, rfl⟩
          rw [hfw] at c1
          have HC2 := Lib.hid (fun (X : World) (hX : Below wr.heap.size wr X) => (by
            have hk2 := hKi.out.trans (hFi.out.kg hX)
            obtain ⟨f0, f1, f2, f3, f4, f5, f6, f7, f8, f9, s0, s1, s2, s3, s4, s5, s6, s7⟩ := HC1.out X hk2
            rw [eq] at f8
            exact ⟨f0, f1, f2, f3, f4, f5, f6, f7, f8, f9, s7, (hX.cell (p := ⟨qb, qo + hn * 2 + 1, none⟩) hqb).trans c1⟩ : X.cell? ⟨B, 0, none⟩ = some (.slice z.p.a1 z.s.feeds.length z.p.c1) ∧ X.cell? ⟨B, 1, none⟩ = some (.slice z.p.a2 z.s.brks.length z.p.c2) ∧ X.cell? ⟨B, 2, none⟩ = some (.slice z.p.a3 z.s.loops.length z.p.c3) ∧ X.cell? ⟨B, 3, none⟩ = some (.slice z.p.a4 z.s.racks.length z.p.c4) ∧ X.cell? ⟨B, 4, none⟩ = some (.int .i64 z.s.sw) ∧ X.cell? ⟨B, 5, none⟩ = some (.slice z.p.a5 z.s.links.length z.p.c5) ∧ X.cell? ⟨B, 6, none⟩ = some (.slice z.p.a6 z.s.hosts.length z.p.c6) ∧ X.cell? ⟨B, 7, none⟩ = some (.slice z.A z.xs.length z.c) ∧ X.cell? ⟨B, 8, none⟩ = some (.slice (some ⟨qb, qo, none⟩) z.d.hosts.length z.q.c1) ∧ X.cell? ⟨B, 9, none⟩ = some (.slice z.q.a2 z.d.reps.length z.q.c2) ∧ X.cell? ⟨sb, 7, none⟩ = some (.int .i64 x.1.fw) ∧ X.cell? ⟨qb, qo + hn * 2 + 1, none⟩ = some (.int .i64 fw)))
          have HKbwr := Lib.hid (Below.refl wr.heap.size wr)
          have HFW := Lib.hid hfw
          clear hy hyin hfw c1 eq
          obtain ⟨f0, f1, f2, f3, f4, f5, f6, f7, f8, f9, c0, c1⟩ := HC2.out wr HKbwr.out
          rw [ea]
          rcases hd : decide (fw < x.1.fw) with _ | _
          · have HSJ := Lib.hid (show m ++ ((wl.take (q + 1)).filter (fun h => decide (fwAt z.d h < x.1.fw))).map (fun y => (⟨7, (k : Int), y⟩ : Bn)) = mm by
              rw [HSI.out]
              simp only [HFW.out, hd]
              simp)
            go_wp2_with (fail)
            clear f0 f1 f2 f3 f4 f5 f6 f7 f8 f9 c0 c1
            go_region_held3 (fun X => X.cell? ⟨B, 0, none⟩ = some (.slice z.p.a1 z.s.feeds.length z.p.c1) ∧ X.cell? ⟨B, 1, none⟩ = some (.slice z.p.a2 z.s.brks.length z.p.c2) ∧ X.cell? ⟨B, 2, none⟩ = some (.slice z.p.a3 z.s.loops.length z.p.c3) ∧ X.cell? ⟨B, 3, none⟩ = some (.slice z.p.a4 z.s.racks.length z.p.c4) ∧ X.cell? ⟨B, 4, none⟩ = some (.int .i64 z.s.sw) ∧ X.cell? ⟨B, 5, none⟩ = some (.slice z.p.a5 z.s.links.length z.p.c5) ∧ X.cell? ⟨B, 6, none⟩ = some (.slice z.p.a6 z.s.hosts.length z.p.c6) ∧ X.cell? ⟨B, 7, none⟩ = some (.slice z.A z.xs.length z.c) ∧ X.cell? ⟨B, 8, none⟩ = some (.slice (some ⟨qb, qo, none⟩) z.d.hosts.length z.q.c1) ∧ X.cell? ⟨B, 9, none⟩ = some (.slice z.q.a2 z.d.reps.length z.q.c2) ∧ X.cell? ⟨sb, 7, none⟩ = some (.int .i64 x.1.fw) ∧ X.cell? ⟨qb, qo + hn * 2 + 1, none⟩ = some (.int .i64 fw))
              (first | exact HC2.out wr HKbwr.out | fail)
              (first
                | fail)
            go_wp2_with (fail)
            go_roundw
            case rel => exact ⟨q + 1, by omega, by go_num, Lib.hid (by rw [HSJ.out]; exact hFi.out.on (Below.refl _ _).drew), Lib.hid (hKi.out.trans (hFi.out.kg (Below.refl _ _).drew))⟩
            case measure => simp only [intOf]; omega
          · have HSJ := Lib.hid (show m ++ ((wl.take (q + 1)).filter (fun h => decide (fwAt z.d h < x.1.fw))).map (fun y => (⟨7, (k : Int), y⟩ : Bn)) = mm ++ [⟨7, (k : Int), (hn : Int)⟩] by
              rw [HSI.out]
              simp only [HFW.out, hd]
              simp)
            go_wp2_with (fail)
            clear f0 f1 f2 f3 f4 f5 f6 f7 f8 f9 c0 c1
            go_region_held3 (fun X => X.cell? ⟨B, 0, none⟩ = some (.slice z.p.a1 z.s.feeds.length z.p.c1) ∧ X.cell? ⟨B, 1, none⟩ = some (.slice z.p.a2 z.s.brks.length z.p.c2) ∧ X.cell? ⟨B, 2, none⟩ = some (.slice z.p.a3 z.s.loops.length z.p.c3) ∧ X.cell? ⟨B, 3, none⟩ = some (.slice z.p.a4 z.s.racks.length z.p.c4) ∧ X.cell? ⟨B, 4, none⟩ = some (.int .i64 z.s.sw) ∧ X.cell? ⟨B, 5, none⟩ = some (.slice z.p.a5 z.s.links.length z.p.c5) ∧ X.cell? ⟨B, 6, none⟩ = some (.slice z.p.a6 z.s.hosts.length z.p.c6) ∧ X.cell? ⟨B, 7, none⟩ = some (.slice z.A z.xs.length z.c) ∧ X.cell? ⟨B, 8, none⟩ = some (.slice (some ⟨qb, qo, none⟩) z.d.hosts.length z.q.c1) ∧ X.cell? ⟨B, 9, none⟩ = some (.slice z.q.a2 z.d.reps.length z.q.c2) ∧ X.cell? ⟨sb, 7, none⟩ = some (.int .i64 x.1.fw) ∧ X.cell? ⟨qb, qo + hn * 2 + 1, none⟩ = some (.int .i64 fw))
              (first | exact HC2.out wr HKbwr.out | fail)
              (first
                | fail)
            go_wp2_with (fail)
            go_at_call 29
            refine (c_coll z W0 g kb 7 fv mm (k : Int) (hn : Int) _ (hFi.out.on (Below.refl _ _).drew) HMM.out).mono ?_
            rintro e u ⟨rfl, fy, ky⟩
            have HY := Lib.hid fy
            have HKY := Lib.hid ((hKi.out.trans (hFi.out.kg (Below.refl _ _).drew)).trans ky)
            clear fy ky
            go_wp2_with (fail)
            go_roundw
            case rel => exact ⟨q + 1, by omega, by go_num, Lib.hid (by rw [HSJ.out]; exact HY.out), HKY⟩
            case measure => simp only [intOf]; omega
        · obtain rfl : q = wl.length := by omega
          have HFI := Lib.hid (show Fnd z W0 g kb 7 fv (l ++ bk2 7 (bnFrm z.ss z.d) (k + 1)) wr by have := hFi.out; rw [List.take_length] at this; rw [HSK.out]; exact this)
          have HKI := Lib.hid ((HKV.out.trans HK1.out).trans hKi.out)
          go_wp2_with (fail)
          go_roundw
          case rel => exact ⟨k + 1, by omega, by go_num, HFI, HKI⟩
          case measure => simp only [intOf]; omega
    · obtain rfl : k = z.xs.length := by omega
      go_wp2_with (fail)
      go_end0
      exact HQ.out _ (by have := hFr.out; unfold bnK; unfold Sn.ss; rw [svs_len]; exact this) hKr.out
end Go.Proofs.YtbbadnlaelgmlaaGreat
