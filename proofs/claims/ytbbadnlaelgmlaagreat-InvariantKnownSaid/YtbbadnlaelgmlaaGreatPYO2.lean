/-
  DERIVED. Several texts in one.
-/
import Derived.Test.YtbbadnlaelgmlaaGreatPYO1
import Derived.Test.YtbbadnlaelgmlaaGreatPYN1
import Derived.Deep.RegionWith
set_option linter.unusedVariables false
set_option linter.unusedSimpArgs false

namespace Go.Proofs.YtbbadnlaelgmlaaGreat
open Go.RowKit
set_option maxRecDepth 100000
set_option linter.unusedVariables false
set_option linter.unusedSimpArgs false

set_option maxHeartbeats 4000000 in
theorem c_phases1 (hb : Nat) (h : Int) (x : Rep) (r : Bool) (hr : (x.host == h) = r) (w : World) (hh : w.cell? ⟨hb, 0, none⟩ = some (.int .i64 h)) (hl : hb < w.heap.size) :
    Calls Tryz.prog 94 #[.agg #[.int .i64 x.svc, .int .i64 x.host], .pointer (some ⟨hb, 0, none⟩)] w fun e w' => e = .returned (.bool r) ∧ Below w.heap.size w w' := by
  obtain ⟨W, h1⟩ : ∃ W, W = w.alloc (.cells #[.int .i64 x.svc, .int .i64 x.host] 53) := ⟨_, rfl⟩
  have B1 : Below w.heap.size w W := by rw [h1]; exact (Below.refl _ _).alloc (Nat.le_refl _) _
  have HB := Lib.hid B1
  have x0 : W.cell? ⟨hb, 0, none⟩ = some (.int .i64 h) := (B1.cell (p := ⟨hb, 0, none⟩) hl).trans hh
  have x1 : W.cell? ⟨w.heap.size, 1, none⟩ = some (.int .i64 x.host) := by rw [h1]; exact cell_of (box_new _ _ _) rfl
  have HR := Lib.hid hr
  clear hh B1 hr
  rw [h1] at x0 x1
  go_enter Tryz.func94, Tryz.ntmps94
  go_wp2_with (fail)
  rw [← h1]
  go_ret
  exact ⟨(show Ending.returned (.bool (x.host == h)) = .returned (.bool r) by rw [HR.out]), HB.out⟩
/-- A scene's boxes in one, as it is captured. -/
def ScAt (X : World) (b : Nat) (z : Sn) : Prop := X.cell? ⟨b, 0, none⟩ = some (.slice z.p.a1 z.s.feeds.length z.p.c1) ∧ X.cell? ⟨b, 1, none⟩ = some (.slice z.p.a2 z.s.brks.length z.p.c2) ∧ X.cell? ⟨b, 2, none⟩ = some (.slice z.p.a3 z.s.loops.length z.p.c3) ∧ X.cell? ⟨b, 3, none⟩ = some (.slice z.p.a4 z.s.racks.length z.p.c4) ∧ X.cell? ⟨b, 4, none⟩ = some (.int .i64 z.s.sw) ∧ X.cell? ⟨b, 5, none⟩ = some (.slice z.p.a5 z.s.links.length z.p.c5) ∧ X.cell? ⟨b, 6, none⟩ = some (.slice z.p.a6 z.s.hosts.length z.p.c6) ∧ X.cell? ⟨b, 7, none⟩ = some (.slice z.A z.xs.length z.c) ∧ X.cell? ⟨b, 8, none⟩ = some (.slice z.q.a1 z.d.hosts.length z.q.c1) ∧ X.cell? ⟨b, 9, none⟩ = some (.slice z.q.a2 z.d.reps.length z.q.c2)
set_option maxHeartbeats 4000000 in
theorem c_aparts1 (z : Sn) (sb ob : Nat) (o h : Int) (r : Bool) (hr : hasB z.d.reps ⟨o, h⟩ = r) (w : World) (hz : SnAt w z) (hs : ScAt w sb z) (ho : w.cell? ⟨ob, 0, none⟩ = some (.int .i64 o)) :
    Calls Tryz.prog 99 #[.int .i64 h, .pointer (some ⟨sb, 0, none⟩), .pointer (some ⟨ob, 0, none⟩)] w fun e w' => e = .returned (.bool r) ∧ Below w.heap.size w w' := by
  have HC := Lib.hid (c_hasTo z o h r hr w hz)
  obtain ⟨f0, f1, f2, f3, f4, f5, f6, f7, f8, f9⟩ := hs
  clear hr hz
  go_enter Tryz.func99, Tryz.ntmps99
  go_wp2_with (fail)
  go_at_call 100
  refine HC.out.mono ?_
  rintro e w1 ⟨rfl, bb⟩
  have HB1 := Lib.hid bb
  clear bb f0 f1 f2 f3 f4 f5 f6 f7 f8 f9 ho
  go_wp2_with (fail)
  go_ret
  exact ⟨rfl, HB1.out⟩
set_option maxHeartbeats 4000000 in
theorem c_nears1 (z : Sn) (sb nb : Nat) (x : Nr) (h : Int) (r : Bool) (hr : hasB z.d.reps ⟨x.svc, h⟩ = r) (w : World) (hz : SnAt w z) (hs : ScAt w sb z) (ho : w.cell? ⟨nb, 0, none⟩ = some (.int .i64 x.svc)) :
    Calls Tryz.prog 102 #[.int .i64 h, .pointer (some ⟨sb, 0, none⟩), .pointer (some ⟨nb, 0, none⟩)] w fun e w' => e = .returned (.bool r) ∧ Below w.heap.size w w' := by
  have HC := Lib.hid (c_hasTo z x.svc h r hr w hz)
  obtain ⟨f0, f1, f2, f3, f4, f5, f6, f7, f8, f9⟩ := hs
  clear hr hz
  go_enter Tryz.func102, Tryz.ntmps102
  go_wp2_with (fail)
  go_at_call 100
  refine HC.out.mono ?_
  rintro e w1 ⟨rfl, bb⟩
  have HB1 := Lib.hid bb
  clear bb f0 f1 f2 f3 f4 f5 f6 f7 f8 f9 ho
  go_wp2_with (fail)
  go_ret
  exact ⟨rfl, HB1.out⟩
theorem c_withinTo (z : Sn) (a most : Int) (l : List Int) (hl : nats (witI z.s a most) = l) (w : World) (h : SnAt w z) :
    Calls Tryz.prog 104 #[.agg #[.slice z.p.a1 z.s.feeds.length z.p.c1, .slice z.p.a2 z.s.brks.length z.p.c2, .slice z.p.a3 z.s.loops.length z.p.c3, .slice z.p.a4 z.s.racks.length z.p.c4, .int .i64 z.s.sw, .slice z.p.a5 z.s.links.length z.p.c5, .slice z.p.a6 z.s.hosts.length z.p.c6], .int .i64 a, .int .i64 most] w fun e w' => ∃ A c, e = .returned (.slice A l.length c) ∧ Rw 1 inF w' A c l ∧ Below w.heap.size w w' := by
  subst hl
  refine (c_neWithin z.p z.s a most _ rfl w h.si).mono fun e w' q => ?_
  obtain ⟨v, e1, ho, hb⟩ := q
  obtain ⟨A, c, rfl, hr⟩ := own_rw ho
  exact ⟨A, c, e1, hr, hb⟩
set_option maxHeartbeats 8000000 in
theorem c_nears2 (z : Sn) (sb nb fb : Nat) (x : Nr) (h : Int) (r : Bool) (hr : (!nerB z.s z.d x h) = r) (w : World) (hz : SnAt w z) (hs : ∀ X, Below w.heap.size w X → ScAt X sb z) (ho : ∀ X, Below w.heap.size w X → X.cell? ⟨nb, 0, none⟩ = some (.int .i64 x.svc) ∧ X.cell? ⟨nb, 1, none⟩ = some (.int .i64 x.lat)) (hf : ∀ X, Below w.heap.size w X → X.cell? ⟨fb, 0, none⟩ = some (.func (.func 102) #[] #[.pointer (some ⟨sb, 0, none⟩), .pointer (some ⟨nb, 0, none⟩)])) :
    Calls Tryz.prog 103 #[.int .i64 h, .pointer (some ⟨sb, 0, none⟩), .pointer (some ⟨nb, 0, none⟩), .pointer (some ⟨fb, 0, none⟩)] w fun e w' => e = .returned (.bool r) ∧ Below w.heap.size w w' := by
  obtain ⟨l, hl⟩ : ∃ l, nats (witI z.s h x.lat) = l := ⟨_, rfl⟩
  have HL := Lib.hid hl
  have HSN := Lib.hid (fun (X : World) (hX : Below w.heap.size w X) => hz.on hX (Nat.le_refl _))
  have HS := Lib.hid hs
  have HO := Lib.hid ho
  obtain ⟨b, hb⟩ : ∃ b, l.any (fun k => hasB z.d.reps ⟨x.svc, k⟩) = b := ⟨_, rfl⟩
  have HBB := Lib.hid hb
  obtain rfl : (!b) = r := by rw [← hr, ← hb, ← hl]; rfl
  have HC := Lib.hid (fun (X : World) (hX : Below w.heap.size w X) => (by
    obtain ⟨f0, f1, f2, f3, f4, f5, f6, f7, f8, f9⟩ := hs X hX
    exact ⟨f0, f1, f2, f3, f4, f5, f6, f7, f8, f9, (ho X hX).2, hf X hX⟩ : X.cell? ⟨sb, 0, none⟩ = some (.slice z.p.a1 z.s.feeds.length z.p.c1) ∧ X.cell? ⟨sb, 1, none⟩ = some (.slice z.p.a2 z.s.brks.length z.p.c2) ∧ X.cell? ⟨sb, 2, none⟩ = some (.slice z.p.a3 z.s.loops.length z.p.c3) ∧ X.cell? ⟨sb, 3, none⟩ = some (.slice z.p.a4 z.s.racks.length z.p.c4) ∧ X.cell? ⟨sb, 4, none⟩ = some (.int .i64 z.s.sw) ∧ X.cell? ⟨sb, 5, none⟩ = some (.slice z.p.a5 z.s.links.length z.p.c5) ∧ X.cell? ⟨sb, 6, none⟩ = some (.slice z.p.a6 z.s.hosts.length z.p.c6) ∧ X.cell? ⟨sb, 7, none⟩ = some (.slice z.A z.xs.length z.c) ∧ X.cell? ⟨sb, 8, none⟩ = some (.slice z.q.a1 z.d.hosts.length z.q.c1) ∧ X.cell? ⟨sb, 9, none⟩ = some (.slice z.q.a2 z.d.reps.length z.q.c2) ∧ X.cell? ⟨nb, 1, none⟩ = some (.int .i64 x.lat) ∧ X.cell? ⟨fb, 0, none⟩ = some (.func (.func 102) #[] #[.pointer (some ⟨sb, 0, none⟩), .pointer (some ⟨nb, 0, none⟩)])))
  have HCF := Lib.hid (fun (X : World) (hX : Below w.heap.size w X) (A : Option Addr) (c : Nat) (hA : Rw 1 inF X A c l) => c_CFN (fun k => hasB z.d.reps ⟨x.svc, k⟩) sb nb A c l X hA (fun Y hY y r _ hr => c_nears1 z sb nb x y r hr Y (HSN.out Y (below_join hX hY hX.size)) (HS.out Y (below_join hX hY hX.size)) (HO.out Y (below_join hX hY hX.size)).1) b HBB.out)
  have HKw := Lib.hid (Below.refl w.heap.size w)
  clear hl hb hz hs ho hf hr
  go_enter Tryz.func103, Tryz.ntmps103
  go_wp2_with (fail)
  go_region_held3 (fun X => X.cell? ⟨sb, 0, none⟩ = some (.slice z.p.a1 z.s.feeds.length z.p.c1) ∧ X.cell? ⟨sb, 1, none⟩ = some (.slice z.p.a2 z.s.brks.length z.p.c2) ∧ X.cell? ⟨sb, 2, none⟩ = some (.slice z.p.a3 z.s.loops.length z.p.c3) ∧ X.cell? ⟨sb, 3, none⟩ = some (.slice z.p.a4 z.s.racks.length z.p.c4) ∧ X.cell? ⟨sb, 4, none⟩ = some (.int .i64 z.s.sw) ∧ X.cell? ⟨sb, 5, none⟩ = some (.slice z.p.a5 z.s.links.length z.p.c5) ∧ X.cell? ⟨sb, 6, none⟩ = some (.slice z.p.a6 z.s.hosts.length z.p.c6) ∧ X.cell? ⟨sb, 7, none⟩ = some (.slice z.A z.xs.length z.c) ∧ X.cell? ⟨sb, 8, none⟩ = some (.slice z.q.a1 z.d.hosts.length z.q.c1) ∧ X.cell? ⟨sb, 9, none⟩ = some (.slice z.q.a2 z.d.reps.length z.q.c2) ∧ X.cell? ⟨nb, 1, none⟩ = some (.int .i64 x.lat) ∧ X.cell? ⟨fb, 0, none⟩ = some (.func (.func 102) #[] #[.pointer (some ⟨sb, 0, none⟩), .pointer (some ⟨nb, 0, none⟩)]))
    (first | exact HC.out v202 HKv202.out | exact HC.out v201 HKv201.out | exact HC.out w HKw.out | fail)
    (first
      | (go_at_call 104; (with_reducible refine (c_withinTo z h x.lat l HL.out w.drew (HSN.out _ HKw.out.drew)).mono ?_); rintro e v201 ⟨A1, q1, rfl, rw1, bb0⟩; have bb := below_join (Below.refl w.heap.size w).drew bb0 (Nat.le_refl _); have HKv201 := Lib.hid (below_join HKw.out bb HKw.out.size); have RWv201 := Lib.hid rw1; clear rw1; clear bb bb0)
      | (go_at_call 101; (with_reducible refine (HCF.out v201 HKv201.out _ _ RWv201.out).mono ?_); rintro e v202 ⟨rfl, bb0⟩; have bb := below_join (Below.refl v201.heap.size v201) bb0 (Nat.le_refl _); have HKv202 := Lib.hid (below_join HKv201.out bb HKv201.out.size); have RWv202 := Lib.hid (RWv201.out.on bb (Nat.le_refl _)); clear bb bb0)
      | fail)
  go_wp2_with (fail)
  go_ret
  exact ⟨rfl, HKv202.out⟩
end Go.Proofs.YtbbadnlaelgmlaaGreat

namespace Go.Proofs.YtbbadnlaelgmlaaGreat
open Go.RowKit
set_option maxRecDepth 100000
set_option linter.unusedVariables false
set_option linter.unusedSimpArgs false

set_option maxHeartbeats 16000000 in
theorem c_findPhases (z : Sn) (W0 : World) (g kb : Nat) (fv : Value) (l : List Bn) (ok : z.Ok) (hl : l.length ≤ 5000) (w : World) (h : Fnd z W0 g kb 2 fv l w) :
    Calls Tryz.prog 50 #[.agg #[.slice z.p.a1 z.s.feeds.length z.p.c1, .slice z.p.a2 z.s.brks.length z.p.c2, .slice z.p.a3 z.s.loops.length z.p.c3, .slice z.p.a4 z.s.racks.length z.p.c4, .int .i64 z.s.sw, .slice z.p.a5 z.s.links.length z.p.c5, .slice z.p.a6 z.s.hosts.length z.p.c6, .slice z.A z.xs.length z.c, .slice z.q.a1 z.d.hosts.length z.q.c1, .slice z.q.a2 z.d.reps.length z.q.c2], .func (.func 29) #[] #[.pointer (some ⟨g, 0, none⟩), .pointer (some ⟨kb, 0, none⟩)]] w fun e w' => e = .returned (.tuple #[]) ∧ Fnd z W0 g kb 2 fv (l ++ bnK z.s z.ss z.d 2) w' ∧ Kg g w w' := by
  obtain ⟨W, h1⟩ : ∃ W, W = w.alloc (.cells #[.slice z.p.a1 z.s.feeds.length z.p.c1, .slice z.p.a2 z.s.brks.length z.p.c2, .slice z.p.a3 z.s.loops.length z.p.c3, .slice z.p.a4 z.s.racks.length z.p.c4, .int .i64 z.s.sw, .slice z.p.a5 z.s.links.length z.p.c5, .slice z.p.a6 z.s.hosts.length z.p.c6, .slice z.A z.xs.length z.c, .slice z.q.a1 z.d.hosts.length z.q.c1, .slice z.q.a2 z.d.reps.length z.q.c2] 71) := ⟨_, rfl⟩
  have B1 : Below w.heap.size w W := by rw [h1]; exact (Below.refl _ _).alloc (Nat.le_refl _) _
  have L0 : Loc g W w.heap.size (.cells #[.slice z.p.a1 z.s.feeds.length z.p.c1, .slice z.p.a2 z.s.brks.length z.p.c2, .slice z.p.a3 z.s.loops.length z.p.c3, .slice z.p.a4 z.s.racks.length z.p.c4, .int .i64 z.s.sw, .slice z.p.a5 z.s.links.length z.p.c5, .slice z.p.a6 z.s.hosts.length z.p.c6, .slice z.A z.xs.length z.c, .slice z.q.a1 z.d.hosts.length z.q.c1, .slice z.q.a2 z.d.reps.length z.q.c2] 71 (0, 0)) := by rw [h1]; exact h.new _
  have HF := Lib.hid (h.on B1)
  have HKG := Lib.hid (h.kg B1)
  have HS := Lib.hid (fun (X : World) (hX : Kg g W X) => (scn_cells (L0.on hX) : X.cell? ⟨w.heap.size, 0, none⟩ = some (.slice z.p.a1 z.s.feeds.length z.p.c1) ∧ X.cell? ⟨w.heap.size, 1, none⟩ = some (.slice z.p.a2 z.s.brks.length z.p.c2) ∧ X.cell? ⟨w.heap.size, 2, none⟩ = some (.slice z.p.a3 z.s.loops.length z.p.c3) ∧ X.cell? ⟨w.heap.size, 3, none⟩ = some (.slice z.p.a4 z.s.racks.length z.p.c4) ∧ X.cell? ⟨w.heap.size, 4, none⟩ = some (.int .i64 z.s.sw) ∧ X.cell? ⟨w.heap.size, 5, none⟩ = some (.slice z.p.a5 z.s.links.length z.p.c5) ∧ X.cell? ⟨w.heap.size, 6, none⟩ = some (.slice z.p.a6 z.s.hosts.length z.p.c6) ∧ X.cell? ⟨w.heap.size, 7, none⟩ = some (.slice z.A z.xs.length z.c) ∧ X.cell? ⟨w.heap.size, 8, none⟩ = some (.slice z.q.a1 z.d.hosts.length z.q.c1) ∧ X.cell? ⟨w.heap.size, 9, none⟩ = some (.slice z.q.a2 z.d.reps.length z.q.c2)))
  have HK0 := Lib.hid (Kg.refl g W)
  obtain ⟨n1, n2, n3, n4, n5, n6, n7, n8⟩ := h.snx.bounds
  have HOK := Lib.hid ok
  have HL := Lib.hid hl
  have HPO : ∀ X, Fnd z W0 g kb 2 fv (l ++ bnK z.s z.ss z.d 2) X → Kg g W X → (Ending.returned (.tuple #[]) = .returned (.tuple #[]) ∧ Fnd z W0 g kb 2 fv (l ++ bnK z.s z.ss z.d 2) X ∧ Kg g w X) := fun X hx hk => ⟨rfl, hx, HKG.out.trans hk⟩
  obtain ⟨Q, hQ⟩ : ∃ Q : Ending → World → Prop, Q = fun e w' => e = .returned (.tuple #[]) ∧ Fnd z W0 g kb 2 fv (l ++ bnK z.s z.ss z.d 2) w' ∧ Kg g w w' := ⟨_, rfl⟩
  have HQ := Lib.hid (fun X hx hk => (by rw [hQ]; exact HPO X hx hk : Q (.returned (.tuple #[])) X))
  rw [← hQ]
  clear h B1 L0 hl HKG HPO hQ ok
  obtain ⟨f0, f1, f2, f3, f4, f5, f6, f7, f8, f9⟩ := HS.out W HK0.out
  rw [h1] at f0 f1 f2 f3 f4 f5 f6 f7 f8 f9
  generalize hBB : w.heap.size = B at *
  go_enter Tryz.func50, Tryz.ntmps50
  go_wp2_with (fail)
  rw [← h1]
  clear h1 f0 f1 f2 f3 f4 f5 f6 f7 f8 f9
  have hnn := few_hosts HOK.out
  have HSM := Lib.hid (hosts_same HOK.out)
  go_loopw [4, 5, 10] (fun h4 h5 i wr => ∃ k : Nat, k ≤ z.s.hosts.length ∧ i = .int .i64 (k : Int) ∧ Hid (Fnd z W0 g kb 2 fv (l ++ bk1 2 (bnPha z.d) k) wr) ∧ Hid (Kg g W wr)) (fun _ _ i _ => z.s.hosts.length - (intOf i).toNat)
  case atStart => exact ⟨0, Nat.zero_le _, rfl, Lib.hid (by rw [bk1_zero, List.append_nil]; exact HF.out), HK0⟩
  case round =>
    obtain ⟨k, hk, rfl, hFr, hKr⟩ := hrel
    have hki : ((k : Nat) : Int).toNat = k := by omega
    by_cases hlt : k < z.s.hosts.length
    · obtain ⟨x, hx⟩ : ∃ x, z.d.hosts[k]? = some x := ⟨_, List.getElem?_eq_getElem (by have := HSM.out; omega)⟩
      have hki2 : (k : Int) < (z.s.hosts.length : Int) := by omega
      have hki3 : (k : Int) < (z.d.hosts.length : Int) := by have := HSM.out; omega
      obtain ⟨m, hm⟩ : ∃ m, l ++ bk1 2 (bnPha z.d) k = m := ⟨_, rfl⟩
      have HSU := Lib.hid (show l ++ bk1 2 (bnPha z.d) (k + 1) = m ++ bk0 2 k ((bnPha z.d) k) by rw [bk1_succ, ← List.append_assoc, hm])
      have HML := Lib.hid (show m.length ≤ 10000 by rw [← hm, List.length_append]; have := bk1_len 2 (bnPha z.d) k; have := HL.out; omega)
      rw [hm] at hFr
      clear hm
      have hsn := hFr.out.snx
      obtain ⟨pb, po, e6, hpb, x0⟩ := ho_at hsn hx
      obtain ⟨V, hV⟩ : ∃ X, X = wr.alloc (.cells #[.int .i64 (k : Int)] 3) := ⟨_, rfl⟩
      have bV : Below wr.heap.size wr V := by rw [hV]; exact (Below.refl _ _).alloc (Nat.le_refl _) _
      have LV : Loc g V wr.heap.size (.cells #[.int .i64 (k : Int)] 3 (0, 0)) := by rw [hV]; exact hFr.out.new _
      have HFV := Lib.hid (hFr.out.on bV)
      have HKV := Lib.hid (hKr.out.trans (hFr.out.kg bV))
      have HC := Lib.hid (fun (X : World) (hX : Below V.heap.size V X) => (by
        have hk2 := HFV.out.kg hX
        have hbx := bV.trans (hX.mono bV.size)
        obtain ⟨f0, f1, f2, f3, f4, f5, f6, f7, f8, f9⟩ := HS.out X (HKV.out.trans hk2)
        rw [e6] at f8
        exact ⟨f0, f1, f2, f3, f4, f5, f6, f7, f8, f9, (hbx.cell (p := ⟨pb, po + k * 2, none⟩) hpb).trans x0, (LV.on hk2).cell rfl⟩ : X.cell? ⟨B, 0, none⟩ = some (.slice z.p.a1 z.s.feeds.length z.p.c1) ∧ X.cell? ⟨B, 1, none⟩ = some (.slice z.p.a2 z.s.brks.length z.p.c2) ∧ X.cell? ⟨B, 2, none⟩ = some (.slice z.p.a3 z.s.loops.length z.p.c3) ∧ X.cell? ⟨B, 3, none⟩ = some (.slice z.p.a4 z.s.racks.length z.p.c4) ∧ X.cell? ⟨B, 4, none⟩ = some (.int .i64 z.s.sw) ∧ X.cell? ⟨B, 5, none⟩ = some (.slice z.p.a5 z.s.links.length z.p.c5) ∧ X.cell? ⟨B, 6, none⟩ = some (.slice z.p.a6 z.s.hosts.length z.p.c6) ∧ X.cell? ⟨B, 7, none⟩ = some (.slice z.A z.xs.length z.c) ∧ X.cell? ⟨B, 8, none⟩ = some (.slice (some ⟨pb, po, none⟩) z.d.hosts.length z.q.c1) ∧ X.cell? ⟨B, 9, none⟩ = some (.slice z.q.a2 z.d.reps.length z.q.c2) ∧ X.cell? ⟨pb, po + k * 2, none⟩ = some (.int .u8 (x.phase : Int)) ∧ X.cell? ⟨wr.heap.size, 0, none⟩ = some (.int .i64 (k : Int))))
      have HSN := Lib.hid (fun (X : World) (hX : Below V.heap.size V X) => (HFV.out.on hX).snx)
      have HKbV := Lib.hid (Below.refl V.heap.size V)
      have hvb : wr.heap.size < V.heap.size := by rw [hV, World.size_alloc]; omega
      have hPH := phAt_eq hx
      have HPH := Lib.hid hPH
      obtain ⟨b, hb⟩ : ∃ b, isOn z.d.reps (k : Int) = b := ⟨_, rfl⟩
      have HON := Lib.hid hb
      have HCF := Lib.hid (fun (X : World) (hX : Below V.heap.size V X) => c_CFP (fun r => r.host == (k : Int)) wr.heap.size z.q.a2 z.q.c2 z.d.reps X (HSN.out X hX).wo.reps (fun Y hY y r _ hr => c_phases1 wr.heap.size (k : Int) y r hr Y (((hX.trans (hY.mono hX.size)).cell (p := ⟨wr.heap.size, 0, none⟩) hvb).trans (LV.cell rfl)) (Nat.lt_of_lt_of_le hvb (Nat.le_trans hX.size hY.size))) b HON.out)
      clear hx x0 e6 hPH hb
      obtain ⟨f0, f1, f2, f3, f4, f5, f6, f7, f8, f9, c0, c1⟩ := HC.out V HKbV.out
      rw [hV] at f0 f1 f2 f3 f4 f5 f6 f7 f8 f9 c0 c1
      rcases t0 : ((x.phase : Int) == 2) with _ | _
      · rcases t1 : ((x.phase : Int) == 3) with _ | _
        · rcases t2 : ((x.phase : Int) == 4) with _ | _
          · have HT0 := Lib.hid t0
            have HT1 := Lib.hid t1
            have HT2 := Lib.hid t2
            have hp : ¬ (2 ≤ x.phase ∧ x.phase ≤ 4) := by
              have e2 := HT0.out; have e3 := HT1.out; have e4 := HT2.out
              rw [beq_eq_false_iff_ne] at e2 e3 e4
              omega
            have HSK := Lib.hid (show l ++ bk1 2 (bnPha z.d) (k + 1) = m ++ [] by rw [HSU.out, show (bnPha z.d) k = false from (by unfold bnPha; rw [HPH.out, ← Bool.decide_and, decide_eq_false hp]; rfl)]; rfl)
            clear hp
            go_wp2_with (fail)
            rw [← hV]
            clear hV f0 f1 f2 f3 f4 f5 f6 f7 f8 f9 c0 c1
            go_roundw
            case rel => exact ⟨k + 1, by omega, by go_num, Lib.hid (by rw [HSK.out, List.append_nil]; exact HFV.out.on HKbV.out), Lib.hid (HKV.out.trans (HFV.out.kg HKbV.out))⟩
            case measure => simp only [intOf]; omega
          · have HT0 := Lib.hid t0
            have HT1 := Lib.hid t1
            have HT2 := Lib.hid t2
            have hp : x.phase = 4 := by have := eq_of_beq HT2.out; omega
            have HP := Lib.hid hp
            clear hp
            go_wp2_with (fail)
            rw [← hV]
            clear hV f0 f1 f2 f3 f4 f5 f6 f7 f8 f9 c0 c1
            go_at_call 47
            refine (HCF.out V HKbV.out).mono ?_
            rintro e v1 ⟨rfl, bb⟩
            have HKbv1 := Lib.hid (below_join HKbV.out bb HKbV.out.size)
            clear bb
            obtain ⟨f0, f1, f2, f3, f4, f5, f6, f7, f8, f9, c0, c1⟩ := HC.out v1 HKbv1.out
            rcases b with _ | _
            · have HSK := Lib.hid (show l ++ bk1 2 (bnPha z.d) (k + 1) = m ++ [] by rw [HSU.out, show (bnPha z.d) k = false from (by unfold bnPha; rw [HPH.out, HP.out, HON.out]; rfl)]; rfl)
              go_wp2_with (fail)
              clear f0 f1 f2 f3 f4 f5 f6 f7 f8 f9 c0 c1
              go_roundw
              case rel => exact ⟨k + 1, by omega, by go_num, Lib.hid (by rw [HSK.out, List.append_nil]; exact HFV.out.on HKbv1.out), Lib.hid (HKV.out.trans (HFV.out.kg HKbv1.out))⟩
              case measure => simp only [intOf]; omega
            · have HSK := Lib.hid (show l ++ bk1 2 (bnPha z.d) (k + 1) = m ++ [⟨2, (k : Int), 0⟩] by rw [HSU.out, show (bnPha z.d) k = true from (by unfold bnPha; rw [HPH.out, HP.out, HON.out]; rfl)]; rfl)
              go_wp2_with (fail)
              clear f0 f1 f2 f3 f4 f5 f6 f7 f8 f9 c0 c1
              go_at_call 29
              refine (c_coll z W0 g kb 2 fv m (k : Int) 0 v1 (HFV.out.on HKbv1.out) HML.out).mono ?_
              rintro e y ⟨rfl, fy, ky⟩
              have HY := Lib.hid fy
              have HKY := Lib.hid ((HKV.out.trans (HFV.out.kg HKbv1.out)).trans ky)
              clear fy ky
              go_wp2_with (fail)
              go_roundw
              case rel => exact ⟨k + 1, by omega, by go_num, Lib.hid (by rw [HSK.out]; exact HY.out), HKY⟩
              case measure => simp only [intOf]; omega
        · have HT0 := Lib.hid t0
          have HT1 := Lib.hid t1
          have hp : x.phase = 3 := by have := eq_of_beq HT1.out; omega
          have HP := Lib.hid hp
          clear hp
          go_wp2_with (fail)
          rw [← hV]
          clear hV f0 f1 f2 f3 f4 f5 f6 f7 f8 f9 c0 c1
          go_at_call 47
          refine (HCF.out V HKbV.out).mono ?_
          rintro e v1 ⟨rfl, bb⟩
          have HKbv1 := Lib.hid (below_join HKbV.out bb HKbV.out.size)
          clear bb
          obtain ⟨f0, f1, f2, f3, f4, f5, f6, f7, f8, f9, c0, c1⟩ := HC.out v1 HKbv1.out
          rcases b with _ | _
          · have HSK := Lib.hid (show l ++ bk1 2 (bnPha z.d) (k + 1) = m ++ [] by rw [HSU.out, show (bnPha z.d) k = false from (by unfold bnPha; rw [HPH.out, HP.out, HON.out]; rfl)]; rfl)
            go_wp2_with (fail)
            clear f0 f1 f2 f3 f4 f5 f6 f7 f8 f9 c0 c1
            go_roundw
            case rel => exact ⟨k + 1, by omega, by go_num, Lib.hid (by rw [HSK.out, List.append_nil]; exact HFV.out.on HKbv1.out), Lib.hid (HKV.out.trans (HFV.out.kg HKbv1.out))⟩
            case measure => simp only [intOf]; omega
          · have HSK := Lib.hid (show l ++ bk1 2 (bnPha z.d) (k + 1) = m ++ [⟨2, (k : Int), 0⟩] by rw [HSU.out, show (bnPha z.d) k = true from (by unfold bnPha; rw [HPH.out, HP.out, HON.out]; rfl)]; rfl)
            go_wp2_with (fail)
            clear f0 f1 f2 f3 f4 f5 f6 f7 f8 f9 c0 c1
            go_at_call 29
            refine (c_coll z W0 g kb 2 fv m (k : Int) 0 v1 (HFV.out.on HKbv1.out) HML.out).mono ?_
            rintro e y ⟨rfl, fy, ky⟩
            have HY := Lib.hid fy
            have HKY := Lib.hid ((HKV.out.trans (HFV.out.kg HKbv1.out)).trans ky)
            clear fy ky
            go_wp2_with (fail)
            go_roundw
            case rel => exact ⟨k + 1, by omega, by go_num, Lib.hid (by rw [HSK.out]; exact HY.out), HKY⟩
            case measure => simp only [intOf]; omega
      · have HT0 := Lib.hid t0
        have hp : x.phase = 2 := by have := eq_of_beq HT0.out; omega
        have HP := Lib.hid hp
        clear hp
        go_wp2_with (fail)
        rw [← hV]
        clear hV f0 f1 f2 f3 f4 f5 f6 f7 f8 f9 c0 c1
        go_at_call 47
        refine (HCF.out V HKbV.out).mono ?_
        rintro e v1 ⟨rfl, bb⟩
        have HKbv1 := Lib.hid (below_join HKbV.out bb HKbV.out.size)
        clear bb
        obtain ⟨f0, f1, f2, f3, f4, f5, f6, f7, f8, f9, c0, c1⟩ := HC.out v1 HKbv1.out
        rcases b with _ | _
        · have HSK := Lib.hid (show l ++ bk1 2 (bnPha z.d) (k + 1) = m ++ [] by rw [HSU.out, show (bnPha z.d) k = false from (by unfold bnPha; rw [HPH.out, HP.out, HON.out]; rfl)]; rfl)
          go_wp2_with (fail)
          clear f0 f1 f2 f3 f4 f5 f6 f7 f8 f9 c0 c1
          go_roundw
          case rel => exact ⟨k + 1, by omega, by go_num, Lib.hid (by rw [HSK.out, List.append_nil]; exact HFV.out.on HKbv1.out), Lib.hid (HKV.out.trans (HFV.out.kg HKbv1.out))⟩
          case measure => simp only [intOf]; omega
        · have HSK := Lib.hid (show l ++ bk1 2 (bnPha z.d) (k + 1) = m ++ [⟨2, (k : Int), 0⟩] by rw [HSU.out, show (bnPha z.d) k = true from (by unfold bnPha; rw [HPH.out, HP.out, HON.out]; rfl)]; rfl)
          go_wp2_with (fail)
          clear f0 f1 f2 f3 f4 f5 f6 f7 f8 f9 c0 c1
          go_at_call 29
          refine (c_coll z W0 g kb 2 fv m (k : Int) 0 v1 (HFV.out.on HKbv1.out) HML.out).mono ?_
          rintro e y ⟨rfl, fy, ky⟩
          have HY := Lib.hid fy
          have HKY := Lib.hid ((HKV.out.trans (HFV.out.kg HKbv1.out)).trans ky)
          clear fy ky
          go_wp2_with (fail)
          go_roundw
          case rel => exact ⟨k + 1, by omega, by go_num, Lib.hid (by rw [HSK.out]; exact HY.out), HKY⟩
          case measure => simp only [intOf]; omega
    · obtain rfl : k = z.s.hosts.length := by omega
      go_wp2_with (fail)
      go_end0
      exact HQ.out _ (by have := hFr.out; unfold bnK; exact this) hKr.out
end Go.Proofs.YtbbadnlaelgmlaaGreat

namespace Go.Proofs.YtbbadnlaelgmlaaGreat
set_option linter.unusedVariables false
set_option linter.unusedSimpArgs false
set_option maxRecDepth 100000

theorem oth_len0 {own many : Int} : ∀ {l : List Int} {last : Int}, last < many → othGo own many last l = true → (l.length : Int) + last + 1 ≤ many := by
  intro l
  induction l with
  | nil => intro last h _; simp; omega
  | cons y l ih =>
    intro last h0 h
    rw [othGo] at h
    split at h
    · cases h
    · rename_i hn
      have h1 : ¬ y ≤ last := fun k => hn (.inl k)
      have h2 : ¬ many ≤ y := fun k => hn (.inr (.inl k))
      have := ih (by omega) h
      rw [List.length_cons]
      omega
theorem oth_len {own : Int} {n : Nat} {l : List Int} (h : othB own n l = true) : l.length ≤ n := by
  have := oth_len0 (by omega) h
  omega
theorem svc_names {ss : List Svc} (h : WishOk ss) {i : Nat} (hi : i < ss.length) : othB i ss.length (svAt ss i).apart = true ∧ othB i ss.length ((svAt ss i).near.map (·.svc)) = true ∧ keepB (svAt ss i) = true := by
  have h2 := h.2.1 i _ (List.getElem?_eq_getElem hi)
  rw [svAt_eq (List.getElem?_eq_getElem hi)]
  unfold svcB nameB at h2
  rw [Bool.and_eq_true, Bool.and_eq_true] at h2
  exact ⟨h2.2.1, h2.2.2, h2.1⟩
/-! What stops and starts change. -/
end Go.Proofs.YtbbadnlaelgmlaaGreat

namespace Go.Proofs.YtbbadnlaelgmlaaGreat
open Go.RowKit
set_option maxRecDepth 100000
set_option linter.unusedVariables false
set_option linter.unusedSimpArgs false

theorem apt_len {z : Sn} (ok : z.Ok) (i : Nat) (hi : i < z.xs.length) : (bnApt z.ss z.d i).length ≤ 100 := by
  unfold bnApt
  refine Nat.le_trans (List.length_filter_le _ _) ?_
  have h := (svc_names ok.2.1 (i := i) (by unfold Sn.ss; rw [svs_len]; exact hi)).1
  exact Nat.le_trans (oth_len h) (by have := few_svcs ok; unfold Sn.ss; rw [svs_len]; omega)
theorem nea_len {z : Sn} (ok : z.Ok) (i : Nat) (hi : i < z.xs.length) : (bnNea z.s z.ss z.d i).length ≤ 100 := by
  unfold bnNea
  rw [List.length_map]
  refine Nat.le_trans (List.length_filter_le _ _) ?_
  have h := (svc_names ok.2.1 (i := i) (by unfold Sn.ss; rw [svs_len]; exact hi)).2.1
  have h2 := oth_len h
  rw [List.length_map] at h2
  exact Nat.le_trans h2 (by have := few_svcs ok; unfold Sn.ss; rw [svs_len]; omega)
theorem filt_take {α : Type} {l : List α} {j : Nat} {y : α} (h : l[j]? = some y) (p : α → Bool) : (l.take (j + 1)).filter p = (l.take j).filter p ++ if p y = true then [y] else [] := by
  rw [List.take_add_one, h, List.filter_append]
  congr 1
  rcases hp : p y with _ | _ <;> simp [hp]
set_option maxHeartbeats 16000000 in
theorem c_findAparts (z : Sn) (W0 : World) (g kb : Nat) (fv : Value) (l : List Bn) (ok : z.Ok) (hl : l.length ≤ 5000) (w : World) (h : Fnd z W0 g kb 5 fv l w) :
    Calls Tryz.prog 53 #[.agg #[.slice z.p.a1 z.s.feeds.length z.p.c1, .slice z.p.a2 z.s.brks.length z.p.c2, .slice z.p.a3 z.s.loops.length z.p.c3, .slice z.p.a4 z.s.racks.length z.p.c4, .int .i64 z.s.sw, .slice z.p.a5 z.s.links.length z.p.c5, .slice z.p.a6 z.s.hosts.length z.p.c6, .slice z.A z.xs.length z.c, .slice z.q.a1 z.d.hosts.length z.q.c1, .slice z.q.a2 z.d.reps.length z.q.c2], .func (.func 29) #[] #[.pointer (some ⟨g, 0, none⟩), .pointer (some ⟨kb, 0, none⟩)]] w fun e w' => e = .returned (.tuple #[]) ∧ Fnd z W0 g kb 5 fv (l ++ bnK z.s z.ss z.d 5) w' ∧ Kg g w w' := by
  obtain ⟨W, h1⟩ : ∃ W, W = w.alloc (.cells #[.slice z.p.a1 z.s.feeds.length z.p.c1, .slice z.p.a2 z.s.brks.length z.p.c2, .slice z.p.a3 z.s.loops.length z.p.c3, .slice z.p.a4 z.s.racks.length z.p.c4, .int .i64 z.s.sw, .slice z.p.a5 z.s.links.length z.p.c5, .slice z.p.a6 z.s.hosts.length z.p.c6, .slice z.A z.xs.length z.c, .slice z.q.a1 z.d.hosts.length z.q.c1, .slice z.q.a2 z.d.reps.length z.q.c2] 71) := ⟨_, rfl⟩
  have B1 : Below w.heap.size w W := by rw [h1]; exact (Below.refl _ _).alloc (Nat.le_refl _) _
  have L0 : Loc g W w.heap.size (.cells #[.slice z.p.a1 z.s.feeds.length z.p.c1, .slice z.p.a2 z.s.brks.length z.p.c2, .slice z.p.a3 z.s.loops.length z.p.c3, .slice z.p.a4 z.s.racks.length z.p.c4, .int .i64 z.s.sw, .slice z.p.a5 z.s.links.length z.p.c5, .slice z.p.a6 z.s.hosts.length z.p.c6, .slice z.A z.xs.length z.c, .slice z.q.a1 z.d.hosts.length z.q.c1, .slice z.q.a2 z.d.reps.length z.q.c2] 71 (0, 0)) := by rw [h1]; exact h.new _
  have HF := Lib.hid (h.on B1)
  have HKG := Lib.hid (h.kg B1)
  have HS := Lib.hid (fun (X : World) (hX : Kg g W X) => (scn_cells (L0.on hX) : X.cell? ⟨w.heap.size, 0, none⟩ = some (.slice z.p.a1 z.s.feeds.length z.p.c1) ∧ X.cell? ⟨w.heap.size, 1, none⟩ = some (.slice z.p.a2 z.s.brks.length z.p.c2) ∧ X.cell? ⟨w.heap.size, 2, none⟩ = some (.slice z.p.a3 z.s.loops.length z.p.c3) ∧ X.cell? ⟨w.heap.size, 3, none⟩ = some (.slice z.p.a4 z.s.racks.length z.p.c4) ∧ X.cell? ⟨w.heap.size, 4, none⟩ = some (.int .i64 z.s.sw) ∧ X.cell? ⟨w.heap.size, 5, none⟩ = some (.slice z.p.a5 z.s.links.length z.p.c5) ∧ X.cell? ⟨w.heap.size, 6, none⟩ = some (.slice z.p.a6 z.s.hosts.length z.p.c6) ∧ X.cell? ⟨w.heap.size, 7, none⟩ = some (.slice z.A z.xs.length z.c) ∧ X.cell? ⟨w.heap.size, 8, none⟩ = some (.slice z.q.a1 z.d.hosts.length z.q.c1) ∧ X.cell? ⟨w.heap.size, 9, none⟩ = some (.slice z.q.a2 z.d.reps.length z.q.c2)))
  have HK0 := Lib.hid (Kg.refl g W)
  obtain ⟨n1, n2, n3, n4, n5, n6, n7, n8⟩ := h.snx.bounds
  have HOK := Lib.hid ok
  have HL := Lib.hid hl
  have HPO : ∀ X, Fnd z W0 g kb 5 fv (l ++ bnK z.s z.ss z.d 5) X → Kg g W X → (Ending.returned (.tuple #[]) = .returned (.tuple #[]) ∧ Fnd z W0 g kb 5 fv (l ++ bnK z.s z.ss z.d 5) X ∧ Kg g w X) := fun X hx hk => ⟨rfl, hx, HKG.out.trans hk⟩
  obtain ⟨Q, hQ⟩ : ∃ Q : Ending → World → Prop, Q = fun e w' => e = .returned (.tuple #[]) ∧ Fnd z W0 g kb 5 fv (l ++ bnK z.s z.ss z.d 5) w' ∧ Kg g w w' := ⟨_, rfl⟩
  have HQ := Lib.hid (fun X hx hk => (by rw [hQ]; exact HPO X hx hk : Q (.returned (.tuple #[])) X))
  rw [← hQ]
  clear h B1 L0 hl HKG HPO hQ ok
  obtain ⟨f0, f1, f2, f3, f4, f5, f6, f7, f8, f9⟩ := HS.out W HK0.out
  rw [h1] at f0 f1 f2 f3 f4 f5 f6 f7 f8 f9
  generalize hBB : w.heap.size = B at *
  go_enter Tryz.func53, Tryz.ntmps53
  go_wp2_with (fail)
  rw [← h1]
  clear h1 f0 f1 f2 f3 f4 f5 f6 f7 f8 f9
  have hnn := few_svcs HOK.out
  have hrp := few_reps HOK.out
  go_loopw [13] (fun i wr => ∃ k : Nat, k ≤ z.xs.length ∧ i = .int .i64 (k : Int) ∧ Hid (Fnd z W0 g kb 5 fv (l ++ bk2 5 (bnApt z.ss z.d) k) wr) ∧ Hid (Kg g W wr)) (fun i _ => z.xs.length - (intOf i).toNat)
  case atStart => exact ⟨0, Nat.zero_le _, rfl, Lib.hid (by rw [bk2_zero, List.append_nil]; exact HF.out), HK0⟩
  case round =>
    obtain ⟨k, hk, rfl, hFr, hKr⟩ := hrel
    have hki : ((k : Nat) : Int).toNat = k := by omega
    by_cases hlt : k < z.xs.length
    · obtain ⟨x, hx⟩ : ∃ x, z.xs[k]? = some x := ⟨_, List.getElem?_eq_getElem hlt⟩
      have hki2 : (k : Int) < (z.xs.length : Int) := by omega
      obtain ⟨m, hm⟩ : ∃ m, l ++ bk2 5 (bnApt z.ss z.d) k = m := ⟨_, rfl⟩
      have HSV := Lib.hid (svAt_eq (show z.ss[k]? = some x.1 from svs_at hx))
      have HSU := Lib.hid (show l ++ bk2 5 (bnApt z.ss z.d) (k + 1) = m ++ ((bnApt z.ss z.d) k).map fun y => ⟨5, (k : Int), y⟩ by rw [bk2_succ, ← List.append_assoc, hm])
      have HML := Lib.hid (show m.length ≤ 6000 by
        rw [← hm, List.length_append]
        have h1 := bk2_len 5 100 (bnApt z.ss z.d) k (fun i hi => apt_len HOK.out i (by omega))
        have := HL.out; omega)
      rw [hm] at hFr
      clear hm
      have hsn := hFr.out.snx
      obtain ⟨pb, po, e7, hpb, x0, x1, x2, x3, x4, x5, x6, x7⟩ := sv_of hsn hx
      have HXM := Lib.hid (List.mem_of_getElem? hx)
      obtain ⟨V, hV⟩ : ∃ X, X = wr.alloc (.cells #[.int .i64 x.1.cores, .int .i64 x.1.reps, .int .i64 x.1.least, .int .u8 (x.1.dom : Int), .int .i64 x.1.spread, .slice x.2.a1 x.1.apart.length x.2.c1, .slice x.2.a2 x.1.near.length x.2.c2, .int .i64 x.1.fw] 94) := ⟨_, rfl⟩
      have bV : Below wr.heap.size wr V := by rw [hV]; exact (Below.refl _ _).alloc (Nat.le_refl _) _
      have LV : Loc g V wr.heap.size (.cells #[.int .i64 x.1.cores, .int .i64 x.1.reps, .int .i64 x.1.least, .int .u8 (x.1.dom : Int), .int .i64 x.1.spread, .slice x.2.a1 x.1.apart.length x.2.c1, .slice x.2.a2 x.1.near.length x.2.c2, .int .i64 x.1.fw] 94 (0, 0)) := by rw [hV]; exact hFr.out.new _
      have HFV := Lib.hid (hFr.out.on bV)
      have HKV := Lib.hid (hKr.out.trans (hFr.out.kg bV))
      have HC := Lib.hid (fun (X : World) (hX : Kg g V X) => (by
        obtain ⟨f0, f1, f2, f3, f4, f5, f6, f7, f8, f9⟩ := HS.out X (HKV.out.trans hX)
        exact ⟨f0, f1, f2, f3, f4, f5, f6, f7, f8, f9, (LV.on hX).cell rfl, (LV.on hX).cell rfl, (LV.on hX).cell rfl, (LV.on hX).cell rfl, (LV.on hX).cell rfl, (LV.on hX).cell rfl, (LV.on hX).cell rfl, (LV.on hX).cell rfl⟩ : X.cell? ⟨B, 0, none⟩ = some (.slice z.p.a1 z.s.feeds.length z.p.c1) ∧ X.cell? ⟨B, 1, none⟩ = some (.slice z.p.a2 z.s.brks.length z.p.c2) ∧ X.cell? ⟨B, 2, none⟩ = some (.slice z.p.a3 z.s.loops.length z.p.c3) ∧ X.cell? ⟨B, 3, none⟩ = some (.slice z.p.a4 z.s.racks.length z.p.c4) ∧ X.cell? ⟨B, 4, none⟩ = some (.int .i64 z.s.sw) ∧ X.cell? ⟨B, 5, none⟩ = some (.slice z.p.a5 z.s.links.length z.p.c5) ∧ X.cell? ⟨B, 6, none⟩ = some (.slice z.p.a6 z.s.hosts.length z.p.c6) ∧ X.cell? ⟨B, 7, none⟩ = some (.slice z.A z.xs.length z.c) ∧ X.cell? ⟨B, 8, none⟩ = some (.slice z.q.a1 z.d.hosts.length z.q.c1) ∧ X.cell? ⟨B, 9, none⟩ = some (.slice z.q.a2 z.d.reps.length z.q.c2) ∧ X.cell? ⟨wr.heap.size, 0, none⟩ = some (.int .i64 x.1.cores) ∧ X.cell? ⟨wr.heap.size, 1, none⟩ = some (.int .i64 x.1.reps) ∧ X.cell? ⟨wr.heap.size, 2, none⟩ = some (.int .i64 x.1.least) ∧ X.cell? ⟨wr.heap.size, 3, none⟩ = some (.int .u8 (x.1.dom : Int)) ∧ X.cell? ⟨wr.heap.size, 4, none⟩ = some (.int .i64 x.1.spread) ∧ X.cell? ⟨wr.heap.size, 5, none⟩ = some (.slice x.2.a1 x.1.apart.length x.2.c1) ∧ X.cell? ⟨wr.heap.size, 6, none⟩ = some (.slice x.2.a2 x.1.near.length x.2.c2) ∧ X.cell? ⟨wr.heap.size, 7, none⟩ = some (.int .i64 x.1.fw)))
      have HKVV := Lib.hid (Kg.refl g V)
      obtain ⟨f0, f1, f2, f3, f4, f5, f6, f7, f8, f9, s0, s1, s2, s3, s4, s5, s6, s7⟩ := HC.out V HKVV.out
      rw [hV] at f0 f1 f2 f3 f4 f5 f6 f7 f8 f9 s0 s1 s2 s3 s4 s5 s6 s7
      clear hx bV LV hsn
      obtain ⟨wl, hwl⟩ : ∃ wl, whereD z.d.reps (k : Int) = wl := ⟨_, rfl⟩
      have HWL := Lib.hid hwl
      have HSK := Lib.hid (show l ++ bk2 5 (bnApt z.ss z.d) (k + 1) = m ++ (x.1.apart.filter (shrB z.d wl)).map fun y => ⟨5, (k : Int), y⟩ by rw [HSU.out]; unfold bnApt; rw [HSV.out, HWL.out])
      have HFL := Lib.hid (show (x.1.apart.filter (shrB z.d wl)).length ≤ 100 by
        have h1 := apt_len HOK.out k hlt
        unfold bnApt at h1
        rw [HSV.out, hwl] at h1; exact h1)
      clear hwl
      rw [e7]
      go_wp2_with (fail)
      rw [← hV]
      clear hV f0 f1 f2 f3 f4 f5 f6 f7 f8 f9 s0 s1 s2 s3 s4 s5 s6 s7 x0 x1 x2 x3 x4 x5 x6 x7
      generalize hsb : wr.heap.size = sb at *
      have hcap := ((HFV.out.snx).wi.each x HXM.out).apart.1
      have hcap2 := ((HFV.out.snx).wi.each x HXM.out).apart.2.1
      unfold maxLen at hcap2
      go_loopw [21] (fun i wr => ∃ q : Nat, q ≤ x.1.apart.length ∧ i = .int .i64 (q : Int) ∧ Hid (Fnd z W0 g kb 5 fv (m ++ ((x.1.apart.take q).filter (shrB z.d wl)).map fun y => ⟨5, (k : Int), y⟩) wr) ∧ Hid (Kg g V wr)) (fun i _ => x.1.apart.length - (intOf i).toNat)
      case atStart => exact ⟨0, Nat.zero_le _, rfl, Lib.hid (by simp only [List.take_zero, List.filter_nil, List.map_nil, List.append_nil]; exact HFV.out), HKVV⟩
      case round =>
        obtain ⟨q, hq, rfl, hFi, hKi⟩ := hrel
        have hqi : ((q : Nat) : Int).toNat = q := by omega
        by_cases hql : q < x.1.apart.length
        · obtain ⟨y, hy⟩ : ∃ y, x.1.apart[q]? = some y := ⟨_, List.getElem?_eq_getElem hql⟩
          have hqi2 : (q : Int) < ((x.1.apart.length : Nat) : Int) := by omega
          obtain ⟨mm, hmm⟩ : ∃ mm, m ++ ((x.1.apart.take q).filter (shrB z.d wl)).map (fun y => (⟨5, (k : Int), y⟩ : Bn)) = mm := ⟨_, rfl⟩
          have HSI := Lib.hid (show m ++ ((x.1.apart.take (q + 1)).filter (shrB z.d wl)).map (fun y => (⟨5, (k : Int), y⟩ : Bn)) = mm ++ if (shrB z.d wl) y = true then [⟨5, (k : Int), y⟩] else [] by
            rw [filt_take hy, List.map_append, ← List.append_assoc, hmm]
            congr 1
            split <;> rfl)
          have HMM := Lib.hid (show mm.length ≤ 10000 by
            rw [← hmm, List.length_append, List.length_map]
            have h1 := List.Sublist.length_le ((List.take_sublist q x.1.apart).filter (shrB z.d wl))
            have := HFL.out; have := HML.out; omega)
          rw [hmm] at hFi
          clear hmm
          have hsv := (hFi.out.snx).wi.each x HXM.out
          obtain ⟨ab, ao, ea, hab, -⟩ := hsv.apart.at_ hy
          have hra := hsv.apart
          rw [ea] at hra
          have y0 := int_at hra hy
          clear hra hsv
          rw [ea]
          obtain ⟨b, hb⟩ : ∃ b, (shrB z.d wl) y = b := ⟨_, rfl⟩
          have HBB := Lib.hid hb
          have HKU := Lib.hid (hKi.out.trans (hFi.out.kg (Below.refl _ _)))
          obtain ⟨V2, hV2⟩ : ∃ X, X = wr.alloc (.cells #[.int .i64 y] 3) := ⟨_, rfl⟩
          have bV2 : Below wr.heap.size wr V2 := by rw [hV2]; exact (Below.refl _ _).alloc (Nat.le_refl _) _
          have LV2 : Loc g V2 wr.heap.size (.cells #[.int .i64 y] 3 (0, 0)) := by rw [hV2]; exact hFi.out.new _
          have HF2 := Lib.hid (hFi.out.on bV2)
          have HK2 := Lib.hid (hKi.out.trans (hFi.out.kg bV2))
          have HC2 := Lib.hid (fun (X : World) (hX : Below V2.heap.size V2 X) => (by
            have hk2 := HK2.out.trans (HF2.out.kg hX)
            obtain ⟨f0, f1, f2, f3, f4, f5, f6, f7, f8, f9, s0, s1, s2, s3, s4, s5, s6, s7⟩ := HC.out X hk2
            exact ⟨⟨f0, f1, f2, f3, f4, f5, f6, f7, f8, f9⟩, (LV2.on (HF2.out.kg hX)).cell rfl⟩ : ScAt X B z ∧ X.cell? ⟨wr.heap.size, 0, none⟩ = some (.int .i64 y)))
          have HSN := Lib.hid (fun (X : World) (hX : Below V2.heap.size V2 X) => (HF2.out.on hX).snx)
          have HKbV2 := Lib.hid (Below.refl V2.heap.size V2)
          have HCF := Lib.hid (fun (X : World) (hX : Below V2.heap.size V2 X) (A : Option Addr) (c : Nat) (hA : Rw 1 inF X A c wl) => c_CFA (fun h => hasB z.d.reps ⟨y, h⟩) B wr.heap.size A c wl X hA (fun Y hY h r _ hr => c_aparts1 z B wr.heap.size y h r hr Y (HSN.out Y (below_join hX hY hX.size)) (HC2.out Y (below_join hX hY hX.size)).1 (HC2.out Y (below_join hX hY hX.size)).2) b (by rw [← HBB.out]; rfl))
          clear hy hb bV2
          obtain ⟨⟨f0, f1, f2, f3, f4, f5, f6, f7, f8, f9⟩, c0⟩ := HC2.out V2 HKbV2.out
          rw [hV2] at f0 f1 f2 f3 f4 f5 f6 f7 f8 f9 c0
          go_wp2_with (fail)
          rw [← hV2]
          clear hV2 f0 f1 f2 f3 f4 f5 f6 f7 f8 f9 c0
          go_at_call 97
          refine (c_whereTo z (k : Int) wl HWL.out (by omega) V2 (HSN.out V2 HKbV2.out)).mono ?_
          rintro e v1 ⟨A1, q1, rfl, rw1, bb⟩
          have HKbv1 := Lib.hid (below_join HKbV2.out bb HKbV2.out.size)
          have HRW := Lib.hid rw1
          clear bb rw1
          go_wp2_with (fail)
          go_at_call 101
          refine (HCF.out v1 HKbv1.out A1 q1 HRW.out).mono ?_
          rintro e v2 ⟨rfl, bb⟩
          have HKbv2 := Lib.hid (below_join HKbv1.out bb HKbv1.out.size)
          clear bb
          obtain ⟨⟨f0, f1, f2, f3, f4, f5, f6, f7, f8, f9⟩, c0⟩ := HC2.out v2 HKbv2.out
          rcases b with _ | _
          · have HSJ := Lib.hid (show m ++ ((x.1.apart.take (q + 1)).filter (shrB z.d wl)).map (fun y => (⟨5, (k : Int), y⟩ : Bn)) = mm by rw [HSI.out, HBB.out]; simp)
            go_wp2_with (fail)
            clear f0 f1 f2 f3 f4 f5 f6 f7 f8 f9 c0
            go_roundw
            case rel => exact ⟨q + 1, by omega, by go_num, Lib.hid (by rw [HSJ.out]; exact HF2.out.on HKbv2.out), Lib.hid (HK2.out.trans (HF2.out.kg HKbv2.out))⟩
            case measure => simp only [intOf]; omega
          · have HSJ := Lib.hid (show m ++ ((x.1.apart.take (q + 1)).filter (shrB z.d wl)).map (fun y => (⟨5, (k : Int), y⟩ : Bn)) = mm ++ [⟨5, (k : Int), y⟩] by rw [HSI.out, HBB.out]; rfl)
            go_wp2_with (fail)
            clear f0 f1 f2 f3 f4 f5 f6 f7 f8 f9 c0
            go_at_call 29
            refine (c_coll z W0 g kb 5 fv mm (k : Int) y v2 (HF2.out.on HKbv2.out) HMM.out).mono ?_
            rintro e u ⟨rfl, fy, ky⟩
            have HY := Lib.hid fy
            have HKY := Lib.hid ((HK2.out.trans (HF2.out.kg HKbv2.out)).trans ky)
            clear fy ky
            go_wp2_with (fail)
            go_roundw
            case rel => exact ⟨q + 1, by omega, by go_num, Lib.hid (by rw [HSJ.out]; exact HY.out), HKY⟩
            case measure => simp only [intOf]; omega
        · obtain rfl : q = x.1.apart.length := by omega
          have HFI := Lib.hid (show Fnd z W0 g kb 5 fv (l ++ bk2 5 (bnApt z.ss z.d) (k + 1)) wr by have := hFi.out; rw [List.take_length] at this; rw [HSK.out]; exact this)
          have HKI := Lib.hid (HKV.out.trans hKi.out)
          go_wp2_with (fail)
          go_roundw
          case rel => exact ⟨k + 1, by omega, by go_num, HFI, HKI⟩
          case measure => simp only [intOf]; omega
    · obtain rfl : k = z.xs.length := by omega
      go_wp2_with (fail)
      go_end0
      exact HQ.out _ (by have := hFr.out; unfold bnK; unfold Sn.ss; rw [svs_len]; exact this) hKr.out
set_option maxHeartbeats 16000000 in
theorem c_findNears (z : Sn) (W0 : World) (g kb : Nat) (fv : Value) (l : List Bn) (ok : z.Ok) (hl : l.length ≤ 5000) (w : World) (h : Fnd z W0 g kb 6 fv l w) :
    Calls Tryz.prog 54 #[.agg #[.slice z.p.a1 z.s.feeds.length z.p.c1, .slice z.p.a2 z.s.brks.length z.p.c2, .slice z.p.a3 z.s.loops.length z.p.c3, .slice z.p.a4 z.s.racks.length z.p.c4, .int .i64 z.s.sw, .slice z.p.a5 z.s.links.length z.p.c5, .slice z.p.a6 z.s.hosts.length z.p.c6, .slice z.A z.xs.length z.c, .slice z.q.a1 z.d.hosts.length z.q.c1, .slice z.q.a2 z.d.reps.length z.q.c2], .func (.func 29) #[] #[.pointer (some ⟨g, 0, none⟩), .pointer (some ⟨kb, 0, none⟩)]] w fun e w' => e = .returned (.tuple #[]) ∧ Fnd z W0 g kb 6 fv (l ++ bnK z.s z.ss z.d 6) w' ∧ Kg g w w' := by
  obtain ⟨W, h1⟩ : ∃ W, W = w.alloc (.cells #[.slice z.p.a1 z.s.feeds.length z.p.c1, .slice z.p.a2 z.s.brks.length z.p.c2, .slice z.p.a3 z.s.loops.length z.p.c3, .slice z.p.a4 z.s.racks.length z.p.c4, .int .i64 z.s.sw, .slice z.p.a5 z.s.links.length z.p.c5, .slice z.p.a6 z.s.hosts.length z.p.c6, .slice z.A z.xs.length z.c, .slice z.q.a1 z.d.hosts.length z.q.c1, .slice z.q.a2 z.d.reps.length z.q.c2] 71) := ⟨_, rfl⟩
  have B1 : Below w.heap.size w W := by rw [h1]; exact (Below.refl _ _).alloc (Nat.le_refl _) _
  have L0 : Loc g W w.heap.size (.cells #[.slice z.p.a1 z.s.feeds.length z.p.c1, .slice z.p.a2 z.s.brks.length z.p.c2, .slice z.p.a3 z.s.loops.length z.p.c3, .slice z.p.a4 z.s.racks.length z.p.c4, .int .i64 z.s.sw, .slice z.p.a5 z.s.links.length z.p.c5, .slice z.p.a6 z.s.hosts.length z.p.c6, .slice z.A z.xs.length z.c, .slice z.q.a1 z.d.hosts.length z.q.c1, .slice z.q.a2 z.d.reps.length z.q.c2] 71 (0, 0)) := by rw [h1]; exact h.new _
  have HF := Lib.hid (h.on B1)
  have HKG := Lib.hid (h.kg B1)
  have HS := Lib.hid (fun (X : World) (hX : Kg g W X) => (scn_cells (L0.on hX) : X.cell? ⟨w.heap.size, 0, none⟩ = some (.slice z.p.a1 z.s.feeds.length z.p.c1) ∧ X.cell? ⟨w.heap.size, 1, none⟩ = some (.slice z.p.a2 z.s.brks.length z.p.c2) ∧ X.cell? ⟨w.heap.size, 2, none⟩ = some (.slice z.p.a3 z.s.loops.length z.p.c3) ∧ X.cell? ⟨w.heap.size, 3, none⟩ = some (.slice z.p.a4 z.s.racks.length z.p.c4) ∧ X.cell? ⟨w.heap.size, 4, none⟩ = some (.int .i64 z.s.sw) ∧ X.cell? ⟨w.heap.size, 5, none⟩ = some (.slice z.p.a5 z.s.links.length z.p.c5) ∧ X.cell? ⟨w.heap.size, 6, none⟩ = some (.slice z.p.a6 z.s.hosts.length z.p.c6) ∧ X.cell? ⟨w.heap.size, 7, none⟩ = some (.slice z.A z.xs.length z.c) ∧ X.cell? ⟨w.heap.size, 8, none⟩ = some (.slice z.q.a1 z.d.hosts.length z.q.c1) ∧ X.cell? ⟨w.heap.size, 9, none⟩ = some (.slice z.q.a2 z.d.reps.length z.q.c2)))
  have HK0 := Lib.hid (Kg.refl g W)
  obtain ⟨n1, n2, n3, n4, n5, n6, n7, n8⟩ := h.snx.bounds
  have HOK := Lib.hid ok
  have HL := Lib.hid hl
  have HPO : ∀ X, Fnd z W0 g kb 6 fv (l ++ bnK z.s z.ss z.d 6) X → Kg g W X → (Ending.returned (.tuple #[]) = .returned (.tuple #[]) ∧ Fnd z W0 g kb 6 fv (l ++ bnK z.s z.ss z.d 6) X ∧ Kg g w X) := fun X hx hk => ⟨rfl, hx, HKG.out.trans hk⟩
  obtain ⟨Q, hQ⟩ : ∃ Q : Ending → World → Prop, Q = fun e w' => e = .returned (.tuple #[]) ∧ Fnd z W0 g kb 6 fv (l ++ bnK z.s z.ss z.d 6) w' ∧ Kg g w w' := ⟨_, rfl⟩
  have HQ := Lib.hid (fun X hx hk => (by rw [hQ]; exact HPO X hx hk : Q (.returned (.tuple #[])) X))
  rw [← hQ]
  clear h B1 L0 hl HKG HPO hQ ok
  obtain ⟨f0, f1, f2, f3, f4, f5, f6, f7, f8, f9⟩ := HS.out W HK0.out
  rw [h1] at f0 f1 f2 f3 f4 f5 f6 f7 f8 f9
  generalize hBB : w.heap.size = B at *
  go_enter Tryz.func54, Tryz.ntmps54
  go_wp2_with (fail)
  rw [← h1]
  clear h1 f0 f1 f2 f3 f4 f5 f6 f7 f8 f9
  have hnn := few_svcs HOK.out
  have hrp := few_reps HOK.out
  go_loopw [14] (fun i wr => ∃ k : Nat, k ≤ z.xs.length ∧ i = .int .i64 (k : Int) ∧ Hid (Fnd z W0 g kb 6 fv (l ++ bk2 6 (bnNea z.s z.ss z.d) k) wr) ∧ Hid (Kg g W wr)) (fun i _ => z.xs.length - (intOf i).toNat)
  case atStart => exact ⟨0, Nat.zero_le _, rfl, Lib.hid (by rw [bk2_zero, List.append_nil]; exact HF.out), HK0⟩
  case round =>
    obtain ⟨k, hk, rfl, hFr, hKr⟩ := hrel
    have hki : ((k : Nat) : Int).toNat = k := by omega
    by_cases hlt : k < z.xs.length
    · obtain ⟨x, hx⟩ : ∃ x, z.xs[k]? = some x := ⟨_, List.getElem?_eq_getElem hlt⟩
      have hki2 : (k : Int) < (z.xs.length : Int) := by omega
      obtain ⟨m, hm⟩ : ∃ m, l ++ bk2 6 (bnNea z.s z.ss z.d) k = m := ⟨_, rfl⟩
      have HSV := Lib.hid (svAt_eq (show z.ss[k]? = some x.1 from svs_at hx))
      have HSU := Lib.hid (show l ++ bk2 6 (bnNea z.s z.ss z.d) (k + 1) = m ++ ((bnNea z.s z.ss z.d) k).map fun y => ⟨6, (k : Int), y⟩ by rw [bk2_succ, ← List.append_assoc, hm])
      have HML := Lib.hid (show m.length ≤ 6000 by
        rw [← hm, List.length_append]
        have h1 := bk2_len 6 100 (bnNea z.s z.ss z.d) k (fun i hi => nea_len HOK.out i (by omega))
        have := HL.out; omega)
      rw [hm] at hFr
      clear hm
      have hsn := hFr.out.snx
      obtain ⟨pb, po, e7, hpb, x0, x1, x2, x3, x4, x5, x6, x7⟩ := sv_of hsn hx
      have HXM := Lib.hid (List.mem_of_getElem? hx)
      obtain ⟨V, hV⟩ : ∃ X, X = wr.alloc (.cells #[.int .i64 x.1.cores, .int .i64 x.1.reps, .int .i64 x.1.least, .int .u8 (x.1.dom : Int), .int .i64 x.1.spread, .slice x.2.a1 x.1.apart.length x.2.c1, .slice x.2.a2 x.1.near.length x.2.c2, .int .i64 x.1.fw] 94) := ⟨_, rfl⟩
      have bV : Below wr.heap.size wr V := by rw [hV]; exact (Below.refl _ _).alloc (Nat.le_refl _) _
      have LV : Loc g V wr.heap.size (.cells #[.int .i64 x.1.cores, .int .i64 x.1.reps, .int .i64 x.1.least, .int .u8 (x.1.dom : Int), .int .i64 x.1.spread, .slice x.2.a1 x.1.apart.length x.2.c1, .slice x.2.a2 x.1.near.length x.2.c2, .int .i64 x.1.fw] 94 (0, 0)) := by rw [hV]; exact hFr.out.new _
      have HFV := Lib.hid (hFr.out.on bV)
      have HKV := Lib.hid (hKr.out.trans (hFr.out.kg bV))
      have HC := Lib.hid (fun (X : World) (hX : Kg g V X) => (by
        obtain ⟨f0, f1, f2, f3, f4, f5, f6, f7, f8, f9⟩ := HS.out X (HKV.out.trans hX)
        exact ⟨f0, f1, f2, f3, f4, f5, f6, f7, f8, f9, (LV.on hX).cell rfl, (LV.on hX).cell rfl, (LV.on hX).cell rfl, (LV.on hX).cell rfl, (LV.on hX).cell rfl, (LV.on hX).cell rfl, (LV.on hX).cell rfl, (LV.on hX).cell rfl⟩ : X.cell? ⟨B, 0, none⟩ = some (.slice z.p.a1 z.s.feeds.length z.p.c1) ∧ X.cell? ⟨B, 1, none⟩ = some (.slice z.p.a2 z.s.brks.length z.p.c2) ∧ X.cell? ⟨B, 2, none⟩ = some (.slice z.p.a3 z.s.loops.length z.p.c3) ∧ X.cell? ⟨B, 3, none⟩ = some (.slice z.p.a4 z.s.racks.length z.p.c4) ∧ X.cell? ⟨B, 4, none⟩ = some (.int .i64 z.s.sw) ∧ X.cell? ⟨B, 5, none⟩ = some (.slice z.p.a5 z.s.links.length z.p.c5) ∧ X.cell? ⟨B, 6, none⟩ = some (.slice z.p.a6 z.s.hosts.length z.p.c6) ∧ X.cell? ⟨B, 7, none⟩ = some (.slice z.A z.xs.length z.c) ∧ X.cell? ⟨B, 8, none⟩ = some (.slice z.q.a1 z.d.hosts.length z.q.c1) ∧ X.cell? ⟨B, 9, none⟩ = some (.slice z.q.a2 z.d.reps.length z.q.c2) ∧ X.cell? ⟨wr.heap.size, 0, none⟩ = some (.int .i64 x.1.cores) ∧ X.cell? ⟨wr.heap.size, 1, none⟩ = some (.int .i64 x.1.reps) ∧ X.cell? ⟨wr.heap.size, 2, none⟩ = some (.int .i64 x.1.least) ∧ X.cell? ⟨wr.heap.size, 3, none⟩ = some (.int .u8 (x.1.dom : Int)) ∧ X.cell? ⟨wr.heap.size, 4, none⟩ = some (.int .i64 x.1.spread) ∧ X.cell? ⟨wr.heap.size, 5, none⟩ = some (.slice x.2.a1 x.1.apart.length x.2.c1) ∧ X.cell? ⟨wr.heap.size, 6, none⟩ = some (.slice x.2.a2 x.1.near.length x.2.c2) ∧ X.cell? ⟨wr.heap.size, 7, none⟩ = some (.int .i64 x.1.fw)))
      have HKVV := Lib.hid (Kg.refl g V)
      obtain ⟨f0, f1, f2, f3, f4, f5, f6, f7, f8, f9, s0, s1, s2, s3, s4, s5, s6, s7⟩ := HC.out V HKVV.out
      rw [hV] at f0 f1 f2 f3 f4 f5 f6 f7 f8 f9 s0 s1 s2 s3 s4 s5 s6 s7
      clear hx bV LV hsn
      obtain ⟨wl, hwl⟩ : ∃ wl, whereD z.d.reps (k : Int) = wl := ⟨_, rfl⟩
      have HWL := Lib.hid hwl
      have HSK := Lib.hid (show l ++ bk2 6 (bnNea z.s z.ss z.d) (k + 1) = m ++ (x.1.near.filter (lonB z.s z.d wl)).map fun y => ⟨6, (k : Int), y.svc⟩ by rw [HSU.out]; unfold bnNea; rw [HSV.out, HWL.out, List.map_map]; rfl)
      have HFL := Lib.hid (show (x.1.near.filter (lonB z.s z.d wl)).length ≤ 100 by
        have h1 := nea_len HOK.out k hlt
        unfold bnNea at h1; rw [List.length_map] at h1
        rw [HSV.out, hwl] at h1; exact h1)
      clear hwl
      rw [e7]
      go_wp2_with (fail)
      rw [← hV]
      clear hV f0 f1 f2 f3 f4 f5 f6 f7 f8 f9 s0 s1 s2 s3 s4 s5 s6 s7 x0 x1 x2 x3 x4 x5 x6 x7
      generalize hsb : wr.heap.size = sb at *
      have hcap := ((HFV.out.snx).wi.each x HXM.out).near.1
      have hcap2 := ((HFV.out.snx).wi.each x HXM.out).near.2.1
      unfold maxLen at hcap2
      go_loopw [22] (fun i wr => ∃ q : Nat, q ≤ x.1.near.length ∧ i = .int .i64 (q : Int) ∧ Hid (Fnd z W0 g kb 6 fv (m ++ ((x.1.near.take q).filter (lonB z.s z.d wl)).map fun y => ⟨6, (k : Int), y.svc⟩) wr) ∧ Hid (Kg g V wr)) (fun i _ => x.1.near.length - (intOf i).toNat)
      case atStart => exact ⟨0, Nat.zero_le _, rfl, Lib.hid (by simp only [List.take_zero, List.filter_nil, List.map_nil, List.append_nil]; exact HFV.out), HKVV⟩
      case round =>
        obtain ⟨q, hq, rfl, hFi, hKi⟩ := hrel
        have hqi : ((q : Nat) : Int).toNat = q := by omega
        by_cases hql : q < x.1.near.length
        · obtain ⟨y, hy⟩ : ∃ y, x.1.near[q]? = some y := ⟨_, List.getElem?_eq_getElem hql⟩
          have hqi2 : (q : Int) < ((x.1.near.length : Nat) : Int) := by omega
          obtain ⟨mm, hmm⟩ : ∃ mm, m ++ ((x.1.near.take q).filter (lonB z.s z.d wl)).map (fun y => (⟨6, (k : Int), y.svc⟩ : Bn)) = mm := ⟨_, rfl⟩
          have HSI := Lib.hid (show m ++ ((x.1.near.take (q + 1)).filter (lonB z.s z.d wl)).map (fun y => (⟨6, (k : Int), y.svc⟩ : Bn)) = mm ++ if (lonB z.s z.d wl) y = true then [⟨6, (k : Int), y.svc⟩] else [] by
            rw [filt_take hy, List.map_append, ← List.append_assoc, hmm]
            congr 1
            split <;> rfl)
          have HMM := Lib.hid (show mm.length ≤ 10000 by
            rw [← hmm, List.length_append, List.length_map]
            have h1 := List.Sublist.length_le ((List.take_sublist q x.1.near).filter (lonB z.s z.d wl))
            have := HFL.out; have := HML.out; omega)
          rw [hmm] at hFi
          clear hmm
          have hsv := (hFi.out.snx).wi.each x HXM.out
          obtain ⟨ab, ao, ea, hab, -⟩ := hsv.near.at_ hy
          have hra := hsv.near
          rw [ea] at hra
          obtain ⟨y0, y1⟩ := near_at hra hy
          clear hra hsv
          rw [ea]
          obtain ⟨b, hb⟩ : ∃ b, (lonB z.s z.d wl) y = b := ⟨_, rfl⟩
          have HBB := Lib.hid hb
          have HKU := Lib.hid (hKi.out.trans (hFi.out.kg (Below.refl _ _)))
          obtain ⟨V2, hV2⟩ : ∃ X, X = wr.alloc (.cells #[.int .i64 y.svc, .int .i64 y.lat] 109) := ⟨_, rfl⟩
          have bV2 : Below wr.heap.size wr V2 := by rw [hV2]; exact (Below.refl _ _).alloc (Nat.le_refl _) _
          have LV2 : Loc g V2 wr.heap.size (.cells #[.int .i64 y.svc, .int .i64 y.lat] 109 (0, 0)) := by rw [hV2]; exact hFi.out.new _
          have hz2 : V2.heap.size = wr.heap.size + 1 := by rw [hV2, World.size_alloc]
          have HF2 := Lib.hid (hFi.out.on bV2)
          have HK2 := Lib.hid (hKi.out.trans (hFi.out.kg bV2))
          obtain ⟨V3, hV3⟩ : ∃ X, X = V2.alloc (.cells #[.func (.func 102) #[] #[.pointer (some ⟨B, 0, none⟩), .pointer (some ⟨wr.heap.size, 0, none⟩)]] 134) := ⟨_, rfl⟩
          have bV3 : Below V2.heap.size V2 V3 := by rw [hV3]; exact (Below.refl _ _).alloc (Nat.le_refl _) _
          have LV3 : Loc g V3 (wr.heap.size + 1) (.cells #[.func (.func 102) #[] #[.pointer (some ⟨B, 0, none⟩), .pointer (some ⟨wr.heap.size, 0, none⟩)]] 134 (0, 0)) := by rw [hV3, ← hz2]; exact HF2.out.new _
          have HF3 := Lib.hid (HF2.out.on bV3)
          have HK3 := Lib.hid (HK2.out.trans (HF2.out.kg bV3))
          have HC3 := Lib.hid (fun (X : World) (hX : Below V3.heap.size V3 X) => (by
            have hk3 := HF3.out.kg hX
            obtain ⟨f0, f1, f2, f3, f4, f5, f6, f7, f8, f9, s0, s1, s2, s3, s4, s5, s6, s7⟩ := HC.out X (HK3.out.trans hk3)
            exact ⟨⟨f0, f1, f2, f3, f4, f5, f6, f7, f8, f9⟩, ⟨(LV2.on ((HF2.out.kg bV3).trans hk3)).cell rfl, (LV2.on ((HF2.out.kg bV3).trans hk3)).cell rfl⟩, (LV3.on hk3).cell rfl⟩ : ScAt X B z ∧ (X.cell? ⟨wr.heap.size, 0, none⟩ = some (.int .i64 y.svc) ∧ X.cell? ⟨wr.heap.size, 1, none⟩ = some (.int .i64 y.lat)) ∧ X.cell? ⟨wr.heap.size + 1, 0, none⟩ = some (.func (.func 102) #[] #[.pointer (some ⟨B, 0, none⟩), .pointer (some ⟨wr.heap.size, 0, none⟩)])))
          have HSN := Lib.hid (fun (X : World) (hX : Below V3.heap.size V3 X) => (HF3.out.on hX).snx)
          have HKbV3 := Lib.hid (Below.refl V3.heap.size V3)
          have HCF := Lib.hid (fun (X : World) (hX : Below V3.heap.size V3 X) (A : Option Addr) (c : Nat) (hA : Rw 1 inF X A c wl) => c_CFF (fun h => !nerB z.s z.d y h) B wr.heap.size (wr.heap.size + 1) A c wl X hA (fun Y hY h r _ hr => c_nears2 z B wr.heap.size (wr.heap.size + 1) y h r hr Y (HSN.out Y (below_join hX hY hX.size)) (fun Z hZ => (HC3.out Z (below_join (below_join hX hY hX.size) hZ (Nat.le_trans hX.size hY.size))).1) (fun Z hZ => (HC3.out Z (below_join (below_join hX hY hX.size) hZ (Nat.le_trans hX.size hY.size))).2.1) (fun Z hZ => (HC3.out Z (below_join (below_join hX hY hX.size) hZ (Nat.le_trans hX.size hY.size))).2.2)) b (by rw [← HBB.out]; rfl))
          clear hy hb bV2 bV3
          obtain ⟨⟨f0, f1, f2, f3, f4, f5, f6, f7, f8, f9⟩, ⟨c0, c1⟩, c2⟩ := HC3.out V3 HKbV3.out
          rw [hV3, hV2] at f0 f1 f2 f3 f4 f5 f6 f7 f8 f9 c0 c1 c2
          have hz4 := Lib.hid hz2
          rw [hV2] at hV3
          clear hz2
          go_wp2_with (fail)
          rw [← hV3]
          clear hV2 hV3 f0 f1 f2 f3 f4 f5 f6 f7 f8 f9 c0 c1 c2
          go_at_call 97
          refine (c_whereTo z (k : Int) wl HWL.out (by omega) V3 (HSN.out V3 HKbV3.out)).mono ?_
          rintro e v1 ⟨A1, q1, rfl, rw1, bb⟩
          have HKbv1 := Lib.hid (below_join HKbV3.out bb HKbV3.out.size)
          have HRW := Lib.hid rw1
          clear bb rw1
          go_wp2_with (fail)
          go_at_call 101
          refine (HCF.out v1 HKbv1.out A1 q1 HRW.out).mono ?_
          rintro e v2 ⟨rfl, bb⟩
          have HKbv2 := Lib.hid (below_join HKbv1.out bb HKbv1.out.size)
          clear bb
          obtain ⟨⟨f0, f1, f2, f3, f4, f5, f6, f7, f8, f9⟩, ⟨c0, c1⟩, c2⟩ := HC3.out v2 HKbv2.out
          rcases b with _ | _
          · have HSJ := Lib.hid (show m ++ ((x.1.near.take (q + 1)).filter (lonB z.s z.d wl)).map (fun y => (⟨6, (k : Int), y.svc⟩ : Bn)) = mm by rw [HSI.out, HBB.out]; simp)
            go_wp2_with (fail)
            clear f0 f1 f2 f3 f4 f5 f6 f7 f8 f9 c0 c1 c2
            go_roundw
            case rel => exact ⟨q + 1, by omega, by go_num, Lib.hid (by rw [HSJ.out]; exact HF3.out.on HKbv2.out), Lib.hid (HK3.out.trans (HF3.out.kg HKbv2.out))⟩
            case measure => simp only [intOf]; omega
          · have HSJ := Lib.hid (show m ++ ((x.1.near.take (q + 1)).filter (lonB z.s z.d wl)).map (fun y => (⟨6, (k : Int), y.svc⟩ : Bn)) = mm ++ [⟨6, (k : Int), y.svc⟩] by rw [HSI.out, HBB.out]; rfl)
            go_wp2_with (fail)
            clear f0 f1 f2 f3 f4 f5 f6 f7 f8 f9 c0 c1 c2
            go_at_call 29
            refine (c_coll z W0 g kb 6 fv mm (k : Int) y.svc v2 (HF3.out.on HKbv2.out) HMM.out).mono ?_
            rintro e u ⟨rfl, fy, ky⟩
            have HY := Lib.hid fy
            have HKY := Lib.hid ((HK3.out.trans (HF3.out.kg HKbv2.out)).trans ky)
            clear fy ky
            go_wp2_with (fail)
            go_roundw
            case rel => exact ⟨q + 1, by omega, by go_num, Lib.hid (by rw [HSJ.out]; exact HY.out), HKY⟩
            case measure => simp only [intOf]; omega
        · obtain rfl : q = x.1.near.length := by omega
          have HFI := Lib.hid (show Fnd z W0 g kb 6 fv (l ++ bk2 6 (bnNea z.s z.ss z.d) (k + 1)) wr by have := hFi.out; rw [List.take_length] at this; rw [HSK.out]; exact this)
          have HKI := Lib.hid (HKV.out.trans hKi.out)
          go_wp2_with (fail)
          go_roundw
          case rel => exact ⟨k + 1, by omega, by go_num, HFI, HKI⟩
          case measure => simp only [intOf]; omega
    · obtain rfl : k = z.xs.length := by omega
      go_wp2_with (fail)
      go_end0
      exact HQ.out _ (by have := hFr.out; unfold bnK; unfold Sn.ss; rw [svs_len]; exact this) hKr.out
end Go.Proofs.YtbbadnlaelgmlaaGreat

namespace Go.Proofs.YtbbadnlaelgmlaaGreat
open Go.RowKit
set_option maxRecDepth 100000
set_option linter.unusedVariables false
set_option linter.unusedSimpArgs false

theorem Fnd.row {z : Sn} {W0 V X Y : World} {g kb kd : Nat} {fv : Value} {l : List Bn} {e : TypeId} {size n : Nat} {v : Value} {xs : List Value} (h : Fnd z W0 g kb kd fv l V) (ho : X.ownsRow V.heap.size e size v n xs) (hb : Below V.heap.size V X) (k : Kg g X Y) : Y.ownsRow V.heap.size e size v n xs := by
  obtain ⟨k1, h0 | ⟨g', cap, cur, e1, k3, k4, k5⟩⟩ := ho
  · exact ⟨k1, .inl h0⟩
  · refine ⟨k1, .inr ⟨g', cap, cur, e1, k3, k.same g' _ (by have := h.gl; omega) (fun e2 => ?_) k4, k5⟩⟩
    have e3 : lbk V g = some g' := by rw [← e2]; unfold lbk; rw [hb.block g h.gl]
    have := (h.co.lb e3).2.1
    omega
theorem own_rwA {w : World} {base c : Nat} {A : Option Addr} {l : List Int} (h : w.ownsRow base 3 1 (.slice A l.length c) l.length (ints l)) : Rw 1 inF w A c l := by
  obtain ⟨A', c', e, hr⟩ := own_rw h
  injection e with e1 _ e2
  subst e1 e2
  exact hr
theorem c_whereOwn (z : Sn) (s : Int) (l : List Int) (hr : whereD z.d.reps s = l) (hm : z.d.reps.length ≤ 1000) (w : World) (h : SnAt w z) :
    Calls Tryz.prog 97 #[.agg #[.slice z.q.a1 z.d.hosts.length z.q.c1, .slice z.q.a2 z.d.reps.length z.q.c2], .int .i64 s] w fun e w' => ∃ A c, e = .returned (.slice A l.length c) ∧ w'.ownsRow w.heap.size 3 1 (.slice A l.length c) l.length (ints l) ∧ Below w.heap.size w w' := by
  subst hr
  refine (c_woWhere z.q z.d s hm w h.wo).mono fun e w' q => ?_
  obtain ⟨v, e1, ho, hb⟩ := q
  obtain ⟨A, c, rfl⟩ := own_shape ho
  exact ⟨A, c, e1, ho, hb⟩
theorem where_in {z : Sn} (ok : z.Ok) {s h : Int} (hh : h ∈ whereD z.d.reps s) : 0 ≤ h ∧ h < z.d.hosts.length := by
  obtain ⟨r, hr, rfl⟩ := where_host hh
  have := ok.2.2.2.2.2.1 r hr
  unfold repOk at this
  rw [Bool.and_eq_true, ixB_iff, ixB_iff] at this
  have h2 := ok.2.2.1
  omega
theorem frm_len {z : Sn} (ok : z.Ok) (i : Nat) (hi : i < z.xs.length) : (bnFrm z.ss z.d i).length ≤ 100 := by
  unfold bnFrm
  refine Nat.le_trans (List.length_filter_le _ _) (Nat.le_trans (where_len _ _) ?_)
  have := few_reps ok; omega
theorem fw_at {z : Sn} {w : World} (h : SnAt w z) {n : Nat} (hn : n < z.d.hosts.length) : ∃ b o, z.q.a1 = some ⟨b, o, none⟩ ∧ b < w.heap.size ∧ w.cell? ⟨b, o + n * 2 + 1, none⟩ = some (.int .i64 (fwAt z.d (n : Int))) := by
  obtain ⟨x, hx⟩ : ∃ x, z.d.hosts[n]? = some x := ⟨_, List.getElem?_eq_getElem hn⟩
  obtain ⟨b, o, e, hb, -⟩ := h.wo.hosts.at_ hx
  have h2 := h.wo.hosts
  rw [e] at h2
  refine ⟨b, o, e, hb, ?_⟩
  rw [(hst_at h2 hx).2]
  unfold fwAt
  rw [Int.toNat_natCast, hx]; rfl
set_option maxHeartbeats 16000000 in
theorem c_findFirmwares (z : Sn) (W0 : World) (g kb : Nat) (fv : Value) (l : List Bn) (ok : z.Ok) (hl : l.length ≤ 5000) (w : World) (h : Fnd z W0 g kb 7 fv l w) :
    Calls Tryz.prog 55 #[.agg #[.slice z.p.a1 z.s.feeds.length z.p.c1, .slice z.p.a2 z.s.brks.length z.p.c2, .slice z.p.a3 z.s.loops.length z.p.c3, .slice z.p.a4 z.s.racks.length z.p.c4, .int .i64 z.s.sw, .slice z.p.a5 z.s.links.length z.p.c5, .slice z.p.a6 z.s.hosts.length z.p.c6, .slice z.A z.xs.length z.c, .slice z.q.a1 z.d.hosts.length z.q.c1, .slice z.q.a2 z.d.reps.length z.q.c2], .func (.func 29) #[] #[.pointer (some ⟨g, 0, none⟩), .pointer (some ⟨kb, 0, none⟩)]] w fun e w' => e = .returned (.tuple #[]) ∧ Fnd z W0 g kb 7 fv (l ++ bnK z.s z.ss z.d 7) w' ∧ Kg g w w' := by
  obtain ⟨W, h1⟩ : ∃ W, W = w.alloc (.cells #[.slice z.p.a1 z.s.feeds.length z.p.c1, .slice z.p.a2 z.s.brks.length z.p.c2, .slice z.p.a3 z.s.loops.length z.p.c3, .slice z.p.a4 z.s.racks.length z.p.c4, .int .i64 z.s.sw, .slice z.p.a5 z.s.links.length z.p.c5, .slice z.p.a6 z.s.hosts.length z.p.c6, .slice z.A z.xs.length z.c, .slice z.q.a1 z.d.hosts.length z.q.c1, .slice z.q.a2 z.d.reps.length z.q.c2] 71) := ⟨_, rfl⟩
  have B1 : Below w.heap.size w W := by rw [h1]; exact (Below.refl _ _).alloc (Nat.le_refl _) _
  have L0 : Loc g W w.heap.size (.cells #[.slice z.p.a1 z.s.feeds.length z.p.c1, .slice z.p.a2 z.s.brks.length z.p.c2, .slice z.p.a3 z.s.loops.length z.p.c3, .slice z.p.a4 z.s.racks.length z.p.c4, .int .i64 z.s.sw, .slice z.p.a5 z.s.links.length z.p.c5, .slice z.p.a6 z.s.hosts.length z.p.c6, .slice z.A z.xs.length z.c, .slice z.q.a1 z.d.hosts.length z.q.c1, .slice z.q.a2 z.d.reps.length z.q.c2] 71 (0, 0)) := by rw [h1]; exact h.new _
  have HF := Lib.hid (h.on B1)
  have HKG := Lib.hid (h.kg B1)
  have HS := Lib.hid (fun (X : World) (hX : Kg g W X) => (scn_cells (L0.on hX) : X.cell? ⟨w.heap.size, 0, none⟩ = some (.slice z.p.a1 z.s.feeds.length z.p.c1) ∧ X.cell? ⟨w.heap.size, 1, none⟩ = some (.slice z.p.a2 z.s.brks.length z.p.c2) ∧ X.cell? ⟨w.heap.size, 2, none⟩ = some (.slice z.p.a3 z.s.loops.length z.p.c3) ∧ X.cell? ⟨w.heap.size, 3, none⟩ = some (.slice z.p.a4 z.s.racks.length z.p.c4) ∧ X.cell? ⟨w.heap.size, 4, none⟩ = some (.int .i64 z.s.sw) ∧ X.cell? ⟨w.heap.size, 5, none⟩ = some (.slice z.p.a5 z.s.links.length z.p.c5) ∧ X.cell? ⟨w.heap.size, 6, none⟩ = some (.slice z.p.a6 z.s.hosts.length z.p.c6) ∧ X.cell? ⟨w.heap.size, 7, none⟩ = some (.slice z.A z.xs.length z.c) ∧ X.cell? ⟨w.heap.size, 8, none⟩ = some (.slice z.q.a1 z.d.hosts.length z.q.c1) ∧ X.cell? ⟨w.heap.size, 9, none⟩ = some (.slice z.q.a2 z.d.reps.length z.q.c2)))
  have HK0 := Lib.hid (Kg.refl g W)
  obtain ⟨n1, n2, n3, n4, n5, n6, n7, n8⟩ := h.snx.bounds
  have HOK := Lib.hid ok
  have HL := Lib.hid hl
  have HPO : ∀ X, Fnd z W0 g kb 7 fv (l ++ bnK z.s z.ss z.d 7) X → Kg g W X → (Ending.returned (.tuple #[]) = .returned (.tuple #[]) ∧ Fnd z W0 g kb 7 fv (l ++ bnK z.s z.ss z.d 7) X ∧ Kg g w X) := fun X hx hk => ⟨rfl, hx, HKG.out.trans hk⟩
  obtain ⟨Q, hQ⟩ : ∃ Q : Ending → World → Prop, Q = fun e w' => e = .returned (.tuple #[]) ∧ Fnd z W0 g kb 7 fv (l ++ bnK z.s z.ss z.d 7) w' ∧ Kg g w w' := ⟨_, rfl⟩
  have HQ := Lib.hid (fun X hx hk => (by rw [hQ]; exact HPO X hx hk : Q (.returned (.tuple #[])) X))
  rw [← hQ]
  clear h B1 L0 hl HKG HPO hQ ok
  obtain ⟨f0, f1, f2, f3, f4, f5, f6, f7, f8, f9⟩ := HS.out W HK0.out
  rw [h1] at f0 f1 f2 f3 f4 f5 f6 f7 f8 f9
  generalize hBB : w.heap.size = B at *
  go_enter Tryz.func55, Tryz.ntmps55
  go_wp2_with (fail)
  rw [← h1]
  clear h1 f0 f1 f2 f3 f4 f5 f6 f7 f8 f9
  have hnn := few_svcs HOK.out
  have hrp := few_reps HOK.out
  go_loopw [12] (fun i wr => ∃ k : Nat, k ≤ z.xs.length ∧ i = .int .i64 (k : Int) ∧ Hid (Fnd z W0 g kb 7 fv (l ++ bk2 7 (bnFrm z.ss z.d) k) wr) ∧ Hid (Kg g W wr)) (fun i _ => z.xs.length - (intOf i).toNat)
  case atStart => exact ⟨0, Nat.zero_le _, rfl, Lib.hid (by rw [bk2_zero, List.append_nil]; exact HF.out), HK0⟩
  case round =>
    obtain ⟨k, hk, rfl, hFr, hKr⟩ := hrel
    have hki : ((k : Nat) : Int).toNat = k := by omega
    by_cases hlt : k < z.xs.length
    · obtain ⟨x, hx⟩ : ∃ x, z.xs[k]? = some x := ⟨_, List.getElem?_eq_getElem hlt⟩
      have hki2 : (k : Int) < (z.xs.length : Int) := by omega
      obtain ⟨m, hm⟩ : ∃ m, l ++ bk2 7 (bnFrm z.ss z.d) k = m := ⟨_, rfl⟩
      have HSV := Lib.hid (svAt_eq (show z.ss[k]? = some x.1 from svs_at hx))
      have HSU := Lib.hid (show l ++ bk2 7 (bnFrm z.ss z.d) (k + 1) = m ++ ((bnFrm z.ss z.d) k).map fun y => ⟨7, (k : Int), y⟩ by rw [bk2_succ, ← List.append_assoc, hm])
      have HML := Lib.hid (show m.length ≤ 6000 by
        rw [← hm, List.length_append]
        have h1 := bk2_len 7 100 (bnFrm z.ss z.d) k (fun i hi => frm_len HOK.out i (by omega))
        have := HL.out; omega)
      rw [hm] at hFr
      clear hm
      have hsn := hFr.out.snx
      obtain ⟨pb, po, e7, hpb, x0, x1, x2, x3, x4, x5, x6, x7⟩ := sv_of hsn hx
      have HXM := Lib.hid (List.mem_of_getElem? hx)
      obtain ⟨V, hV⟩ : ∃ X, X = wr.alloc (.cells #[.int .i64 x.1.cores, .int .i64 x.1.reps, .int .i64 x.1.least, .int .u8 (x.1.dom : Int), .int .i64 x.1.spread, .slice x.2.a1 x.1.apart.length x.2.c1, .slice x.2.a2 x.1.near.length x.2.c2, .int .i64 x.1.fw] 94) := ⟨_, rfl⟩
      have bV : Below wr.heap.size wr V := by rw [hV]; exact (Below.refl _ _).alloc (Nat.le_refl _) _
      have LV : Loc g V wr.heap.size (.cells #[.int .i64 x.1.cores, .int .i64 x.1.reps, .int .i64 x.1.least, .int .u8 (x.1.dom : Int), .int .i64 x.1.spread, .slice x.2.a1 x.1.apart.length x.2.c1, .slice x.2.a2 x.1.near.length x.2.c2, .int .i64 x.1.fw] 94 (0, 0)) := by rw [hV]; exact hFr.out.new _
      have HFV := Lib.hid (hFr.out.on bV)
      have HKV := Lib.hid (hKr.out.trans (hFr.out.kg bV))
      have HC := Lib.hid (fun (X : World) (hX : Kg g V X) => (by
        obtain ⟨f0, f1, f2, f3, f4, f5, f6, f7, f8, f9⟩ := HS.out X (HKV.out.trans hX)
        exact ⟨f0, f1, f2, f3, f4, f5, f6, f7, f8, f9, (LV.on hX).cell rfl, (LV.on hX).cell rfl, (LV.on hX).cell rfl, (LV.on hX).cell rfl, (LV.on hX).cell rfl, (LV.on hX).cell rfl, (LV.on hX).cell rfl, (LV.on hX).cell rfl⟩ : X.cell? ⟨B, 0, none⟩ = some (.slice z.p.a1 z.s.feeds.length z.p.c1) ∧ X.cell? ⟨B, 1, none⟩ = some (.slice z.p.a2 z.s.brks.length z.p.c2) ∧ X.cell? ⟨B, 2, none⟩ = some (.slice z.p.a3 z.s.loops.length z.p.c3) ∧ X.cell? ⟨B, 3, none⟩ = some (.slice z.p.a4 z.s.racks.length z.p.c4) ∧ X.cell? ⟨B, 4, none⟩ = some (.int .i64 z.s.sw) ∧ X.cell? ⟨B, 5, none⟩ = some (.slice z.p.a5 z.s.links.length z.p.c5) ∧ X.cell? ⟨B, 6, none⟩ = some (.slice z.p.a6 z.s.hosts.length z.p.c6) ∧ X.cell? ⟨B, 7, none⟩ = some (.slice z.A z.xs.length z.c) ∧ X.cell? ⟨B, 8, none⟩ = some (.slice z.q.a1 z.d.hosts.length z.q.c1) ∧ X.cell? ⟨B, 9, none⟩ = some (.slice z.q.a2 z.d.reps.length z.q.c2) ∧ X.cell? ⟨wr.heap.size, 0, none⟩ = some (.int .i64 x.1.cores) ∧ X.cell? ⟨wr.heap.size, 1, none⟩ = some (.int .i64 x.1.reps) ∧ X.cell? ⟨wr.heap.size, 2, none⟩ = some (.int .i64 x.1.least) ∧ X.cell? ⟨wr.heap.size, 3, none⟩ = some (.int .u8 (x.1.dom : Int)) ∧ X.cell? ⟨wr.heap.size, 4, none⟩ = some (.int .i64 x.1.spread) ∧ X.cell? ⟨wr.heap.size, 5, none⟩ = some (.slice x.2.a1 x.1.apart.length x.2.c1) ∧ X.cell? ⟨wr.heap.size, 6, none⟩ = some (.slice x.2.a2 x.1.near.length x.2.c2) ∧ X.cell? ⟨wr.heap.size, 7, none⟩ = some (.int .i64 x.1.fw)))
      have HKVV := Lib.hid (Kg.refl g V)
      obtain ⟨f0, f1, f2, f3, f4, f5, f6, f7, f8, f9, s0, s1, s2, s3, s4, s5, s6, s7⟩ := HC.out V HKVV.out
      rw [hV] at f0 f1 f2 f3 f4 f5 f6 f7 f8 f9 s0 s1 s2 s3 s4 s5 s6 s7
      clear hx bV LV hsn
      obtain ⟨wl, hwl⟩ : ∃ wl, whereD z.d.reps (k : Int) = wl := ⟨_, rfl⟩
      have HWL := Lib.hid hwl
      have HSK := Lib.hid (show l ++ bk2 7 (bnFrm z.ss z.d) (k + 1) = m ++ (wl.filter (fun h => decide (fwAt z.d h < x.1.fw))).map fun y => ⟨7, (k : Int), y⟩ by rw [HSU.out]; unfold bnFrm; rw [HSV.out, HWL.out])
      have hwn : wl.length ≤ 100 := by rw [← hwl]; exact Nat.le_trans (where_len _ _) (by omega)
      clear hwl
      rw [e7]
      go_wp2_with (fail)
      rw [← hV]
      clear hV f0 f1 f2 f3 f4 f5 f6 f7 f8 f9 s0 s1 s2 s3 s4 s5 s6 s7 x0 x1 x2 x3 x4 x5 x6 x7
      generalize hsb : wr.heap.size = sb at *
      go_at_call 97
      refine (c_whereOwn z (k : Int) wl HWL.out (by omega) V HFV.out.snx).mono ?_
      rintro e v1 ⟨A1, q1, rfl, ho1, b1⟩
      have HF1 := Lib.hid (HFV.out.on b1)
      have HK1 := Lib.hid (HFV.out.kg b1)
      have HRO := Lib.hid (fun (Y : World) (hY : Kg g v1 Y) => HFV.out.row ho1 b1 hY)
      have HC1 := Lib.hid (fun (X : World) (hX : Kg g v1 X) => HC.out X (HK1.out.trans hX))
      have HK11 := Lib.hid (Kg.refl g v1)
      clear ho1 b1
      go_wp2_with (fail)
      go_loopw [22] (fun i wr => ∃ q : Nat, q ≤ wl.length ∧ i = .int .i64 (q : Int) ∧ Hid (Fnd z W0 g kb 7 fv (m ++ ((wl.take q).filter (fun h => decide (fwAt z.d h < x.1.fw))).map fun y => ⟨7, (k : Int), y⟩) wr) ∧ Hid (Kg g v1 wr)) (fun i _ => wl.length - (intOf i).toNat)
      case atStart => exact ⟨0, Nat.zero_le _, rfl, Lib.hid (by simp only [List.take_zero, List.filter_nil, List.map_nil, List.append_nil]; exact HF1.out), HK11⟩
      case round =>
        obtain ⟨q, hq, rfl, hFi, hKi⟩ := hrel
        have hqi : ((q : Nat) : Int).toNat = q := by omega
        by_cases hql : q < wl.length
        · obtain ⟨y, hy⟩ : ∃ y, wl[q]? = some y := ⟨_, List.getElem?_eq_getElem hql⟩
          have hqi2 : (q : Int) < ((wl.length : Nat) : Int) := by omega
          obtain ⟨mm, hmm⟩ : ∃ mm, m ++ ((wl.take q).filter (fun h => decide (fwAt z.d h < x.1.fw))).map (fun y => (⟨7, (k : Int), y⟩ : Bn)) = mm := ⟨_, rfl⟩
          have HSI := Lib.hid (show m ++ ((wl.take (q + 1)).filter (fun h => decide (fwAt z.d h < x.1.fw))).map (fun y => (⟨7, (k : Int), y⟩ : Bn)) = mm ++ if (fun h => decide (fwAt z.d h < x.1.fw)) y = true then [⟨7, (k : Int), y⟩] else [] by
            rw [filt_take hy, List.map_append, ← List.append_assoc, hmm]
            congr 1
            split <;> rfl)
          have HMM := Lib.hid (show mm.length ≤ 10000 by
            rw [← hmm, List.length_append, List.length_map]
            have h1 := List.length_filter_le (fun h => decide (fwAt z.d h < x.1.fw)) (wl.take q)
            rw [List.length_take] at h1
            have := HML.out; omega)
          rw [hmm] at hFi
          clear hmm
          have hyin := where_in (s := (k : Int)) HOK.out (h := y) (by rw [HWL.out]; exact List.mem_of_getElem? hy)
          obtain ⟨hn, hhn⟩ : ∃ hn : Nat, y = (hn : Int) := ⟨y.toNat, by omega⟩
          have hnn2 : hn < z.d.hosts.length := by omega
          subst hhn
          have hni : ((hn : Nat) : Int).toNat = hn := by omega
          have hni2 : (hn : Int) < (z.d.hosts.length : Int) := hyin.2
          have hrw := own_rwA (HRO.out wr hKi.out)
          obtain ⟨ab, ao, ea, -, -⟩ := hrw.at_ hy
          have hrw2 := hrw
          rw [ea] at hrw2
          have y0 := inRw hrw2 hy
          clear hrw hrw2
          obtain ⟨qb, qo, eq, hqb, c1⟩ := fw_at hFi.out.snx hnn2
          obtain ⟨fw, hfw⟩ : ∃ fw, fwAt z.d (hn : Int) = fw := ⟨_, rfl⟩
          rw [hfw] at c1
          have HC2 := Lib.hid (fun (X : World) (hX : Below wr.heap.size wr X) => (by
            have hk2 := hKi.out.trans (hFi.out.kg hX)
            obtain ⟨f0, f1, f2, f3, f4, f5, f6, f7, f8, f9, s0, s1, s2, s3, s4, s5, s6, s7⟩ := HC1.out X hk2
            rw [eq] at f8
            exact ⟨f0, f1, f2, f3, f4, f5, f6, f7, f8, f9, s7, (hX.cell (p := ⟨qb, qo + hn * 2 + 1, none⟩) hqb).trans c1⟩ : X.cell? ⟨B, 0, none⟩ = some (.slice z.p.a1 z.s.feeds.length z.p.c1) ∧ X.cell? ⟨B, 1, none⟩ = some (.slice z.p.a2 z.s.brks.length z.p.c2) ∧ X.cell? ⟨B, 2, none⟩ = some (.slice z.p.a3 z.s.loops.length z.p.c3) ∧ X.cell? ⟨B, 3, none⟩ = some (.slice z.p.a4 z.s.racks.length z.p.c4) ∧ X.cell? ⟨B, 4, none⟩ = some (.int .i64 z.s.sw) ∧ X.cell? ⟨B, 5, none⟩ = some (.slice z.p.a5 z.s.links.length z.p.c5) ∧ X.cell? ⟨B, 6, none⟩ = some (.slice z.p.a6 z.s.hosts.length z.p.c6) ∧ X.cell? ⟨B, 7, none⟩ = some (.slice z.A z.xs.length z.c) ∧ X.cell? ⟨B, 8, none⟩ = some (.slice (some ⟨qb, qo, none⟩) z.d.hosts.length z.q.c1) ∧ X.cell? ⟨B, 9, none⟩ = some (.slice z.q.a2 z.d.reps.length z.q.c2) ∧ X.cell? ⟨sb, 7, none⟩ = some (.int .i64 x.1.fw) ∧ X.cell? ⟨qb, qo + hn * 2 + 1, none⟩ = some (.int .i64 fw)))
          have HKbwr := Lib.hid (Below.refl wr.heap.size wr)
          have HFW := Lib.hid hfw
          clear hy hyin hfw c1 eq
          obtain ⟨f0, f1, f2, f3, f4, f5, f6, f7, f8, f9, c0, c1⟩ := HC2.out wr HKbwr.out
          rw [ea]
          rcases hd : decide (fw < x.1.fw) with _ | _
          · have HSJ := Lib.hid (show m ++ ((wl.take (q + 1)).filter (fun h => decide (fwAt z.d h < x.1.fw))).map (fun y => (⟨7, (k : Int), y⟩ : Bn)) = mm by
              rw [HSI.out]
              simp only [HFW.out, hd]
              simp)
            go_wp2_with (fail)
            clear f0 f1 f2 f3 f4 f5 f6 f7 f8 f9 c0 c1
            go_region_held3 (fun X => X.cell? ⟨B, 0, none⟩ = some (.slice z.p.a1 z.s.feeds.length z.p.c1) ∧ X.cell? ⟨B, 1, none⟩ = some (.slice z.p.a2 z.s.brks.length z.p.c2) ∧ X.cell? ⟨B, 2, none⟩ = some (.slice z.p.a3 z.s.loops.length z.p.c3) ∧ X.cell? ⟨B, 3, none⟩ = some (.slice z.p.a4 z.s.racks.length z.p.c4) ∧ X.cell? ⟨B, 4, none⟩ = some (.int .i64 z.s.sw) ∧ X.cell? ⟨B, 5, none⟩ = some (.slice z.p.a5 z.s.links.length z.p.c5) ∧ X.cell? ⟨B, 6, none⟩ = some (.slice z.p.a6 z.s.hosts.length z.p.c6) ∧ X.cell? ⟨B, 7, none⟩ = some (.slice z.A z.xs.length z.c) ∧ X.cell? ⟨B, 8, none⟩ = some (.slice (some ⟨qb, qo, none⟩) z.d.hosts.length z.q.c1) ∧ X.cell? ⟨B, 9, none⟩ = some (.slice z.q.a2 z.d.reps.length z.q.c2) ∧ X.cell? ⟨sb, 7, none⟩ = some (.int .i64 x.1.fw) ∧ X.cell? ⟨qb, qo + hn * 2 + 1, none⟩ = some (.int .i64 fw))
              (first | exact HC2.out wr HKbwr.out | fail)
              (first
                | fail)
            go_wp2_with (fail)
            go_roundw
            case rel => exact ⟨q + 1, by omega, by go_num, Lib.hid (by rw [HSJ.out]; exact hFi.out.on (Below.refl _ _).drew), Lib.hid (hKi.out.trans (hFi.out.kg (Below.refl _ _).drew))⟩
            case measure => simp only [intOf]; omega
          · have HSJ := Lib.hid (show m ++ ((wl.take (q + 1)).filter (fun h => decide (fwAt z.d h < x.1.fw))).map (fun y => (⟨7, (k : Int), y⟩ : Bn)) = mm ++ [⟨7, (k : Int), (hn : Int)⟩] by
              rw [HSI.out]
              simp only [HFW.out, hd]
              simp)
            go_wp2_with (fail)
            clear f0 f1 f2 f3 f4 f5 f6 f7 f8 f9 c0 c1
            go_region_held3 (fun X => X.cell? ⟨B, 0, none⟩ = some (.slice z.p.a1 z.s.feeds.length z.p.c1) ∧ X.cell? ⟨B, 1, none⟩ = some (.slice z.p.a2 z.s.brks.length z.p.c2) ∧ X.cell? ⟨B, 2, none⟩ = some (.slice z.p.a3 z.s.loops.length z.p.c3) ∧ X.cell? ⟨B, 3, none⟩ = some (.slice z.p.a4 z.s.racks.length z.p.c4) ∧ X.cell? ⟨B, 4, none⟩ = some (.int .i64 z.s.sw) ∧ X.cell? ⟨B, 5, none⟩ = some (.slice z.p.a5 z.s.links.length z.p.c5) ∧ X.cell? ⟨B, 6, none⟩ = some (.slice z.p.a6 z.s.hosts.length z.p.c6) ∧ X.cell? ⟨B, 7, none⟩ = some (.slice z.A z.xs.length z.c) ∧ X.cell? ⟨B, 8, none⟩ = some (.slice (some ⟨qb, qo, none⟩) z.d.hosts.length z.q.c1) ∧ X.cell? ⟨B, 9, none⟩ = some (.slice z.q.a2 z.d.reps.length z.q.c2) ∧ X.cell? ⟨sb, 7, none⟩ = some (.int .i64 x.1.fw) ∧ X.cell? ⟨qb, qo + hn * 2 + 1, none⟩ = some (.int .i64 fw))
              (first | exact HC2.out wr HKbwr.out | fail)
              (first
                | fail)
            go_wp2_with (fail)
            go_at_call 29
            refine (c_coll z W0 g kb 7 fv mm (k : Int) (hn : Int) _ (hFi.out.on (Below.refl _ _).drew) HMM.out).mono ?_
            rintro e u ⟨rfl, fy, ky⟩
            have HY := Lib.hid fy
            have HKY := Lib.hid ((hKi.out.trans (hFi.out.kg (Below.refl _ _).drew)).trans ky)
            clear fy ky
            go_wp2_with (fail)
            go_roundw
            case rel => exact ⟨q + 1, by omega, by go_num, Lib.hid (by rw [HSJ.out]; exact HY.out), HKY⟩
            case measure => simp only [intOf]; omega
        · obtain rfl : q = wl.length := by omega
          have HFI := Lib.hid (show Fnd z W0 g kb 7 fv (l ++ bk2 7 (bnFrm z.ss z.d) (k + 1)) wr by have := hFi.out; rw [List.take_length] at this; rw [HSK.out]; exact this)
          have HKI := Lib.hid ((HKV.out.trans HK1.out).trans hKi.out)
          go_wp2_with (fail)
          go_roundw
          case rel => exact ⟨k + 1, by omega, by go_num, HFI, HKI⟩
          case measure => simp only [intOf]; omega
    · obtain rfl : k = z.xs.length := by omega
      go_wp2_with (fail)
      go_end0
      exact HQ.out _ (by have := hFr.out; unfold bnK; unfold Sn.ss; rw [svs_len]; exact this) hKr.out
end Go.Proofs.YtbbadnlaelgmlaaGreat

namespace Go.Proofs.YtbbadnlaelgmlaaGreat
open Go.RowKit
set_option maxRecDepth 100000
set_option linter.unusedVariables false
set_option linter.unusedSimpArgs false

/-- Numbers that a walk has made, in a block of their own. -/
def Sen (w : World) (g : Nat) (l : List Int) : Prop := w.heap[g]? = some (.cells (ints l).toArray 3 (0, 0))
theorem Sen.on {w w' : World} {g B : Nat} {l : List Int} (h : Sen w g l) (hb : Below B w w') (hB : w.heap.size ≤ B) : Sen w' g l := (hb.block _ (Nat.lt_of_lt_of_le (at_lt h) hB)).trans h
theorem Sen.cell {w : World} {g j : Nat} {l : List Int} {x : Int} (h : Sen w g l) (hj : l[j]? = some x) : w.cell? ⟨g, j, none⟩ = some (.int .i64 x) := cell_of h (by simp [ints, hj])
theorem Sen.set {w : World} {g j : Nat} {l : List Int} (h : Sen w g l) (x : Int) : Sen (w.setCell ⟨g, j, none⟩ (.int .i64 x)) g (l.set j x) := by
  have := set_field (o := j) h (.int .i64 x)
  unfold Sen
  rw [this]
  simp [ints, List.map_set]
theorem own_blk {w : World} {base n g : Nat} {T : TypeId} {xs : List Value} (h : w.ownsRow base T 1 (.slice (some ⟨g, 0, none⟩) n n) n xs) : w.heap[g]? = some (.cells xs.toArray T (0, 0)) := by
  obtain ⟨k1, ⟨e, -⟩ | ⟨g', cap', cur, e, k3, k4, k5, k6, k7, k8⟩⟩ := h
  · cases e
  · injection e with e1 _ e2
    injection e1 with e1
    injection e1 with e1
    subst e1 e2
    rw [k4]
    have hl : cur.toList = xs := by rw [← k8, List.take_of_length_le (by simp [k7])]
    rw [← hl]
theorem Rw.setOff {α : Type} {k : Nat} {F : α → Nat → Int} {w : World} {A : Option Addr} {c : Nat} {l : List α} {g j : Nat} {v : Value} (h : Rw k F w A c l) (hne : ∀ b o, A = some ⟨b, o, none⟩ → b ≠ g) : Rw k F (w.setCell ⟨g, j, none⟩ v) A c l := by
  obtain ⟨h1, h2, h4⟩ := h
  refine ⟨h1, h2, fun h0 => ?_⟩
  obtain ⟨b, o, e, hlt, hc⟩ := h4 h0
  refine ⟨b, o, e, by simpa [World.setCell] using hlt, fun q x hq i hi => ?_⟩
  have hb := hne b o e
  have e2 := hc q x hq i hi
  unfold World.cell? at e2 ⊢
  simp only at e2 ⊢
  rw [Below.heap_setCell _ ⟨g, j, none⟩ v b hb]
  exact e2
theorem own_off {w : World} {base : Nat} {e : TypeId} {size n c g : Nat} {A : Option Addr} {xs : List Value} (h : w.ownsRow base e size (.slice A n c) n xs) (hg : g < base) : ∀ b o, A = some ⟨b, o, none⟩ → b ≠ g := by
  intro b o hA
  obtain ⟨k1, ⟨e, -⟩ | ⟨g', cap', cur, e, k3, -⟩⟩ := h
  · injection e with e1 _ _; rw [hA] at e1; cases e1
  · injection e with e1 _ _
    rw [hA] at e1
    injection e1 with e1
    injection e1 with e1 _
    omega
theorem Fnd.loc {z : Sn} {W0 V X : World} {g kb kd m : Nat} {fv : Value} {l : List Bn} {o : Obj} (h : Fnd z W0 g kb kd fv l V) (hb : Below V.heap.size V X) (hx : X.heap[m]? = some o) (hm : V.heap.size ≤ m) : Loc g X m o := by
  refine ⟨hx, by have := h.gl; omega, fun e2 => ?_⟩
  have e3 : lbk V g = some m := by rw [← e2]; unfold lbk; rw [hb.block g h.gl]
  have := (h.co.lb e3).2.1
  omega
theorem c_countTo (z : Sn) (d : Nat) (hd : d < 256) (r : Int) (hr : cntD z.s d = r) (w : World) (h : SnAt w z) :
    Calls Tryz.prog 96 #[.agg #[.slice z.p.a1 z.s.feeds.length z.p.c1, .slice z.p.a2 z.s.brks.length z.p.c2, .slice z.p.a3 z.s.loops.length z.p.c3, .slice z.p.a4 z.s.racks.length z.p.c4, .int .i64 z.s.sw, .slice z.p.a5 z.s.links.length z.p.c5, .slice z.p.a6 z.s.hosts.length z.p.c6], .int .u8 (d : Int)] w fun e w' => e = .returned (.int .i64 r) ∧ Below w.heap.size w w' := c_Count z.p z.s d hd r hr w h.si
theorem c_domTo (z : Sn) (d : Nat) (hd : d < 256) (host r : Int) (hr : domD z.s d host = r) (w : World) (h : SnAt w z) :
    Calls Tryz.prog 98 #[.agg #[.slice z.p.a1 z.s.feeds.length z.p.c1, .slice z.p.a2 z.s.brks.length z.p.c2, .slice z.p.a3 z.s.loops.length z.p.c3, .slice z.p.a4 z.s.racks.length z.p.c4, .int .i64 z.s.sw, .slice z.p.a5 z.s.links.length z.p.c5, .slice z.p.a6 z.s.hosts.length z.p.c6], .int .u8 (d : Int), .int .i64 host] w fun e w' => e = .returned (.int .i64 r) ∧ Below w.heap.size w w' := c_DomainOf z.p z.s d hd host r hr w h.si
/-! How many are in each domain. -/
def cntL (s : SiteD) (k c : Nat) (l : List Int) : List Int := (List.range c).map fun n => ((inDm s k l n : Nat) : Int)
theorem cntL_len (s : SiteD) (k c : Nat) (l : List Int) : (cntL s k c l).length = c := by simp [cntL]
theorem cntL_nil (s : SiteD) (k c : Nat) : cntL s k c [] = List.replicate c 0 := by
  refine List.ext_getElem (by simp [cntL]) fun i h1 h2 => ?_
  simp [cntL, inDm]
theorem cntL_get {s : SiteD} {k c : Nat} {l : List Int} {n : Nat} (h : n < c) : (cntL s k c l)[n]? = some ((inDm s k l n : Nat) : Int) := by
  unfold cntL
  rw [List.getElem?_map, List.getElem?_range h]; rfl
theorem inDm_snoc (s : SiteD) (k : Nat) (l : List Int) (h : Int) (n : Nat) : inDm s k (l ++ [h]) n = inDm s k l n + if domD s k h = (n : Int) then 1 else 0 := by
  unfold inDm
  rw [List.filter_append, List.length_append]
  congr 1
  by_cases e : domD s k h = (n : Int)
  · rw [if_pos e]; simp [e]
  · rw [if_neg e]; simp [e]
theorem cntL_snoc {s : SiteD} {k c : Nat} {l : List Int} {h : Int} {n : Nat} (hn : n < c) (hd : domD s k h = (n : Int)) : cntL s k c (l ++ [h]) = (cntL s k c l).set n (((inDm s k l n : Nat) : Int) + 1) := by
  refine List.ext_getElem (by simp [cntL]) fun i h1 h2 => ?_
  rw [List.getElem_set]
  have hi : i < c := by rw [cntL_len] at h1; exact h1
  have e1 : (cntL s k c (l ++ [h]))[i] = ((inDm s k (l ++ [h]) i : Nat) : Int) := by simp [cntL]
  rw [e1, inDm_snoc, hd]
  by_cases e : n = i
  · subst e
    rw [if_pos rfl, if_pos rfl]; omega
  · rw [if_neg (by omega), if_neg e]
    simp [cntL]
theorem sprL_succ (s : SiteD) (x : Svc) (l : List Int) (n : Nat) : sprL s x l (n + 1) = sprL s x l n ++ if x.spread < ((inDm s x.dom l n : Nat) : Int) then [(n : Int)] else [] := by
  unfold sprL
  rw [List.range_succ, List.filter_append, List.map_append]
  congr 1
  by_cases e : x.spread < ((inDm s x.dom l n : Nat) : Int)
  · rw [if_pos e]; simp [e]
  · rw [if_neg e]; simp [e]
theorem sprL_len (s : SiteD) (x : Svc) (l : List Int) (n : Nat) : (sprL s x l n).length ≤ n := by
  unfold sprL
  rw [List.length_map]
  exact Nat.le_trans (List.length_filter_le _ _) (by simp)
theorem cnt_few {z : Sn} (ok : z.Ok) (d : Nat) : 0 ≤ cntD z.s d ∧ cntD z.s d ≤ 16 := by
  have h1 := few_hosts ok; have h2 := (siteOk_iff.1 ok.1).nracks; have h3 := few_feeds ok; have h4 := few_loops ok
  unfold cntD
  rw [if_pos ok.1]
  unfold cntOf
  split <;> omega
theorem spr_len {z : Sn} (ok : z.Ok) (i : Nat) (hi : i < z.xs.length) : (bnSpr z.s z.ss z.d i).length ≤ 100 := by
  unfold bnSpr
  refine Nat.le_trans (sprL_len _ _ _ _) ?_
  have := cnt_few ok (svAt z.ss i).dom
  omega
theorem svc_dom {z : Sn} (ok : z.Ok) {i : Nat} (hi : i < z.xs.length) : (svAt z.ss i).dom ≤ 5 :=
  (keepB_iff.1 (svc_names ok.2.1 (i := i) (by unfold Sn.ss; rw [svs_len]; exact hi)).2.2).2.2.2.2.1
theorem dom_of {z : Sn} (ok : z.Ok) {d : Nat} (hd : 1 ≤ d ∧ d ≤ 5) {h : Int} (hh : 0 ≤ h ∧ h < z.d.hosts.length) : 0 ≤ domD z.s d h ∧ domD z.s d h < cntD z.s d := by
  have hl := ok.2.2.1
  unfold domD cntD
  rw [if_pos ⟨ok.1, hd, ixB_iff.2 (by omega)⟩, if_pos ok.1]
  exact dom_in (siteOk_iff.1 ok.1) (by omega) hd
set_option maxHeartbeats 16000000 in
theorem c_findSpreads (z : Sn) (W0 : World) (g kb : Nat) (fv : Value) (l : List Bn) (ok : z.Ok) (hl : l.length ≤ 5000) (w : World) (h : Fnd z W0 g kb 4 fv l w) :
    Calls Tryz.prog 52 #[.agg #[.slice z.p.a1 z.s.feeds.length z.p.c1, .slice z.p.a2 z.s.brks.length z.p.c2, .slice z.p.a3 z.s.loops.length z.p.c3, .slice z.p.a4 z.s.racks.length z.p.c4, .int .i64 z.s.sw, .slice z.p.a5 z.s.links.length z.p.c5, .slice z.p.a6 z.s.hosts.length z.p.c6, .slice z.A z.xs.length z.c, .slice z.q.a1 z.d.hosts.length z.q.c1, .slice z.q.a2 z.d.reps.length z.q.c2], .func (.func 29) #[] #[.pointer (some ⟨g, 0, none⟩), .pointer (some ⟨kb, 0, none⟩)]] w fun e w' => e = .returned (.tuple #[]) ∧ Fnd z W0 g kb 4 fv (l ++ bnK z.s z.ss z.d 4) w' ∧ Kg g w w' := by
  obtain ⟨W, h1⟩ : ∃ W, W = w.alloc (.cells #[.slice z.p.a1 z.s.feeds.length z.p.c1, .slice z.p.a2 z.s.brks.length z.p.c2, .slice z.p.a3 z.s.loops.length z.p.c3, .slice z.p.a4 z.s.racks.length z.p.c4, .int .i64 z.s.sw, .slice z.p.a5 z.s.links.length z.p.c5, .slice z.p.a6 z.s.hosts.length z.p.c6, .slice z.A z.xs.length z.c, .slice z.q.a1 z.d.hosts.length z.q.c1, .slice z.q.a2 z.d.reps.length z.q.c2] 71) := ⟨_, rfl⟩
  have B1 : Below w.heap.size w W := by rw [h1]; exact (Below.refl _ _).alloc (Nat.le_refl _) _
  have L0 : Loc g W w.heap.size (.cells #[.slice z.p.a1 z.s.feeds.length z.p.c1, .slice z.p.a2 z.s.brks.length z.p.c2, .slice z.p.a3 z.s.loops.length z.p.c3, .slice z.p.a4 z.s.racks.length z.p.c4, .int .i64 z.s.sw, .slice z.p.a5 z.s.links.length z.p.c5, .slice z.p.a6 z.s.hosts.length z.p.c6, .slice z.A z.xs.length z.c, .slice z.q.a1 z.d.hosts.length z.q.c1, .slice z.q.a2 z.d.reps.length z.q.c2] 71 (0, 0)) := by rw [h1]; exact h.new _
  have HF := Lib.hid (h.on B1)
  have HKG := Lib.hid (h.kg B1)
  have HS := Lib.hid (fun (X : World) (hX : Kg g W X) => (scn_cells (L0.on hX) : X.cell? ⟨w.heap.size, 0, none⟩ = some (.slice z.p.a1 z.s.feeds.length z.p.c1) ∧ X.cell? ⟨w.heap.size, 1, none⟩ = some (.slice z.p.a2 z.s.brks.length z.p.c2) ∧ X.cell? ⟨w.heap.size, 2, none⟩ = some (.slice z.p.a3 z.s.loops.length z.p.c3) ∧ X.cell? ⟨w.heap.size, 3, none⟩ = some (.slice z.p.a4 z.s.racks.length z.p.c4) ∧ X.cell? ⟨w.heap.size, 4, none⟩ = some (.int .i64 z.s.sw) ∧ X.cell? ⟨w.heap.size, 5, none⟩ = some (.slice z.p.a5 z.s.links.length z.p.c5) ∧ X.cell? ⟨w.heap.size, 6, none⟩ = some (.slice z.p.a6 z.s.hosts.length z.p.c6) ∧ X.cell? ⟨w.heap.size, 7, none⟩ = some (.slice z.A z.xs.length z.c) ∧ X.cell? ⟨w.heap.size, 8, none⟩ = some (.slice z.q.a1 z.d.hosts.length z.q.c1) ∧ X.cell? ⟨w.heap.size, 9, none⟩ = some (.slice z.q.a2 z.d.reps.length z.q.c2)))
  have HK0 := Lib.hid (Kg.refl g W)
  obtain ⟨n1, n2, n3, n4, n5, n6, n7, n8⟩ := h.snx.bounds
  have HOK := Lib.hid ok
  have HL := Lib.hid hl
  have HPO : ∀ X, Fnd z W0 g kb 4 fv (l ++ bnK z.s z.ss z.d 4) X → Kg g W X → (Ending.returned (.tuple #[]) = .returned (.tuple #[]) ∧ Fnd z W0 g kb 4 fv (l ++ bnK z.s z.ss z.d 4) X ∧ Kg g w X) := fun X hx hk => ⟨rfl, hx, HKG.out.trans hk⟩
  obtain ⟨Q, hQ⟩ : ∃ Q : Ending → World → Prop, Q = fun e w' => e = .returned (.tuple #[]) ∧ Fnd z W0 g kb 4 fv (l ++ bnK z.s z.ss z.d 4) w' ∧ Kg g w w' := ⟨_, rfl⟩
  have HQ := Lib.hid (fun X hx hk => (by rw [hQ]; exact HPO X hx hk : Q (.returned (.tuple #[])) X))
  rw [← hQ]
  clear h B1 L0 hl HKG HPO hQ ok
  obtain ⟨f0, f1, f2, f3, f4, f5, f6, f7, f8, f9⟩ := HS.out W HK0.out
  rw [h1] at f0 f1 f2 f3 f4 f5 f6 f7 f8 f9
  generalize hBB : w.heap.size = B at *
  go_enter Tryz.func52, Tryz.ntmps52
  go_wp2_with (fail)
  rw [← h1]
  clear h1 f0 f1 f2 f3 f4 f5 f6 f7 f8 f9
  have hnn := few_svcs HOK.out
  have hrp := few_reps HOK.out
  go_loopw [15] (fun i wr => ∃ k : Nat, k ≤ z.xs.length ∧ i = .int .i64 (k : Int) ∧ Hid (Fnd z W0 g kb 4 fv (l ++ bk2 4 (bnSpr z.s z.ss z.d) k) wr) ∧ Hid (Kg g W wr)) (fun i _ => z.xs.length - (intOf i).toNat)
  case atStart => exact ⟨0, Nat.zero_le _, rfl, Lib.hid (by rw [bk2_zero, List.append_nil]; exact HF.out), HK0⟩
  case round =>
    obtain ⟨k, hk, rfl, hFr, hKr⟩ := hrel
    have hki : ((k : Nat) : Int).toNat = k := by omega
    by_cases hlt : k < z.xs.length
    · obtain ⟨x, hx⟩ : ∃ x, z.xs[k]? = some x := ⟨_, List.getElem?_eq_getElem hlt⟩
      have hki2 : (k : Int) < (z.xs.length : Int) := by omega
      obtain ⟨m, hm⟩ : ∃ m, l ++ bk2 4 (bnSpr z.s z.ss z.d) k = m := ⟨_, rfl⟩
      have HSV := Lib.hid (svAt_eq (show z.ss[k]? = some x.1 from svs_at hx))
      have HSU := Lib.hid (show l ++ bk2 4 (bnSpr z.s z.ss z.d) (k + 1) = m ++ ((bnSpr z.s z.ss z.d) k).map fun y => ⟨4, (k : Int), y⟩ by rw [bk2_succ, ← List.append_assoc, hm])
      have HML := Lib.hid (show m.length ≤ 6000 by
        rw [← hm, List.length_append]
        have h1 := bk2_len 4 100 (bnSpr z.s z.ss z.d) k (fun i hi => spr_len HOK.out i (by omega))
        have := HL.out; omega)
      rw [hm] at hFr
      clear hm
      have hsn := hFr.out.snx
      obtain ⟨pb, po, e7, hpb, x0, x1, x2, x3, x4, x5, x6, x7⟩ := sv_of hsn hx
      have HXM := Lib.hid (List.mem_of_getElem? hx)
      obtain ⟨V, hV⟩ : ∃ X, X = wr.alloc (.cells #[.int .i64 x.1.cores, .int .i64 x.1.reps, .int .i64 x.1.least, .int .u8 (x.1.dom : Int), .int .i64 x.1.spread, .slice x.2.a1 x.1.apart.length x.2.c1, .slice x.2.a2 x.1.near.length x.2.c2, .int .i64 x.1.fw] 94) := ⟨_, rfl⟩
      have bV : Below wr.heap.size wr V := by rw [hV]; exact (Below.refl _ _).alloc (Nat.le_refl _) _
      have LV : Loc g V wr.heap.size (.cells #[.int .i64 x.1.cores, .int .i64 x.1.reps, .int .i64 x.1.least, .int .u8 (x.1.dom : Int), .int .i64 x.1.spread, .slice x.2.a1 x.1.apart.length x.2.c1, .slice x.2.a2 x.1.near.length x.2.c2, .int .i64 x.1.fw] 94 (0, 0)) := by rw [hV]; exact hFr.out.new _
      have HFV := Lib.hid (hFr.out.on bV)
      have HKV := Lib.hid (hKr.out.trans (hFr.out.kg bV))
      have HC := Lib.hid (fun (X : World) (hX : Kg g V X) => (by
        obtain ⟨f0, f1, f2, f3, f4, f5, f6, f7, f8, f9⟩ := HS.out X (HKV.out.trans hX)
        exact ⟨f0, f1, f2, f3, f4, f5, f6, f7, f8, f9, (LV.on hX).cell rfl, (LV.on hX).cell rfl, (LV.on hX).cell rfl, (LV.on hX).cell rfl, (LV.on hX).cell rfl, (LV.on hX).cell rfl, (LV.on hX).cell rfl, (LV.on hX).cell rfl⟩ : X.cell? ⟨B, 0, none⟩ = some (.slice z.p.a1 z.s.feeds.length z.p.c1) ∧ X.cell? ⟨B, 1, none⟩ = some (.slice z.p.a2 z.s.brks.length z.p.c2) ∧ X.cell? ⟨B, 2, none⟩ = some (.slice z.p.a3 z.s.loops.length z.p.c3) ∧ X.cell? ⟨B, 3, none⟩ = some (.slice z.p.a4 z.s.racks.length z.p.c4) ∧ X.cell? ⟨B, 4, none⟩ = some (.int .i64 z.s.sw) ∧ X.cell? ⟨B, 5, none⟩ = some (.slice z.p.a5 z.s.links.length z.p.c5) ∧ X.cell? ⟨B, 6, none⟩ = some (.slice z.p.a6 z.s.hosts.length z.p.c6) ∧ X.cell? ⟨B, 7, none⟩ = some (.slice z.A z.xs.length z.c) ∧ X.cell? ⟨B, 8, none⟩ = some (.slice z.q.a1 z.d.hosts.length z.q.c1) ∧ X.cell? ⟨B, 9, none⟩ = some (.slice z.q.a2 z.d.reps.length z.q.c2) ∧ X.cell? ⟨wr.heap.size, 0, none⟩ = some (.int .i64 x.1.cores) ∧ X.cell? ⟨wr.heap.size, 1, none⟩ = some (.int .i64 x.1.reps) ∧ X.cell? ⟨wr.heap.size, 2, none⟩ = some (.int .i64 x.1.least) ∧ X.cell? ⟨wr.heap.size, 3, none⟩ = some (.int .u8 (x.1.dom : Int)) ∧ X.cell? ⟨wr.heap.size, 4, none⟩ = some (.int .i64 x.1.spread) ∧ X.cell? ⟨wr.heap.size, 5, none⟩ = some (.slice x.2.a1 x.1.apart.length x.2.c1) ∧ X.cell? ⟨wr.heap.size, 6, none⟩ = some (.slice x.2.a2 x.1.near.length x.2.c2) ∧ X.cell? ⟨wr.heap.size, 7, none⟩ = some (.int .i64 x.1.fw)))
      have HKVV := Lib.hid (Kg.refl g V)
      obtain ⟨f0, f1, f2, f3, f4, f5, f6, f7, f8, f9, s0, s1, s2, s3, s4, s5, s6, s7⟩ := HC.out V HKVV.out
      rw [hV] at f0 f1 f2 f3 f4 f5 f6 f7 f8 f9 s0 s1 s2 s3 s4 s5 s6 s7
      clear hx bV LV hsn
      obtain ⟨wl, hwl⟩ : ∃ wl, whereD z.d.reps (k : Int) = wl := ⟨_, rfl⟩
      have HWL := Lib.hid hwl
      obtain ⟨dm, hdm⟩ : ∃ dm, x.1.dom = dm := ⟨_, rfl⟩
      have HDM := Lib.hid hdm
      have hd5 : dm ≤ 5 := by have := svc_dom HOK.out hlt; rw [HSV.out, hdm] at this; exact this
      obtain ⟨c, hc⟩ : ∃ c : Nat, cntD z.s dm = (c : Int) := ⟨(cntD z.s dm).toNat, by have := (cnt_few HOK.out dm).1; omega⟩
      have hc16 : c ≤ 16 := by have := (cnt_few HOK.out dm).2; omega
      have HCN := Lib.hid hc
      have HSK := Lib.hid (show l ++ bk2 4 (bnSpr z.s z.ss z.d) (k + 1) = m ++ (sprL z.s x.1 wl c).map fun y => ⟨4, (k : Int), y⟩ by rw [HSU.out]; unfold bnSpr; rw [HSV.out, HWL.out, hdm, hc, Int.toNat_natCast])
      have hwn : wl.length ≤ 100 := by rw [← hwl]; exact Nat.le_trans (where_len _ _) (by omega)
      rw [hdm] at HC hV x3 f0 f1 f2 f3 f4 f5 f6 f7 f8 f9 s0 s1 s2 s3 s4 s5 s6 s7
      clear hwl hdm hc
      rw [e7]
      rcases t0 : ((dm : Int) == 0) with _ | _
      · have hd1 : 1 ≤ dm := by rw [beq_eq_false_iff_ne] at t0; omega
        obtain ⟨i0, hi0, hzz0, hzz1, hzz2⟩ := info_parts int_info
        go_wp2_with (fail)
        rw [← hV]
        clear hV f0 f1 f2 f3 f4 f5 f6 f7 f8 f9 s0 s1 s2 s3 s4 s5 s6 s7 x0 x1 x2 x3 x4 x5 x6 x7
        generalize hsb : wr.heap.size = sb at *
        go_at_call 96
        refine (c_countTo z dm (by omega) (c : Int) HCN.out V HFV.out.snx).mono ?_
        rintro e v1 ⟨rfl, b1⟩
        have HB1 := Lib.hid b1
        obtain ⟨f0, f1, f2, f3, f4, f5, f6, f7, f8, f9, s0, s1, s2, s3, s4, s5, s6, s7⟩ := HC.out v1 (HFV.out.kg b1)
        clear b1
        go_wp2_with (at_make; refine wpList_make_full (P := Tryz.prog) _ rfl _ _ 91 rfl v1.heap.size 3 i0 (.int .i64 0) 1 Tryz.underlying91 hi0 hzz0 hzz1 .i64 .i64 _ _ c rfl rfl rfl rfl (by rw [hzz2]; omega) (by unfold maxLen; omega) (Nat.le_refl _) ?_; intro w3 ho2 hg2; have HO2 := Lib.hid ho2; have HBE2 := Lib.hid ((Below.refl v1.heap.size v1).grown hg2 (Nat.le_refl _) (fun k hk => by cases hk)); clear ho2 hg2; obtain ⟨r0, r1, r2, r3, r4, r5, r6, r7, r8, r9, q0, q1, q2, q3, q4, q5, q6, q7⟩ := HC.out w3 (HFV.out.kg (below_join HB1.out HBE2.out HB1.out.size)))
        clear f0 f1 f2 f3 f4 f5 f6 f7 f8 f9 s0 s1 s2 s3 s4 s5 s6 s7 r0 r1 r2 r3 r4 r5 r6 r7 r8 r9 q0 q1 q2 q3 q4 q5 q6 q7
        obtain ⟨gr, hgr⟩ : ∃ gr, gr = v1.heap.size := ⟨_, rfl⟩
        rw [← hgr] at HO2 ⊢
        have HB3 := Lib.hid (below_join HB1.out HBE2.out HB1.out.size)
        have S3 := Lib.hid (show Sen w3 gr (cntL z.s dm c (wl.take 0)) by
          have h := own_blk HO2.out
          rw [show (Value.int .i64 0).cells = #[.int .i64 0] from rfl, Nat.mul_one, toList_madeCells_one] at h
          unfold Sen
          rw [h, List.take_zero, cntL_nil]
          simp [ints])
        have hgl : gr < w3.heap.size := at_lt S3.out
        have hgV : V.heap.size ≤ gr := by rw [hgr]; exact HB1.out.size
        clear HO2 hgr HBE2
        go_at_call 97
        refine (c_whereOwn z (k : Int) wl HWL.out (by omega) w3 (HFV.out.on HB3.out).snx).mono ?_
        rintro e w4 ⟨A1, q1, rfl, ho4, b4⟩
        have HB4 := Lib.hid (below_join HB3.out b4 HB3.out.size)
        have S4 := Lib.hid (S3.out.on b4 (Nat.le_refl _))
        have HRW := Lib.hid (own_rwA ho4)
        have HNE := Lib.hid (own_off ho4 hgl)
        clear ho4 b4
        go_wp2_with (fail)
        go_loopw [34] (fun i wr => ∃ q : Nat, q ≤ wl.length ∧ i = .int .i64 (q : Int) ∧ Hid (Below V.heap.size V wr) ∧ Hid (Sen wr gr (cntL z.s dm c (wl.take q))) ∧ Hid (Rw 1 inF wr A1 q1 wl)) (fun i _ => wl.length - (intOf i).toNat)
        case atStart => exact ⟨0, Nat.zero_le _, rfl, HB4, S4, HRW⟩
        case round =>
          obtain ⟨q, hq, rfl, hBq, hSq, hRq⟩ := hrel
          have hqi : ((q : Nat) : Int).toNat = q := by omega
          by_cases hql : q < wl.length
          · obtain ⟨y, hy⟩ : ∃ y, wl[q]? = some y := ⟨_, List.getElem?_eq_getElem hql⟩
            have hqi2 : (q : Int) < ((wl.length : Nat) : Int) := by omega
            have hyin := where_in (s := (k : Int)) HOK.out (h := y) (by rw [HWL.out]; exact List.mem_of_getElem? hy)
            have hdo := dom_of HOK.out ⟨hd1, hd5⟩ hyin
            obtain ⟨dn, hdn⟩ : ∃ dn : Nat, domD z.s dm y = (dn : Int) := ⟨(domD z.s dm y).toNat, by omega⟩
            have hdc : dn < c := by have := HCN.out; omega
            have hdi : ((dn : Nat) : Int).toNat = dn := by omega
            have hdi2 : (dn : Int) < (c : Int) := by omega
            have HDN := Lib.hid hdn
            obtain ⟨ab, ao, ea, -, -⟩ := hRq.out.at_ hy
            have hrw2 := hRq.out
            rw [ea] at hrw2
            have y0 := inRw hrw2 hy
            obtain ⟨old, hold⟩ : ∃ old : Nat, inDm z.s dm (wl.take q) dn = old := ⟨_, rfl⟩
            have hob : old ≤ 100 := by
              rw [← hold]; unfold inDm
              have h1 := List.length_filter_le (fun h => domD z.s dm h == (dn : Int)) (wl.take q)
              rw [List.length_take] at h1; omega
            have HST := Lib.hid (show cntL z.s dm c (wl.take (q + 1)) = (cntL z.s dm c (wl.take q)).set dn ((old : Int) + 1) by
              rw [List.take_add_one, hy, ← hold]
              exact cntL_snoc hdc hdn)
            have HGE := Lib.hid (show (cntL z.s dm c (wl.take q))[dn]? = some (old : Int) by rw [cntL_get hdc, hold])
            obtain ⟨f0, f1, f2, f3, f4, f5, f6, f7, f8, f9, s0, s1, s2, s3, s4, s5, s6, s7⟩ := HC.out wr (HFV.out.kg hBq.out)
            clear hy hyin hdo hdn hrw2 hold
            rw [ea]
            go_wp2_with (fail)
            clear f0 f1 f2 f3 f4 f5 f6 f7 f8 f9 s0 s1 s2 s3 s4 s5 s6 s7 y0
            go_at_call 98
            refine (c_domTo z dm (by omega) y (dn : Int) HDN.out wr (HFV.out.on hBq.out).snx).mono ?_
            rintro e v5 ⟨rfl, b5⟩
            have HB5 := Lib.hid (below_join hBq.out b5 hBq.out.size)
            have HS5 := Lib.hid (hSq.out.on b5 (Nat.le_refl _))
            have HR5 := Lib.hid (hRq.out.on b5 (Nat.le_refl _))
            clear b5
            have c5 := HS5.out.cell HGE.out
            have fz : v5.frozen? ⟨gr, dn, none⟩ = false := frz0 HS5.out dn
            have hwr : IntKind.i64.wrap ((old : Int) + 1) = (old : Int) + 1 := wrap_in (by omega) (by omega)
            go_wp2_with (fail)
            clear c5 fz
            have HB6 := Lib.hid (HB5.out.setCell (p := ⟨gr, dn, none⟩) hgV (.int .i64 ((old : Int) + 1)))
            have HS6 := Lib.hid (show Sen (v5.setCell ⟨gr, dn, none⟩ (.int .i64 ((old : Int) + 1))) gr (cntL z.s dm c (wl.take (q + 1))) by rw [HST.out]; exact HS5.out.set _)
            have HR6 := Lib.hid (HR5.out.setOff (g := gr) (j := dn) (v := .int .i64 ((old : Int) + 1)) HNE.out)
            go_roundw
            case rel => exact ⟨q + 1, by omega, by go_num, HB6, HS6, Lib.hid (by rw [← ea]; exact HR6.out)⟩
            case measure => simp only [intOf]; omega
          · obtain rfl : q = wl.length := by omega
            have HL5 := Lib.hid (HFV.out.loc hBq.out (m := gr) (o := .cells (ints (cntL z.s dm c wl)).toArray 3 (0, 0)) (by have := hSq.out; rw [List.take_length] at this; exact this) hgV)
            have HF5 := Lib.hid (HFV.out.on hBq.out)
            have HK5 := Lib.hid (HFV.out.kg hBq.out)
            obtain ⟨V5, hV5⟩ : ∃ V5, wr = V5 := ⟨_, rfl⟩
            rw [hV5] at HL5 HF5 HK5
            rw [hV5]
            clear hV5 hBq hSq hRq
            have HK55 := Lib.hid (Kg.refl g V5)
            go_wp2_with (fail)
            go_loopw [52] (fun i wr => ∃ q : Nat, q ≤ c ∧ i = .int .i64 (q : Int) ∧ Hid (Fnd z W0 g kb 4 fv (m ++ (sprL z.s x.1 wl q).map fun y => ⟨4, (k : Int), y⟩) wr) ∧ Hid (Kg g V5 wr)) (fun i _ => c - (intOf i).toNat)
            case atStart => exact ⟨0, Nat.zero_le _, rfl, Lib.hid (by rw [show sprL z.s x.1 wl 0 = [] from rfl, List.map_nil, List.append_nil]; exact HF5.out), HK55⟩
            case round =>
              obtain ⟨q, hq, rfl, hFi, hKi⟩ := hrel
              have hqi : ((q : Nat) : Int).toNat = q := by omega
              by_cases hql : q < c
              · have hqi2 : (q : Int) < (c : Int) := by omega
                obtain ⟨mm, hmm⟩ : ∃ mm, m ++ (sprL z.s x.1 wl q).map (fun y => (⟨4, (k : Int), y⟩ : Bn)) = mm := ⟨_, rfl⟩
                obtain ⟨u, hu⟩ : ∃ u : Int, ((inDm z.s dm wl q : Nat) : Int) = u := ⟨_, rfl⟩
                have HSI := Lib.hid (show m ++ (sprL z.s x.1 wl (q + 1)).map (fun y => (⟨4, (k : Int), y⟩ : Bn)) = mm ++ if x.1.spread < u then [⟨4, (k : Int), (q : Int)⟩] else [] by
                  rw [sprL_succ, List.map_append, ← List.append_assoc, hmm, HDM.out, hu]
                  congr 1
                  split <;> rfl)
                have HMM := Lib.hid (show mm.length ≤ 10000 by
                  rw [← hmm, List.length_append, List.length_map]
                  have h1 := sprL_len z.s x.1 wl q
                  have := HML.out; omega)
                rw [hmm] at hFi
                have c5 : wr.cell? ⟨gr, q, none⟩ = some (.int .i64 u) := (HL5.out.on hKi.out).cell (by rw [List.getElem?_toArray]; simp [ints, cntL_get hql, hu])
                clear hmm hu
                obtain ⟨f0, f1, f2, f3, f4, f5, f6, f7, f8, f9, s0, s1, s2, s3, s4, s5, s6, s7⟩ := HC.out wr (HK5.out.trans hKi.out)
                rcases hd : decide (x.1.spread < u) with _ | _
                · have HSJ := Lib.hid (show m ++ (sprL z.s x.1 wl (q + 1)).map (fun y => (⟨4, (k : Int), y⟩ : Bn)) = mm by rw [HSI.out, if_neg (of_decide_eq_false hd), List.append_nil])
                  go_wp2_with (fail)
                  clear f0 f1 f2 f3 f4 f5 f6 f7 f8 f9 s0 s1 s2 s3 s4 s5 s6 s7 c5
                  go_roundw
                  case rel => exact ⟨q + 1, by omega, by go_num, Lib.hid (by rw [HSJ.out]; exact hFi.out), hKi⟩
                  case measure => simp only [intOf]; omega
                · have HSJ := Lib.hid (show m ++ (sprL z.s x.1 wl (q + 1)).map (fun y => (⟨4, (k : Int), y⟩ : Bn)) = mm ++ [⟨4, (k : Int), (q : Int)⟩] by rw [HSI.out, if_pos (of_decide_eq_true hd)])
                  go_wp2_with (fail)
                  clear f0 f1 f2 f3 f4 f5 f6 f7 f8 f9 s0 s1 s2 s3 s4 s5 s6 s7 c5
                  go_at_call 29
                  refine (c_coll z W0 g kb 4 fv mm (k : Int) (q : Int) _ hFi.out HMM.out).mono ?_
                  rintro e u2 ⟨rfl, fy, ky⟩
                  have HY := Lib.hid fy
                  have HKY := Lib.hid (hKi.out.trans ky)
                  clear fy ky
                  go_wp2_with (fail)
                  go_roundw
                  case rel => exact ⟨q + 1, by omega, by go_num, Lib.hid (by rw [HSJ.out]; exact HY.out), HKY⟩
                  case measure => simp only [intOf]; omega
              · obtain rfl : q = c := by omega
                have HFI := Lib.hid (show Fnd z W0 g kb 4 fv (l ++ bk2 4 (bnSpr z.s z.ss z.d) (k + 1)) wr by rw [HSK.out]; exact hFi.out)
                have HKI := Lib.hid ((HKV.out.trans HK5.out).trans hKi.out)
                go_wp2_with (fail)
                go_roundw
                case rel => exact ⟨k + 1, by omega, by go_num, HFI, HKI⟩
                case measure => simp only [intOf]; omega
      · have hd0 : dm = 0 := by have := eq_of_beq t0; omega
        have HFI := Lib.hid (show Fnd z W0 g kb 4 fv (l ++ bk2 4 (bnSpr z.s z.ss z.d) (k + 1)) V by
          have : c = 0 := by
            have h := HCN.out
            rw [hd0] at h
            unfold cntD at h
            rw [if_pos HOK.out.1] at h
            have h2 : cntOf z.s 0 = 0 := rfl
            omega
          rw [HSK.out, this, show sprL z.s x.1 wl 0 = [] from rfl, List.map_nil, List.append_nil]
          exact HFV.out)
        clear hd0
        go_wp2_with (fail)
        rw [← hV]
        clear hV f0 f1 f2 f3 f4 f5 f6 f7 f8 f9 s0 s1 s2 s3 s4 s5 s6 s7 x0 x1 x2 x3 x4 x5 x6 x7
        go_roundw
        case rel => exact ⟨k + 1, by omega, by go_num, HFI, HKV⟩
        case measure => simp only [intOf]; omega
    · obtain rfl : k = z.xs.length := by omega
      go_wp2_with (fail)
      go_end0
      exact HQ.out _ (by have := hFr.out; unfold bnK; unfold Sn.ss; rw [svs_len]; exact this) hKr.out
end Go.Proofs.YtbbadnlaelgmlaaGreat
