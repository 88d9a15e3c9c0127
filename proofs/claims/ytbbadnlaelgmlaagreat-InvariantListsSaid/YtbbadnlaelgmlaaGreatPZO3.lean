/-
  DERIVED. Several texts in one.
-/
import Derived.Test.YtbbadnlaelgmlaaGreatPZO2
import Derived.Test.YtbbadnlaelgmlaaGreatPZO1
import Derived.Laws.StructEq
import Derived.WideKeyRuns
import Derived.WideMake
import Derived.Deep.RegionWith
set_option linter.unusedVariables false
set_option linter.unusedSimpArgs false

namespace Go.Proofs.YtbbadnlaelgmlaaGreat
open Go.RowKit
set_option maxRecDepth 100000
set_option linter.unusedVariables false
set_option linter.unusedSimpArgs false

/-- Numbers that a walk has made, in a block of their own. -/
def Sen (w : World) (g : Nat) (l : List Int) : Prop := w.heap[g]? = some (.cells (ints l).toArray 3 (0, 0))
theorem Sen.on {w w' : World} {g B : Nat} {l : List Int} (h : Sen w g l) (hb : Below B w w') (hB : w.heap.size ≤ B) : Sen w' g l := (hb.block _ (Nat.lt_of_lt_of_le (at_lt h) hB)).trans h
theorem Sen.cell {w : World} {g j : Nat} {l : List Int} {x : Int} (h : Sen w g l) (hj : l[j]? = some x) : w.cell? ⟨g, j, none⟩ = some (.int .i64 x) := cell_of h (by simp [ints, hj])
theorem Sen.set {w : World} {g j : Nat} {l : List Int} (h : Sen w g l) (x : Int) : Sen (w.setCell ⟨g, j, none⟩ (.int .i64 x)) g (l.set j x) := by
  have := set_field (o := j) h (.int .i64 x)
  unfold Sen
  rw [this]
  simp [ints, List.map_set]
theorem own_blk {w : World} {base n g : Nat} {T : TypeId} {xs : List Value} (h : w.ownsRow base T 1 (.slice (some ⟨g, 0, none⟩) n n) n xs) : w.heap[g]? = some (.cells xs.toArray T (0, 0)) := by
  obtain ⟨k1, ⟨e, -⟩ | ⟨g', cap', cur, e, k3, k4, k5, k6, k7, k8⟩⟩ := h
  · cases e
  · injection e with e1 _ e2
    injection e1 with e1
    injection e1 with e1
    subst e1 e2
    rw [k4]
    have hl : cur.toList = xs := by rw [← k8, List.take_of_length_le (by simp [k7])]
    rw [← hl]
theorem Rw.setOff {α : Type} {k : Nat} {F : α → Nat → Int} {w : World} {A : Option Addr} {c : Nat} {l : List α} {g j : Nat} {v : Value} (h : Rw k F w A c l) (hne : ∀ b o, A = some ⟨b, o, none⟩ → b ≠ g) : Rw k F (w.setCell ⟨g, j, none⟩ v) A c l := by
  obtain ⟨h1, h2, h4⟩ := h
  refine ⟨h1, h2, fun h0 => ?_⟩
  obtain ⟨b, o, e, hlt, hc⟩ := h4 h0
  refine ⟨b, o, e, by simpa [World.setCell] using hlt, fun q x hq i hi => ?_⟩
  have hb := hne b o e
  have e2 := hc q x hq i hi
  unfold World.cell? at e2 ⊢
  simp only at e2 ⊢
  rw [Below.heap_setCell _ ⟨g, j, none⟩ v b hb]
  exact e2
theorem own_off {w : World} {base : Nat} {e : TypeId} {size n c g : Nat} {A : Option Addr} {xs : List Value} (h : w.ownsRow base e size (.slice A n c) n xs) (hg : g < base) : ∀ b o, A = some ⟨b, o, none⟩ → b ≠ g := by
  intro b o hA
  obtain ⟨k1, ⟨e, -⟩ | ⟨g', cap', cur, e, k3, -⟩⟩ := h
  · injection e with e1 _ _; rw [hA] at e1; cases e1
  · injection e with e1 _ _
    rw [hA] at e1
    injection e1 with e1
    injection e1 with e1 _
    omega
theorem Fnd.loc {z : Sn} {W0 V X : World} {g kb kd m : Nat} {fv : Value} {l : List Bn} {o : Obj} (h : Fnd z W0 g kb kd fv l V) (hb : Below V.heap.size V X) (hx : X.heap[m]? = some o) (hm : V.heap.size ≤ m) : Loc g X m o := by
  refine ⟨hx, by have := h.gl; omega, fun e2 => ?_⟩
  have e3 : lbk V g = some m := by rw [← e2]; unfold lbk; rw [hb.block g h.gl]
  have := (h.co.lb e3).2.1
  omega
theorem c_countTo (z : Sn) (d : Nat) (hd : d < 256) (r : Int) (hr : cntD z.s d = r) (w : World) (h : SnAt w z) :
    Calls Tryz.prog 96 #[.agg #[.slice z.p.a1 z.s.feeds.length z.p.c1, .slice z.p.a2 z.s.brks.length z.p.c2, .slice z.p.a3 z.s.loops.length z.p.c3, .slice z.p.a4 z.s.racks.length z.p.c4, .int .i64 z.s.sw, .slice z.p.a5 z.s.links.length z.p.c5, .slice z.p.a6 z.s.hosts.length z.p.c6], .int .u8 (d : Int)] w fun e w' => e = .returned (.int .i64 r) ∧ Below w.heap.size w w' := c_Count z.p z.s d hd r hr w h.si
theorem c_domTo (z : Sn) (d : Nat) (hd : d < 256) (host r : Int) (hr : domD z.s d host = r) (w : World) (h : SnAt w z) :
    Calls Tryz.prog 98 #[.agg #[.slice z.p.a1 z.s.feeds.length z.p.c1, .slice z.p.a2 z.s.brks.length z.p.c2, .slice z.p.a3 z.s.loops.length z.p.c3, .slice z.p.a4 z.s.racks.length z.p.c4, .int .i64 z.s.sw, .slice z.p.a5 z.s.links.length z.p.c5, .slice z.p.a6 z.s.hosts.length z.p.c6], .int .u8 (d : Int), .int .i64 host] w fun e w' => e = .returned (.int .i64 r) ∧ Below w.heap.size w w' := c_DomainOf z.p z.s d hd host r hr w h.si
/-! How many are in each domain. -/
def cntL (s : SiteD) (k c : Nat) (l : List Int) : List Int := (List.range c).map fun n => ((inDm s k l n : Nat) : Int)
theorem cntL_len (s : SiteD) (k c : Nat) (l : List Int) : (cntL s k c l).length = c := by simp [cntL]
theorem cntL_nil (s : SiteD) (k c : Nat) : cntL s k c [] = List.replicate c 0 := by
  refine List.ext_getElem (by simp [cntL]) fun i h1 h2 => ?_
  simp [cntL, inDm]
theorem cntL_get {s : SiteD} {k c : Nat} {l : List Int} {n : Nat} (h : n < c) : (cntL s k c l)[n]? = some ((inDm s k l n : Nat) : Int) := by
  unfold cntL
  rw [List.getElem?_map, List.getElem?_range h]; rfl
theorem inDm_snoc (s : SiteD) (k : Nat) (l : List Int) (h : Int) (n : Nat) : inDm s k (l ++ [h]) n = inDm s k l n + if domD s k h = (n : Int) then 1 else 0 := by
  unfold inDm
  rw [List.filter_append, List.length_append]
  congr 1
  by_cases e : domD s k h = (n : Int)
  · rw [if_pos e]; simp [e]
  · rw [if_neg e]; simp [e]
theorem cntL_snoc {s : SiteD} {k c : Nat} {l : List Int} {h : Int} {n : Nat} (hn : n < c) (hd : domD s k h = (n : Int)) : cntL s k c (l ++ [h]) = (cntL s k c l).set n (((inDm s k l n : Nat) : Int) + 1) := by
  refine List.ext_getElem (by simp [cntL]) fun i h1 h2 => ?_
  rw [List.getElem_set]
  have hi : i < c := by rw [cntL_len] at h1; exact h1
  have e1 : (cntL s k c (l ++ [h]))[i] = ((inDm s k (l ++ [h]) i : Nat) : Int) := by simp [cntL]
  rw [e1, inDm_snoc, hd]
  by_cases e : n = i
  · subst e
    rw [if_pos rfl, if_pos rfl]; omega
  · rw [if_neg (by omega), if_neg e]
    simp [cntL]
theorem sprL_succ (s : SiteD) (x : Svc) (l : List Int) (n : Nat) : sprL s x l (n + 1) = sprL s x l n ++ if x.spread < ((inDm s x.dom l n : Nat) : Int) then [(n : Int)] else [] := by
  unfold sprL
  rw [List.range_succ, List.filter_append, List.map_append]
  congr 1
  by_cases e : x.spread < ((inDm s x.dom l n : Nat) : Int)
  · rw [if_pos e]; simp [e]
  · rw [if_neg e]; simp [e]
theorem sprL_len (s : SiteD) (x : Svc) (l : List Int) (n : Nat) : (sprL s x l n).length ≤ n := by
  unfold sprL
  rw [List.length_map]
  exact Nat.le_trans (List.length_filter_le _ _) (by simp)
theorem cnt_few {z : Sn} (ok : z.Ok) (d : Nat) : 0 ≤ cntD z.s d ∧ cntD z.s d ≤ 16 := by
  have h1 := few_hosts ok; have h2 := (siteOk_iff.1 ok.1).nracks; have h3 := few_feeds ok; have h4 := few_loops ok
  unfold cntD
  rw [if_pos ok.1]
  unfold cntOf
  split <;> omega
theorem spr_len {z : Sn} (ok : z.Ok) (i : Nat) (hi : i < z.xs.length) : (bnSpr z.s z.ss z.d i).length ≤ 100 := by
  unfold bnSpr
  refine Nat.le_trans (sprL_len _ _ _ _) ?_
  have := cnt_few ok (svAt z.ss i).dom
  omega
theorem svc_dom {z : Sn} (ok : z.Ok) {i : Nat} (hi : i < z.xs.length) : (svAt z.ss i).dom ≤ 5 :=
  (keepB_iff.1 (svc_names ok.2.1 (i := i) (by unfold Sn.ss; rw [svs_len]; exact hi)).2.2).2.2.2.2.1
theorem dom_of {z : Sn} (ok : z.Ok) {d : Nat} (hd : 1 ≤ d ∧ d ≤ 5) {h : Int} (hh : 0 ≤ h ∧ h < z.d.hosts.length) : 0 ≤ domD z.s d h ∧ domD z.s d h < cntD z.s d := by
  have hl := ok.2.2.1
  unfold domD cntD
  rw [if_pos ⟨ok.1, hd, ixB_iff.2 (by omega)⟩, if_pos ok.1]
  exact dom_in (siteOk_iff.1 ok.1) (by omega) hd
set_option maxHeartbeats 16000000 in
theorem c_findSpreads (z : Sn) (W0 : World) (g kb : Nat) (fv : Value) (l : List Bn) (ok : z.Ok) (hl : l.length ≤ 5000) (w : World) (h : Fnd z W0 g kb 4 fv l w) :
    Calls Tryz.prog 52 #[.agg #[.slice z.p.a1 z.s.feeds.length z.p.c1, .slice z.p.a2 z.s.brks.length z.p.c2, .slice z.p.a3 z.s.loops.length z.p.c3, .slice z.p.a4 z.s.racks.length z.p.c4, .int .i64 z.s.sw, .slice z.p.a5 z.s.links.length z.p.c5, .slice z.p.a6 z.s.hosts.length z.p.c6, .slice z.A z.xs.length z.c, .slice z.q.a1 z.d.hosts.length z.q.c1, .slice z.q.a2 z.d.reps.length z.q.c2], .func (.func 29) #[] #[.pointer (some ⟨g, 0, none⟩), .pointer (some ⟨kb, 0, none⟩)]] w fun e w' => e = .returned (.tuple #[]) ∧ Fnd z W0 g kb 4 fv (l ++ bnK z.s z.ss z.d 4) w' ∧ Kg g w w' := by
  obtain ⟨W, h1⟩ : ∃ W, W = w.alloc (.cells #[.slice z.p.a1 z.s.feeds.length z.p.c1, .slice z.p.a2 z.s.brks.length z.p.c2, .slice z.p.a3 z.s.loops.length z.p.c3, .slice z.p.a4 z.s.racks.length z.p.c4, .int .i64 z.s.sw, .slice z.p.a5 z.s.links.length z.p.c5, .slice z.p.a6 z.s.hosts.length z.p.c6, .slice z.A z.xs.length z.c, .slice z.q.a1 z.d.hosts.length z.q.c1, .slice z.q.a2 z.d.reps.length z.q.c2] 71) := ⟨_, rfl⟩
  have B1 : Below w.heap.size w W := by rw [h1]; exact (Below.refl _ _).alloc (Nat.le_refl _) _
  have L0 : Loc g W w.heap.size (.cells #[.slice z.p.a1 z.s.feeds.length z.p.c1, .slice z.p.a2 z.s.brks.length z.p.c2, .slice z.p.a3 z.s.loops.length z.p.c3, .slice z.p.a4 z.s.racks.length z.p.c4, .int .i64 z.s.sw, .slice z.p.a5 z.s.links.length z.p.c5, .slice z.p.a6 z.s.hosts.length z.p.c6, .slice z.A z.xs.length z.c, .slice z.q.a1 z.d.hosts.length z.q.c1, .slice z.q.a2 z.d.reps.length z.q.c2] 71 (0, 0)) := by rw [h1]; exact h.new _
  have HF := Lib.hid (h.on B1)
  have HKG := Lib.hid (h.kg B1)
  have HS := Lib.hid (fun (X : World) (hX : Kg g W X) => (scn_cells (L0.on hX) : X.cell? ⟨w.heap.size, 0, none⟩ = some (.slice z.p.a1 z.s.feeds.length z.p.c1) ∧ X.cell? ⟨w.heap.size, 1, none⟩ = some (.slice z.p.a2 z.s.brks.length z.p.c2) ∧ X.cell? ⟨w.heap.size, 2, none⟩ = some (.slice z.p.a3 z.s.loops.length z.p.c3) ∧ X.cell? ⟨w.heap.size, 3, none⟩ = some (.slice z.p.a4 z.s.racks.length z.p.c4) ∧ X.cell? ⟨w.heap.size, 4, none⟩ = some (.int .i64 z.s.sw) ∧ X.cell? ⟨w.heap.size, 5, none⟩ = some (.slice z.p.a5 z.s.links.length z.p.c5) ∧ X.cell? ⟨w.heap.size, 6, none⟩ = some (.slice z.p.a6 z.s.hosts.length z.p.c6) ∧ X.cell? ⟨w.heap.size, 7, none⟩ = some (.slice z.A z.xs.length z.c) ∧ X.cell? ⟨w.heap.size, 8, none⟩ = some (.slice z.q.a1 z.d.hosts.length z.q.c1) ∧ X.cell? ⟨w.heap.size, 9, none⟩ = some (.slice z.q.a2 z.d.reps.length z.q.c2)))
  have HK0 := Lib.hid (Kg.refl g W)
  obtain ⟨n1, n2, n3, n4, n5, n6, n7, n8⟩ := h.snx.bounds
  have HOK := Lib.hid ok
  have HL := Lib.hid hl
  have HPO : ∀ X, Fnd z W0 g kb 4 fv (l ++ bnK z.s z.ss z.d 4) X → Kg g W X → (Ending.returned (.tuple #[]) = .returned (.tuple #[]) ∧ Fnd z W0 g kb 4 fv (l ++ bnK z.s z.ss z.d 4) X ∧ Kg g w X) := fun X hx hk => ⟨rfl, hx, HKG.out.trans hk⟩
  obtain ⟨Q, hQ⟩ : ∃ Q : Ending → World → Prop, Q = fun e w' => e = .returned (.tuple #[]) ∧ Fnd z W0 g kb 4 fv (l ++ bnK z.s z.ss z.d 4) w' ∧ Kg g w w' := ⟨_, rfl⟩
  have HQ := Lib.hid (fun X hx hk => (by rw [hQ]; exact HPO X hx hk : Q (.returned (.tuple #[])) X))
  rw [← hQ]
  clear h B1 L0 hl HKG HPO hQ ok
  obtain ⟨f0, f1, f2, f3, f4, f5, f6, f7, f8, f9⟩ := HS.out W HK0.out
  rw [h1] at f0 f1 f2 f3 f4 f5 f6 f7 f8 f9
  generalize hBB : w.heap.size = B at *
  go_enter Tryz.func52, Tryz.ntmps52
  go_wp2_with (fail)
  rw [← h1]
  clear h1 f0 f1 f2 f3 f4 f5 f6 f7 f8 f9
  have hnn := few_svcs HOK.out
  have hrp := few_reps HOK.out
  go_loopw [15] (fun i wr => ∃ k : Nat, k ≤ z.xs.length ∧ i = .int .i64 (k : Int) ∧ Hid (Fnd z W0 g kb 4 fv (l ++ bk2 4 (bnSpr z.s z.ss z.d) k) wr) ∧ Hid (Kg g W wr)) (fun i _ => z.xs.length - (intOf i).toNat)
  case atStart => exact ⟨0, Nat.zero_le _, rfl, Lib.hid (by rw [bk2_zero, List.append_nil]; exact HF.out), HK0⟩
  case round =>
    obtain ⟨k, hk, rfl, hFr, hKr⟩ := hrel
    have hki : ((k : Nat) : Int).toNat = k := by omega
    by_cases hlt : k < z.xs.length
    · obtain ⟨x, hx⟩ : ∃ x, z.xs[k]? = some x := ⟨_, List.getElem?_eq_getElem hlt⟩
      have hki2 : (k : Int) < (z.xs.length : Int) := by omega
      obtain ⟨m, hm⟩ : ∃ m, l ++ bk2 4 (bnSpr z.s z.ss z.d) k = m := ⟨_, rfl⟩
      have HSV := Lib.hid (svAt_eq (show z.ss[k]? = some x.1 from svs_at hx))
      have HSU := Lib.hid (show l ++ bk2 4 (bnSpr z.s z.ss z.d) (k + 1) = m ++ ((bnSpr z.s z.ss z.d) k).map fun y => ⟨4, (k : Int), y⟩ by rw [bk2_succ, ← List.append_assoc, hm])
      have HML := Lib.hid (show m.length ≤ 6000 by
        rw [← hm, List.length_append]
        have h1 := bk2_len 4 100 (bnSpr z.s z.ss z.d) k (fun i hi => spr_len HOK.out i (by omega))
        have := HL.out; omega)
      rw [hm] at hFr
      clear hm
      have hsn := hFr.out.snx
      obtain ⟨pb, po, e7, hpb, x0, x1, x2, x3, x4, x5, x6, x7⟩ := sv_of hsn hx
      have HXM := Lib.hid (List.mem_of_getElem? hx)
      obtain ⟨V, hV⟩ : ∃ X, X = wr.alloc (.cells #[.int .i64 x.1.cores, .int .i64 x.1.reps, .int .i64 x.1.least, .int .u8 (x.1.dom : Int), .int .i64 x.1.spread, .slice x.2.a1 x.1.apart.length x.2.c1, .slice x.2.a2 x.1.near.length x.2.c2, .int .i64 x.1.fw] 94) := ⟨_, rfl⟩
      have bV : Below wr.heap.size wr V := by rw [hV]; exact (Below.refl _ _).alloc (Nat.le_refl _) _
      have LV : Loc g V wr.heap.size (.cells #[.int .i64 x.1.cores, .int .i64 x.1.reps, .int .i64 x.1.least, .int .u8 (x.1.dom : Int), .int .i64 x.1.spread, .slice x.2.a1 x.1.apart.length x.2.c1, .slice x.2.a2 x.1.near.length x.2.c2, .int .i64 x.1.fw] 94 (0, 0)) := by rw [hV]; exact hFr.out.new _
      have HFV := Lib.hid (hFr.out.on bV)
      have HKV := Lib.hid (hKr.out.trans (hFr.out.kg bV))
      have HC := Lib.hid (fun (X : World) (hX : Kg g V X) => (by
        obtain ⟨f0, f1, f2, f3, f4, f5, f6, f7, f8, f9⟩ := HS.out X (HKV.out.trans hX)
        exact ⟨f0, f1, f2, f3, f4, f5, f6, f7, f8, f9, (LV.on hX).cell rfl, (LV.on hX).cell rfl, (LV.on hX).cell rfl, (LV.on hX).cell rfl, (LV.on hX).cell rfl, (LV.on hX).cell rfl, (LV.on hX).cell rfl, (LV.on hX).cell rfl⟩ : X.cell? ⟨B, 0, none⟩ = some (.slice z.p.a1 z.s.feeds.length z.p.c1) ∧ X.cell? ⟨B, 1, none⟩ = some (.slice z.p.a2 z.s.brks.length z.p.c2) ∧ X.cell? ⟨B, 2, none⟩ = some (.slice z.p.a3 z.s.loops.length z.p.c3) ∧ X.cell? ⟨B, 3, none⟩ = some (.slice z.p.a4 z.s.racks.length z.p.c4) ∧ X.cell? ⟨B, 4, none⟩ = some (.int .i64 z.s.sw) ∧ X.cell? ⟨B, 5, none⟩ = some (.slice z.p.a5 z.s.links.length z.p.c5) ∧ X.cell? ⟨B, 6, none⟩ = some (.slice z.p.a6 z.s.hosts.length z.p.c6) ∧ X.cell? ⟨B, 7, none⟩ = some (.slice z.A z.xs.length z.c) ∧ X.cell? ⟨B, 8, none⟩ = some (.slice z.q.a1 z.d.hosts.length z.q.c1) ∧ X.cell? ⟨B, 9, none⟩ = some (.slice z.q.a2 z.d.reps.length z.q.c2) ∧ X.cell? ⟨wr.heap.size, 0, none⟩ = some (.int .i64 x.1.cores) ∧ X.cell? ⟨wr.heap.size, 1, none⟩ = some (.int .i64 x.1.reps) ∧ X.cell? ⟨wr.heap.size, 2, none⟩ = some (.int .i64 x.1.least) ∧ X.cell? ⟨wr.heap.size, 3, none⟩ = some (.int .u8 (x.1.dom : Int)) ∧ X.cell? ⟨wr.heap.size, 4, none⟩ = some (.int .i64 x.1.spread) ∧ X.cell? ⟨wr.heap.size, 5, none⟩ = some (.slice x.2.a1 x.1.apart.length x.2.c1) ∧ X.cell? ⟨wr.heap.size, 6, none⟩ = some (.slice x.2.a2 x.1.near.length x.2.c2) ∧ X.cell? ⟨wr.heap.size, 7, none⟩ = some (.int .i64 x.1.fw)))
      have HKVV := Lib.hid (Kg.refl g V)
      obtain ⟨f0, f1, f2, f3, f4, f5, f6, f7, f8, f9, s0, s1, s2, s3, s4, s5, s6, s7⟩ := HC.out V HKVV.out
      rw [hV] at f0 f1 f2 f3 f4 f5 f6 f7 f8 f9 s0 s1 s2 s3 s4 s5 s6 s7
      clear hx bV LV hsn
      obtain ⟨wl, hwl⟩ : ∃ wl, whereD z.d.reps (k : Int) = wl := ⟨_, rfl⟩
      have HWL := Lib.hid hwl
      obtain ⟨dm, hdm⟩ : ∃ dm, x.1.dom = dm := ⟨_, rfl⟩
      have HDM := Lib.hid hdm
      have hd5 : dm ≤ 5 := by have := svc_dom HOK.out hlt; rw [HSV.out, hdm] at this; exact this
      obtain ⟨c, hc⟩ : ∃ c : Nat, cntD z.s dm = (c : Int) := ⟨(cntD z.s dm).toNat, by have := (cnt_few HOK.out dm).1; omega⟩
      have hc16 : c ≤ 16 := by have := (cnt_few HOK.out dm).2; omega
      have HCN := Lib.hid hc
      have HSK := Lib.hid (show l ++ bk2 4 (bnSpr z.s z.ss z.d) (k + 1) = m ++ (sprL z.s x.1 wl c).map fun y => ⟨4, (k : Int), y⟩ by rw [HSU.out]; unfold bnSpr; rw [HSV.out, HWL.out, hdm, hc, Int.toNat_natCast])
      have hwn : wl.length ≤ 100 := by rw [← hwl]; exact Nat.le_trans (where_len _ _) (by omega)
      rw [hdm] at HC hV x3 f0 f1 f2 f3 f4 f5 f6 f7 f8 f9 s0 s1 s2 s3 s4 s5 s6 s7
      clear hwl hdm hc
      rw [e7]
      rcases t0 : ((dm : Int) == 0) with _ | _
      · have hd1 : 1 ≤ dm := by rw [beq_eq_false_iff_ne] at t0; omega
        obtain ⟨i0, hi0, hzz0, hzz1, hzz2⟩ := info_parts int_info
        go_wp2_with (fail)
        rw [← hV]
        clear hV f0 f1 f2 f3 f4 f5 f6 f7 f8 f9 s0 s1 s2 s3 s4 s5 s6 s7 x0 x1 x2 x3 x4 x5 x6 x7
        generalize hsb : wr.heap.size = sb at *
        go_at_call 96
        refine (c_countTo z dm (by omega) (c : Int) HCN.out V HFV.out.snx).mono ?_
        rintro e v1 ⟨rfl, b1⟩
        have HB1 := Lib.hid b1
        obtain ⟨f0, f1, f2, f3, f4, f5, f6, f7, f8, f9, s0, s1, s2, s3, s4, s5, s6, s7⟩ := HC.out v1 (HFV.out.kg b1)
        clear b1
        go_wp2_with (at_make; refine wpList_make_full (P := Tryz.prog) _ rfl _ _ 91 rfl v1.heap.size 3 i0 (.int .i64 0) 1 Tryz.underlying91 hi0 hzz0 hzz1 .i64 .i64 _ _ c rfl rfl rfl rfl (by rw [hzz2]; omega) (by unfold maxLen; omega) (Nat.le_refl _) ?_; intro w3 ho2 hg2; have HO2 := Lib.hid ho2; have HBE2 := Lib.hid ((Below.refl v1.heap.size v1).grown hg2 (Nat.le_refl _) (fun k hk => by cases hk)); clear ho2 hg2; obtain ⟨r0, r1, r2, r3, r4, r5, r6, r7, r8, r9, q0, q1, q2, q3, q4, q5, q6, q7⟩ := HC.out w3 (HFV.out.kg (below_join HB1.out HBE2.out HB1.out.size)))
        clear f0 f1 f2 f3 f4 f5 f6 f7 f8 f9 s0 s1 s2 s3 s4 s5 s6 s7 r0 r1 r2 r3 r4 r5 r6 r7 r8 r9 q0 q1 q2 q3 q4 q5 q6 q7
        obtain ⟨gr, hgr⟩ : ∃ gr, gr = v1.heap.size := ⟨_, rfl⟩
        rw [← hgr] at HO2 ⊢
        have HB3 := Lib.hid (below_join HB1.out HBE2.out HB1.out.size)
        have S3 := Lib.hid (show Sen w3 gr (cntL z.s dm c (wl.take 0)) by
          have h := own_blk HO2.out
          rw [show (Value.int .i64 0).cells = #[.int .i64 0] from rfl, Nat.mul_one, toList_madeCells_one] at h
          unfold Sen
          rw [h, List.take_zero, cntL_nil]
          simp [ints])
        have hgl : gr < w3.heap.size := at_lt S3.out
        have hgV : V.heap.size ≤ gr := by rw [hgr]; exact HB1.out.size
        clear HO2 hgr HBE2
        go_at_call 97
        refine (c_whereOwn z (k : Int) wl HWL.out (by omega) w3 (HFV.out.on HB3.out).snx).mono ?_
        rintro e w4 ⟨A1, q1, rfl, ho4, b4⟩
        have HB4 := Lib.hid (below_join HB3.out b4 HB3.out.size)
        have S4 := Lib.hid (S3.out.on b4 (Nat.le_refl _))
        have HRW := Lib.hid (own_rwA ho4)
        have HNE := Lib.hid (own_off ho4 hgl)
        clear ho4 b4
        go_wp2_with (fail)
        go_loopw [34] (fun i wr => ∃ q : Nat, q ≤ wl.length ∧ i = .int .i64 (q : Int) ∧ Hid (Below V.heap.size V wr) ∧ Hid (Sen wr gr (cntL z.s dm c (wl.take q))) ∧ Hid (Rw 1 inF wr A1 q1 wl)) (fun i _ => wl.length - (intOf i).toNat)
        case atStart => exact ⟨0, Nat.zero_le _, rfl, HB4, S4, HRW⟩
        case round =>
          obtain ⟨q, hq, rfl, hBq, hSq, hRq⟩ := hrel
          have hqi : ((q : Nat) : Int).toNat = q := by omega
          by_cases hql : q < wl.length
          · obtain ⟨y, hy⟩ : ∃ y, wl[q]? = some y := ⟨_, List.getElem?_eq_getElem hql⟩
            have hqi2 : (q : Int) < ((wl.length : Nat) : Int) := by omega
            have hyin := where_in (s := (k : Int)) HOK.out (h := y) (by rw [HWL.out]; exact List.mem_of_getElem? hy)
            have hdo := dom_of HOK.out ⟨hd1, hd5⟩ hyin
            obtain ⟨dn, hdn⟩ : ∃ dn : Nat, domD z.s dm y = (dn : Int) := ⟨(domD z.s dm y).toNat, by omega⟩
            have hdc : dn < c := by have := HCN.out; omega
            have hdi : ((dn : Nat) : Int).toNat = dn := by omega
            have hdi2 : (dn : Int) < (c : Int) := by omega
            have HDN := Lib.hid hdn
            obtain ⟨ab, ao, ea, -, -⟩ := hRq.out.at_ hy
            have hrw2 := hRq.out
            rw [ea] at hrw2
            have y0 := inRw hrw2 hy
            obtain ⟨old, hold⟩ : ∃ old : Nat, inDm z.s dm (wl.take q) dn = old := ⟨_, rfl⟩
            have hob : old ≤ 100 := by
              rw [← hold]; unfold inDm
              have h1 := List.length_filter_le (fun h => domD z.s dm h == (dn : Int)) (wl.take q)
              rw [List.length_take] at h1; omega
            have HST := Lib.hid (show cntL z.s dm c (wl.take (q + 1)) = (cntL z.s dm c (wl.take q)).set dn ((old : Int) + 1) by
              rw [List.take_add_one, hy, ← hold]
              exact cntL_snoc hdc hdn)
            have HGE := Lib.hid (show (cntL z.s dm c (wl.take q))[dn]? = some (old : Int) by rw [cntL_get hdc, hold])
            obtain ⟨f0, f1, f2, f3, f4, f5, f6, f7, f8, f9, s0, s1, s2, s3, s4, s5, s6, s7⟩ := HC.out wr (HFV.out.kg hBq.out)
            clear hy hyin hdo hdn hrw2 hold
            rw [ea]
            go_wp2_with (fail)
            clear f0 f1 f2 f3 f4 f5 f6 f7 f8 f9 s0 s1 s2 s3 s4 s5 s6 s7 y0
            go_at_call 98
            refine (c_domTo z dm (by omega) y (dn : Int) HDN.out wr (HFV.out.on hBq.out).snx).mono ?_
            rintro e v5 ⟨rfl, b5⟩
            have HB5 := Lib.hid (below_join hBq.out b5 hBq.out.size)
            have HS5 := Lib.hid (hSq.out.on b5 (Nat.le_refl _))
            have HR5 := Lib.hid (hRq.out.on b5 (Nat.le_refl _))
            clear b5
            have c5 := HS5.out.cell HGE.out
            have fz : v5.frozen? ⟨gr, dn, none⟩ = false := frz0 HS5.out dn
            have hwr : IntKind.i64.wrap ((old : Int) + 1) = (old : Int) + 1 := wrap_in (by omega) (by omega)
            go_wp2_with (fail)
            clear c5 fz
            have HB6 := Lib.hid (HB5.out.setCell (p := ⟨gr, dn, none⟩) hgV (.int .i64 ((old : Int) + 1)))
            have HS6 := Lib.hid (show Sen (v5.setCell ⟨gr, dn, none⟩ (.int .i64 ((old : Int) + 1))) gr (cntL z.s dm c (wl.take (q + 1))) by rw [HST.out]; exact HS5.out.set _)
            have HR6 := Lib.hid (HR5.out.setOff (g := gr) (j := dn) (v := .int .i64 ((old : Int) + 1)) HNE.out)
            go_roundw
            case rel => exact ⟨q + 1, by omega, by go_num, HB6, HS6, Lib.hid (by rw [← ea]; exact HR6.out)⟩
            case measure => simp only [intOf]; omega
          · obtain rfl : q = wl.length := by omega
            have HL5 := Lib.hid (HFV.out.loc hBq.out (m := gr) (o := .cells (ints (cntL z.s dm c wl)).toArray 3 (0, 0)) (by have := hSq.out; rw [List.take_length] at this; exact this) hgV)
            have HF5 := Lib.hid (HFV.out.on hBq.out)
            have HK5 := Lib.hid (HFV.out.kg hBq.out)
            obtain ⟨V5, hV5⟩ : ∃ V5, wr = V5 := ⟨_, rfl⟩
            rw [hV5] at HL5 HF5 HK5
            rw [hV5]
            clear hV5 hBq hSq hRq
            have HK55 := Lib.hid (Kg.refl g V5)
            go_wp2_with (fail)
            go_loopw [52] (fun i wr => ∃ q : Nat, q ≤ c ∧ i = .int .i64 (q : Int) ∧ Hid (Fnd z W0 g kb 4 fv (m ++ (sprL z.s x.1 wl q).map fun y => ⟨4, (k : Int), y⟩) wr) ∧ Hid (Kg g V5 wr)) (fun i _ => c - (intOf i).toNat)
            case atStart => exact ⟨0, Nat.zero_le _, rfl, Lib.hid (by rw [show sprL z.s x.1 wl 0 = [] from rfl, List.map_nil, List.append_nil]; exact HF5.out), HK55⟩
            case round =>
              obtain ⟨q, hq, rfl, hFi, hKi⟩ := hrel
              have hqi : ((q : Nat) : Int).toNat = q := by omega
              by_cases hql : q < c
              · have hqi2 : (q : Int) < (c : Int) := by omega
                obtain ⟨mm, hmm⟩ : ∃ mm, m ++ (sprL z.s x.1 wl q).map (fun y => (⟨4, (k : Int), y⟩ : Bn)) = mm := ⟨_, rfl⟩
                obtain ⟨u, hu⟩ : ∃ u : Int, ((inDm z.s dm wl q : Nat) : Int) = u := ⟨_, rfl⟩
                have HSI := Lib.hid (show m ++ (sprL z.s x.1 wl (q + 1)).map (fun y => (⟨4, (k : Int), y⟩ : Bn)) = mm ++ if x.1.spread < u then [⟨4, (k : Int), (q : Int)⟩] else [] by
                  rw [sprL_succ, List.map_append, ← List.append_assoc, hmm, HDM.out, hu]
                  congr 1
                  split <;> rfl)
                have HMM := Lib.hid (show mm.length ≤ 10000 by
                  rw [← hmm, List.length_append, List.length_map]
                  have h1 := sprL_len z.s x.1 wl q
                  have := HML.out; omega)
                rw [hmm] at hFi
                have c5 : wr.cell? ⟨gr, q, none⟩ = some (.int .i64 u) := (HL5.out.on hKi.out).cell (by rw [List.getElem?_toArray]; simp [ints, cntL_get hql, hu])
                clear hmm hu
                obtain ⟨f0, f1, f2, f3, f4, f5, f6, f7, f8, f9, s0, s1, s2, s3, s4, s5, s6, s7⟩ := HC.out wr (HK5.out.trans hKi.out)
                rcases hd : decide (x.1.spread < u) with _ | _
                · have HSJ := Lib.hid (show m ++ (sprL z.s x.1 wl (q + 1)).map (fun y => (⟨4, (k : Int), y⟩ : Bn)) = mm by rw [HSI.out, if_neg (of_decide_eq_false hd), List.append_nil])
                  go_wp2_with (fail)
                  clear f0 f1 f2 f3 f4 f5 f6 f7 f8 f9 s0 s1 s2 s3 s4 s5 s6 s7 c5
                  go_roundw
                  case rel => exact ⟨q + 1, by omega, by go_num, Lib.hid (by rw [HSJ.out]; exact hFi.out), hKi⟩
                  case measure => simp only [intOf]; omega
                · have HSJ := Lib.hid (show m ++ (sprL z.s x.1 wl (q + 1)).map (fun y => (⟨4, (k : Int), y⟩ : Bn)) = mm ++ [⟨4, (k : Int), (q : Int)⟩] by rw [HSI.out, if_pos (of_decide_eq_true hd)])
                  go_wp2_with (fail)
                  clear f0 f1 f2 f3 f4 f5 f6 f7 f8 f9 s0 s1 s2 s3 s4 s5 s6 s7 c5
                  go_at_call 29
                  refine (c_coll z W0 g kb 4 fv mm (k : Int) (q : Int) _ hFi.out HMM.out).mono ?_
                  rintro e u2 ⟨rfl, fy, ky⟩
                  have HY := Lib.hid fy
                  have HKY := Lib.hid (hKi.out.trans ky)
                  clear fy ky
                  go_wp2_with (fail)
                  go_roundw
                  case rel => exact ⟨q + 1, by omega, by go_num, Lib.hid (by rw [HSJ.out]; exact HY.out), HKY⟩
                  case measure => simp only [intOf]; omega
              · obtain rfl : q = c := by omega
                have HFI := Lib.hid (show Fnd z W0 g kb 4 fv (l ++ bk2 4 (bnSpr z.s z.ss z.d) (k + 1)) wr by rw [HSK.out]; exact hFi.out)
                have HKI := Lib.hid ((HKV.out.trans HK5.out).trans hKi.out)
                go_wp2_with (fail)
                go_roundw
                case rel => exact ⟨k + 1, by omega, by go_num, HFI, HKI⟩
                case measure => simp only [intOf]; omega
      · have hd0 : dm = 0 := by have := eq_of_beq t0; omega
        have HFI := Lib.hid (show Fnd z W0 g kb 4 fv (l ++ bk2 4 (bnSpr z.s z.ss z.d) (k + 1)) V by
          have : c = 0 := by
            have h := HCN.out
            rw [hd0] at h
            unfold cntD at h
            rw [if_pos HOK.out.1] at h
            have h2 : cntOf z.s 0 = 0 := rfl
            omega
          rw [HSK.out, this, show sprL z.s x.1 wl 0 = [] from rfl, List.map_nil, List.append_nil]
          exact HFV.out)
        clear hd0
        go_wp2_with (fail)
        rw [← hV]
        clear hV f0 f1 f2 f3 f4 f5 f6 f7 f8 f9 s0 s1 s2 s3 s4 s5 s6 s7 x0 x1 x2 x3 x4 x5 x6 x7
        go_roundw
        case rel => exact ⟨k + 1, by omega, by go_num, HFI, HKV⟩
        case measure => simp only [intOf]; omega
    · obtain rfl : k = z.xs.length := by omega
      go_wp2_with (fail)
      go_end0
      exact HQ.out _ (by have := hFr.out; unfold bnK; unfold Sn.ss; rw [svs_len]; exact this) hKr.out
end Go.Proofs.YtbbadnlaelgmlaaGreat

namespace Go.Proofs.YtbbadnlaelgmlaaGreat
open Go.RowKit
set_option maxRecDepth 100000
set_option linter.unusedVariables false
set_option linter.unusedSimpArgs false

def kdC : Array Value := #[.int .u8 1, .func (.func 49) #[] #[], .int .u8 2, .func (.func 50) #[] #[], .int .u8 3, .func (.func 51) #[] #[], .int .u8 4, .func (.func 52) #[] #[], .int .u8 5, .func (.func 53) #[] #[], .int .u8 6, .func (.func 54) #[] #[], .int .u8 7, .func (.func 55) #[] #[], .int .u8 8, .func (.func 56) #[] #[], .int .u8 9, .func (.func 57) #[] #[], .int .u8 10, .func (.func 58) #[] #[]]
set_option maxHeartbeats 4000000 in
theorem c_kinds (w : World) : Calls Tryz.prog 28 #[] w fun e w' => e = .returned (.slice (some ⟨w.heap.size, 0, none⟩) 10 10) ∧ w'.heap[w.heap.size]? = some (.cells kdC 68 (0, 0)) ∧ Below w.heap.size w w' := by
  obtain ⟨W, h1⟩ : ∃ W, W = w.alloc (.cells #[.int .u8 1, .func (.func 49) #[] #[], .int .u8 2, .func (.func 50) #[] #[], .int .u8 3, .func (.func 51) #[] #[], .int .u8 4, .func (.func 52) #[] #[], .int .u8 5, .func (.func 53) #[] #[], .int .u8 6, .func (.func 54) #[] #[], .int .u8 7, .func (.func 55) #[] #[], .int .u8 8, .func (.func 56) #[] #[], .int .u8 9, .func (.func 57) #[] #[], .int .u8 10, .func (.func 58) #[] #[]] 68) := ⟨_, rfl⟩
  have HB := Lib.hid (show Below w.heap.size w W by rw [h1]; exact (Below.refl _ _).alloc (Nat.le_refl _) _)
  have HX := Lib.hid (show W.heap[w.heap.size]? = some (.cells kdC 68 (0, 0)) by rw [h1]; exact box_new _ _ _)
  go_enter Tryz.func28, Tryz.ntmps28
  go_wp2_with (fail)
  rw [← h1]
  clear h1
  go_ret
  exact ⟨rfl, HX.out, HB.out⟩
theorem bnK_len {z : Sn} (ok : z.Ok) : (bnK z.s z.ss z.d 1).length ≤ 16 ∧ (bnK z.s z.ss z.d 2).length ≤ 16 ∧ (bnK z.s z.ss z.d 3).length ≤ 8 ∧ (bnK z.s z.ss z.d 4).length ≤ 800 ∧ (bnK z.s z.ss z.d 5).length ≤ 800 ∧ (bnK z.s z.ss z.d 6).length ≤ 800 ∧ (bnK z.s z.ss z.d 7).length ≤ 800 ∧ (bnK z.s z.ss z.d 8).length ≤ 8 ∧ (bnK z.s z.ss z.d 9).length ≤ 4 ∧ (bnK z.s z.ss z.d 10).length ≤ 4 := by
  have h8 := few_svcs ok
  have e : z.ss.length = z.xs.length := svs_len _
  have b : ∀ (k : Nat) (f : Nat → List Int), (∀ i, i < z.xs.length → (f i).length ≤ 100) → (bk2 k f z.ss.length).length ≤ 800 := fun k f h => by
    rw [e]
    have := bk2_len k 100 f z.xs.length h
    omega
  refine ⟨Nat.le_trans (bk1_len _ _ _) (few_hosts ok), Nat.le_trans (bk1_len _ _ _) (few_hosts ok), Nat.le_trans (bk1_len _ _ _) (by omega), b _ _ (spr_len ok), b _ _ (apt_len ok), b _ _ (nea_len ok), b _ _ (frm_len ok), Nat.le_trans (bk1_len _ _ _) (few_brks ok), Nat.le_trans (bk1_len _ _ _) (few_feeds ok), Nat.le_trans (bk1_len _ _ _) (few_loops ok)⟩
theorem bnTo_len {z : Sn} (ok : z.Ok) {n : Nat} (hn : n ≤ 10) : (bnTo z.s z.ss z.d n).length ≤ 4000 := by
  obtain ⟨h1, h2, h3, h4, h5, h6, h7, h8, h9, h10⟩ := bnK_len ok
  have hz : bnTo z.s z.ss z.d 0 = [] := rfl
  rcases (by omega : n = 0 ∨ n = 1 ∨ n = 2 ∨ n = 3 ∨ n = 4 ∨ n = 5 ∨ n = 6 ∨ n = 7 ∨ n = 8 ∨ n = 9 ∨ n = 10) with rfl | rfl | rfl | rfl | rfl | rfl | rfl | rfl | rfl | rfl | rfl
  all_goals (simp only [bnTo_succ, List.length_append, hz, List.length_nil, Nat.zero_add, Nat.reduceAdd]; omega)
theorem fnd_new {z : Sn} {W0 X : World} {g kd : Nat} {fv : Value} {l : List Bn} (sn : SnAt W0 z) (be : Below W0.heap.size W0 X) (gb : W0.heap.size ≤ g) (gl : g < X.heap.size) (co : Col W0.heap.size g l X) : Fnd z W0 g X.heap.size kd fv l (X.alloc (.cells #[.int .u8 (kd : Int), fv] 68)) ∧ Kg g X (X.alloc (.cells #[.int .u8 (kd : Int), fv] 68)) := by
  have hb : Below X.heap.size X (X.alloc (.cells #[.int .u8 (kd : Int), fv] 68)) := (Below.refl _ _).alloc (Nat.le_refl _) _
  have hk := Kg.of_below hb (Nat.le_refl _) gl
  refine ⟨⟨sn, be.alloc be.size _, gb, Nat.lt_of_lt_of_le gl hb.size, co.on hb (Nat.le_refl _), ⟨heap_alloc_new _ _, by omega, fun e => ?_⟩⟩, hk⟩
  have e2 : lbk X g = some X.heap.size := by
    rw [← e]; unfold lbk; rw [Below.heap_alloc _ _ _ gl]
  have := (co.lb e2).2.1
  omega
set_option maxHeartbeats 32000000 in
theorem c_Broken (z : Sn) (r : Bool) (hr : r = true ↔ z.Ok) (L : List Bn) (hL : bnV z.s z.ss z.d r = L) (w : World) (hz : SnAt w z) :
    Calls Tryz.prog 13 #[.agg #[.slice z.p.a1 z.s.feeds.length z.p.c1, .slice z.p.a2 z.s.brks.length z.p.c2, .slice z.p.a3 z.s.loops.length z.p.c3, .slice z.p.a4 z.s.racks.length z.p.c4, .int .i64 z.s.sw, .slice z.p.a5 z.s.links.length z.p.c5, .slice z.p.a6 z.s.hosts.length z.p.c6], .agg #[.slice z.A z.xs.length z.c], .agg #[.slice z.q.a1 z.d.hosts.length z.q.c1, .slice z.q.a2 z.d.reps.length z.q.c2]] w fun e w' => ∃ A c, e = .returned (.slice A L.length c) ∧ Rv 3 bnF w' A c L ∧ Below w.heap.size w w' := by
  obtain ⟨W1, h1⟩ : ∃ W, W = w.alloc (.cells #[.slice z.p.a1 z.s.feeds.length z.p.c1, .slice z.p.a2 z.s.brks.length z.p.c2, .slice z.p.a3 z.s.loops.length z.p.c3, .slice z.p.a4 z.s.racks.length z.p.c4, .int .i64 z.s.sw, .slice z.p.a5 z.s.links.length z.p.c5, .slice z.p.a6 z.s.hosts.length z.p.c6] 29) := ⟨_, rfl⟩
  obtain ⟨W2, h2⟩ : ∃ W, W = W1.alloc (.cells #[.slice z.A z.xs.length z.c] 32) := ⟨_, rfl⟩
  obtain ⟨W, h3⟩ : ∃ W, W = W2.alloc (.cells #[.slice z.q.a1 z.d.hosts.length z.q.c1, .slice z.q.a2 z.d.reps.length z.q.c2] 36) := ⟨_, rfl⟩
  obtain ⟨B0, X1⟩ := sn_boxes h1 h2 h3
  have z3 : W.heap.size = w.heap.size + 1 + 1 + 1 := sn_size h1 h2 h3
  have HB := Lib.hid B0
  have Z0 := hz.on B0 (Nat.le_refl _)
  have HZ := Lib.hid (fun (X : World) (hX : Below W.heap.size W X) => Z0.on hX (Nat.le_refl _))
  have HF := Lib.hid (fun (X : World) (hX : Below W.heap.size W X) => ((X1.on hX (Nat.le_refl _)).cells : X.cell? ⟨w.heap.size, 0, none⟩ = some (.slice z.p.a1 z.s.feeds.length z.p.c1) ∧ X.cell? ⟨w.heap.size, 1, none⟩ = some (.slice z.p.a2 z.s.brks.length z.p.c2) ∧ X.cell? ⟨w.heap.size, 2, none⟩ = some (.slice z.p.a3 z.s.loops.length z.p.c3) ∧ X.cell? ⟨w.heap.size, 3, none⟩ = some (.slice z.p.a4 z.s.racks.length z.p.c4) ∧ X.cell? ⟨w.heap.size, 4, none⟩ = some (.int .i64 z.s.sw) ∧ X.cell? ⟨w.heap.size, 5, none⟩ = some (.slice z.p.a5 z.s.links.length z.p.c5) ∧ X.cell? ⟨w.heap.size, 6, none⟩ = some (.slice z.p.a6 z.s.hosts.length z.p.c6) ∧ X.cell? ⟨w.heap.size + 1, 0, none⟩ = some (.slice z.A z.xs.length z.c) ∧ X.cell? ⟨w.heap.size + 1 + 1, 0, none⟩ = some (.slice z.q.a1 z.d.hosts.length z.q.c1) ∧ X.cell? ⟨w.heap.size + 1 + 1, 1, none⟩ = some (.slice z.q.a2 z.d.reps.length z.q.c2)))
  have HX := Lib.hid (fun (X : World) (hX : Below W.heap.size W X) => X1.on hX (Nat.le_refl _))
  have HKW := Lib.hid (Below.refl W.heap.size W)
  have hle := HB.out.size
  obtain ⟨n1, n2, n3, n4, n5, n6, n7, n8⟩ := hz.bounds
  have HR := Lib.hid hr
  have HLL := Lib.hid hL
  clear hr hL
  clear hz B0 X1 z3 Z0
  obtain ⟨f0, f1, f2, f3, f4, f5, f6, g0, g1, g2⟩ := HF.out W HKW.out
  rw [h3, h2, h1] at f0 f1 f2 f3 f4 f5 f6 g0 g1 g2
  generalize hBB : w.heap.size = B at *
  go_enter Tryz.func13, Tryz.ntmps13
  go_wp2_with (fail)
  rw [← h1, ← h2, ← h3]
  clear h1 h2 h3 f0 f1 f2 f3 f4 f5 f6 g0 g1 g2
  go_at_call 27
  refine (c_vTo z r HR.out W (HZ.out W HKW.out)).mono ?_
  rintro e v1 ⟨rfl, bb⟩
  have HKv1 := Lib.hid (below_join HKW.out bb HKW.out.size)
  clear bb
  cases r
  · have HE := Lib.hid (show ([] : List Bn) = L from HLL.out)
    go_wp2_with (fail)
    go_ret
    exact ⟨none, 0, by rw [← HE.out]; rfl, by rw [← HE.out]; exact Rv.nil _, below_join HB.out HKv1.out hle⟩
  have HOK := Lib.hid (HR.out.1 rfl)
  have HE := Lib.hid (show bnTo z.s z.ss z.d 10 = L from HLL.out)
  have HZW := Lib.hid (HZ.out W HKW.out)
  obtain ⟨W4, hW4⟩ : ∃ X, X = v1.alloc (.cells #[.slice none 0 0] 40) := ⟨_, rfl⟩
  have b4 : Below v1.heap.size v1 W4 := by rw [hW4]; exact (Below.refl _ _).alloc (Nat.le_refl _) _
  have HK4 := Lib.hid (below_join HKv1.out b4 HKv1.out.size)
  obtain ⟨g, hg⟩ : ∃ g, g = v1.heap.size := ⟨_, rfl⟩
  have hgW : W.heap.size ≤ g := by rw [hg]; exact HKv1.out.size
  have hgl : g < W4.heap.size := by rw [hW4, World.size_alloc, hg]; omega
  have HC4 := Lib.hid (show Col W.heap.size g [] W4 from ⟨.slice none 0 0, by rw [hg, hW4]; exact box_new _ _ _, World.ownsRow_nil _ _ _ _⟩)
  have hg4 : W4.heap.size = g + 1 := by rw [hW4, World.size_alloc, hg]
  have HG4 := Lib.hid hg4
  clear b4 hg4
  go_wp2_with (fail)
  rw [← hW4]
  rw [← hg]
  clear hW4 hg
  go_at_call 28
  refine (c_kinds W4).mono ?_
  rintro e v2 ⟨rfl, hkc, b2⟩
  have HK2 := Lib.hid (below_join HK4.out b2 HK4.out.size)
  have HG2 := Lib.hid (Kg.of_below b2 (Nat.le_refl _) hgl)
  have HC2 := Lib.hid (HC4.out.on b2 (Nat.le_refl _))
  have hgl2 : g < v2.heap.size := Nat.lt_of_lt_of_le hgl b2.size
  obtain ⟨K, hK⟩ : ∃ K, K = W4.heap.size := ⟨_, rfl⟩
  rw [← hK] at hkc ⊢
  have LK : Loc g v2 K (.cells kdC 68 (0, 0)) := ⟨hkc, by omega, fun e => by
    have e2 : lbk W4 g = some K := by rw [← e]; unfold lbk; rw [b2.block g hgl]
    have := (HC4.out.lb e2).2.1
    omega⟩
  have HLK := Lib.hid (fun (X : World) (hX : Kg g v2 X) => (⟨(LK.on hX).cell rfl, (LK.on hX).cell rfl, (LK.on hX).cell rfl, (LK.on hX).cell rfl, (LK.on hX).cell rfl, (LK.on hX).cell rfl, (LK.on hX).cell rfl, (LK.on hX).cell rfl, (LK.on hX).cell rfl, (LK.on hX).cell rfl, (LK.on hX).cell rfl, (LK.on hX).cell rfl, (LK.on hX).cell rfl, (LK.on hX).cell rfl, (LK.on hX).cell rfl, (LK.on hX).cell rfl, (LK.on hX).cell rfl, (LK.on hX).cell rfl, (LK.on hX).cell rfl, (LK.on hX).cell rfl⟩ : X.cell? ⟨K, 0, none⟩ = some (.int .u8 1) ∧ X.cell? ⟨K, 1, none⟩ = some (.func (.func 49) #[] #[]) ∧ X.cell? ⟨K, 2, none⟩ = some (.int .u8 2) ∧ X.cell? ⟨K, 3, none⟩ = some (.func (.func 50) #[] #[]) ∧ X.cell? ⟨K, 4, none⟩ = some (.int .u8 3) ∧ X.cell? ⟨K, 5, none⟩ = some (.func (.func 51) #[] #[]) ∧ X.cell? ⟨K, 6, none⟩ = some (.int .u8 4) ∧ X.cell? ⟨K, 7, none⟩ = some (.func (.func 52) #[] #[]) ∧ X.cell? ⟨K, 8, none⟩ = some (.int .u8 5) ∧ X.cell? ⟨K, 9, none⟩ = some (.func (.func 53) #[] #[]) ∧ X.cell? ⟨K, 10, none⟩ = some (.int .u8 6) ∧ X.cell? ⟨K, 11, none⟩ = some (.func (.func 54) #[] #[]) ∧ X.cell? ⟨K, 12, none⟩ = some (.int .u8 7) ∧ X.cell? ⟨K, 13, none⟩ = some (.func (.func 55) #[] #[]) ∧ X.cell? ⟨K, 14, none⟩ = some (.int .u8 8) ∧ X.cell? ⟨K, 15, none⟩ = some (.func (.func 56) #[] #[]) ∧ X.cell? ⟨K, 16, none⟩ = some (.int .u8 9) ∧ X.cell? ⟨K, 17, none⟩ = some (.func (.func 57) #[] #[]) ∧ X.cell? ⟨K, 18, none⟩ = some (.int .u8 10) ∧ X.cell? ⟨K, 19, none⟩ = some (.func (.func 58) #[] #[])))
  have HKg2 := Lib.hid (Kg.refl g v2)
  clear hkc b2 LK hK
  go_wp2_with (fail)
  go_loopw [18] (fun i wr => ∃ k : Nat, k ≤ 10 ∧ i = .int .i64 (k : Int) ∧ Hid (Below W.heap.size W wr) ∧ Hid (Col W.heap.size g (bnTo z.s z.ss z.d k) wr) ∧ Hid (Kg g v2 wr)) (fun i _ => 10 - (intOf i).toNat)
  case atStart => exact ⟨0, Nat.zero_le _, rfl, HK2, HC2, HKg2⟩
  case round =>
    obtain ⟨k, hk, rfl, hBk, hCk, hGk⟩ := hrel
    have hki : ((k : Nat) : Int).toNat = k := by omega
    have hglr : g < wr.heap.size := Nat.lt_of_lt_of_le hgl2 hGk.out.size
    by_cases hlt : k < 10
    · have HLN := Lib.hid (bnTo_len HOK.out hk)
      have HSU := Lib.hid (bnTo_succ z.s z.ss z.d k)
      obtain ⟨k0, k1, k2, k3, k4, k5, k6, k7, k8, k9, k10, k11, k12, k13, k14, k15, k16, k17, k18, k19⟩ := HLK.out wr hGk.out
      rcases (by omega : k = 0 ∨ k = 1 ∨ k = 2 ∨ k = 3 ∨ k = 4 ∨ k = 5 ∨ k = 6 ∨ k = 7 ∨ k = 8 ∨ k = 9) with rfl | rfl | rfl | rfl | rfl | rfl | rfl | rfl | rfl | rfl
      · obtain ⟨V, hV⟩ : ∃ X, X = wr.alloc (.cells #[.int .u8 1, .func (.func 49) #[] #[]] 68) := ⟨_, rfl⟩
        have hnew : Fnd z W g wr.heap.size 1 (.func (.func 49) #[] #[]) (bnTo z.s z.ss z.d 0) V ∧ Kg g wr V := by rw [hV]; exact fnd_new (kd := 1) (fv := .func (.func 49) #[] #[]) HZW.out hBk.out hgW hglr hCk.out
        have HFV := Lib.hid hnew.1
        have HKV := Lib.hid (hGk.out.trans hnew.2)
        have kx0 : V.cell? ⟨wr.heap.size, 0, none⟩ = some (.int .u8 1) := hnew.1.kx.cell rfl
        have kx1 : V.cell? ⟨wr.heap.size, 1, none⟩ = some (.func (.func 49) #[] #[]) := hnew.1.kx.cell rfl
        obtain ⟨f0, f1, f2, f3, f4, f5, f6, g0, g1, g2⟩ := HF.out V HFV.out.be
        clear hnew
        rw [hV] at f0 f1 f2 f3 f4 f5 f6 g0 g1 g2 kx0 kx1
        go_wp2_with (fail)
        rw [← hV]
        clear hV f0 f1 f2 f3 f4 f5 f6 g0 g1 g2 kx0 kx1 k0 k1 k2 k3 k4 k5 k6 k7 k8 k9 k10 k11 k12 k13 k14 k15 k16 k17 k18 k19
        go_at_call 49
        refine (c_findCores z W g wr.heap.size (.func (.func 49) #[] #[]) (bnTo z.s z.ss z.d 0) HOK.out (Nat.le_trans HLN.out (by omega)) V HFV.out).mono ?_
        rintro e y ⟨rfl, fy, ky⟩
        have HBY := Lib.hid fy.be
        have HCY := Lib.hid (show Col W.heap.size g (bnTo z.s z.ss z.d (0 + 1)) y by rw [HSU.out]; exact fy.co)
        have HKY := Lib.hid (HKV.out.trans ky)
        clear fy ky
        go_wp2_with (fail)
        go_roundw
        case rel => exact ⟨0 + 1, by omega, by go_num, HBY, HCY, HKY⟩
        case measure => simp only [intOf]; omega
      · obtain ⟨V, hV⟩ : ∃ X, X = wr.alloc (.cells #[.int .u8 2, .func (.func 50) #[] #[]] 68) := ⟨_, rfl⟩
        have hnew : Fnd z W g wr.heap.size 2 (.func (.func 50) #[] #[]) (bnTo z.s z.ss z.d 1) V ∧ Kg g wr V := by rw [hV]; exact fnd_new (kd := 2) (fv := .func (.func 50) #[] #[]) HZW.out hBk.out hgW hglr hCk.out
        have HFV := Lib.hid hnew.1
        have HKV := Lib.hid (hGk.out.trans hnew.2)
        have kx0 : V.cell? ⟨wr.heap.size, 0, none⟩ = some (.int .u8 2) := hnew.1.kx.cell rfl
        have kx1 : V.cell? ⟨wr.heap.size, 1, none⟩ = some (.func (.func 50) #[] #[]) := hnew.1.kx.cell rfl
        obtain ⟨f0, f1, f2, f3, f4, f5, f6, g0, g1, g2⟩ := HF.out V HFV.out.be
        clear hnew
        rw [hV] at f0 f1 f2 f3 f4 f5 f6 g0 g1 g2 kx0 kx1
        go_wp2_with (fail)
        rw [← hV]
        clear hV f0 f1 f2 f3 f4 f5 f6 g0 g1 g2 kx0 kx1 k0 k1 k2 k3 k4 k5 k6 k7 k8 k9 k10 k11 k12 k13 k14 k15 k16 k17 k18 k19
        go_at_call 50
        refine (c_findPhases z W g wr.heap.size (.func (.func 50) #[] #[]) (bnTo z.s z.ss z.d 1) HOK.out (Nat.le_trans HLN.out (by omega)) V HFV.out).mono ?_
        rintro e y ⟨rfl, fy, ky⟩
        have HBY := Lib.hid fy.be
        have HCY := Lib.hid (show Col W.heap.size g (bnTo z.s z.ss z.d (1 + 1)) y by rw [HSU.out]; exact fy.co)
        have HKY := Lib.hid (HKV.out.trans ky)
        clear fy ky
        go_wp2_with (fail)
        go_roundw
        case rel => exact ⟨1 + 1, by omega, by go_num, HBY, HCY, HKY⟩
        case measure => simp only [intOf]; omega
      · obtain ⟨V, hV⟩ : ∃ X, X = wr.alloc (.cells #[.int .u8 3, .func (.func 51) #[] #[]] 68) := ⟨_, rfl⟩
        have hnew : Fnd z W g wr.heap.size 3 (.func (.func 51) #[] #[]) (bnTo z.s z.ss z.d 2) V ∧ Kg g wr V := by rw [hV]; exact fnd_new (kd := 3) (fv := .func (.func 51) #[] #[]) HZW.out hBk.out hgW hglr hCk.out
        have HFV := Lib.hid hnew.1
        have HKV := Lib.hid (hGk.out.trans hnew.2)
        have kx0 : V.cell? ⟨wr.heap.size, 0, none⟩ = some (.int .u8 3) := hnew.1.kx.cell rfl
        have kx1 : V.cell? ⟨wr.heap.size, 1, none⟩ = some (.func (.func 51) #[] #[]) := hnew.1.kx.cell rfl
        obtain ⟨f0, f1, f2, f3, f4, f5, f6, g0, g1, g2⟩ := HF.out V HFV.out.be
        clear hnew
        rw [hV] at f0 f1 f2 f3 f4 f5 f6 g0 g1 g2 kx0 kx1
        go_wp2_with (fail)
        rw [← hV]
        clear hV f0 f1 f2 f3 f4 f5 f6 g0 g1 g2 kx0 kx1 k0 k1 k2 k3 k4 k5 k6 k7 k8 k9 k10 k11 k12 k13 k14 k15 k16 k17 k18 k19
        go_at_call 51
        refine (c_findLeasts z W g wr.heap.size (.func (.func 51) #[] #[]) (bnTo z.s z.ss z.d 2) HOK.out (Nat.le_trans HLN.out (by omega)) V HFV.out).mono ?_
        rintro e y ⟨rfl, fy, ky⟩
        have HBY := Lib.hid fy.be
        have HCY := Lib.hid (show Col W.heap.size g (bnTo z.s z.ss z.d (2 + 1)) y by rw [HSU.out]; exact fy.co)
        have HKY := Lib.hid (HKV.out.trans ky)
        clear fy ky
        go_wp2_with (fail)
        go_roundw
        case rel => exact ⟨2 + 1, by omega, by go_num, HBY, HCY, HKY⟩
        case measure => simp only [intOf]; omega
      · obtain ⟨V, hV⟩ : ∃ X, X = wr.alloc (.cells #[.int .u8 4, .func (.func 52) #[] #[]] 68) := ⟨_, rfl⟩
        have hnew : Fnd z W g wr.heap.size 4 (.func (.func 52) #[] #[]) (bnTo z.s z.ss z.d 3) V ∧ Kg g wr V := by rw [hV]; exact fnd_new (kd := 4) (fv := .func (.func 52) #[] #[]) HZW.out hBk.out hgW hglr hCk.out
        have HFV := Lib.hid hnew.1
        have HKV := Lib.hid (hGk.out.trans hnew.2)
        have kx0 : V.cell? ⟨wr.heap.size, 0, none⟩ = some (.int .u8 4) := hnew.1.kx.cell rfl
        have kx1 : V.cell? ⟨wr.heap.size, 1, none⟩ = some (.func (.func 52) #[] #[]) := hnew.1.kx.cell rfl
        obtain ⟨f0, f1, f2, f3, f4, f5, f6, g0, g1, g2⟩ := HF.out V HFV.out.be
        clear hnew
        rw [hV] at f0 f1 f2 f3 f4 f5 f6 g0 g1 g2 kx0 kx1
        go_wp2_with (fail)
        rw [← hV]
        clear hV f0 f1 f2 f3 f4 f5 f6 g0 g1 g2 kx0 kx1 k0 k1 k2 k3 k4 k5 k6 k7 k8 k9 k10 k11 k12 k13 k14 k15 k16 k17 k18 k19
        go_at_call 52
        refine (c_findSpreads z W g wr.heap.size (.func (.func 52) #[] #[]) (bnTo z.s z.ss z.d 3) HOK.out (Nat.le_trans HLN.out (by omega)) V HFV.out).mono ?_
        rintro e y ⟨rfl, fy, ky⟩
        have HBY := Lib.hid fy.be
        have HCY := Lib.hid (show Col W.heap.size g (bnTo z.s z.ss z.d (3 + 1)) y by rw [HSU.out]; exact fy.co)
        have HKY := Lib.hid (HKV.out.trans ky)
        clear fy ky
        go_wp2_with (fail)
        go_roundw
        case rel => exact ⟨3 + 1, by omega, by go_num, HBY, HCY, HKY⟩
        case measure => simp only [intOf]; omega
      · obtain ⟨V, hV⟩ : ∃ X, X = wr.alloc (.cells #[.int .u8 5, .func (.func 53) #[] #[]] 68) := ⟨_, rfl⟩
        have hnew : Fnd z W g wr.heap.size 5 (.func (.func 53) #[] #[]) (bnTo z.s z.ss z.d 4) V ∧ Kg g wr V := by rw [hV]; exact fnd_new (kd := 5) (fv := .func (.func 53) #[] #[]) HZW.out hBk.out hgW hglr hCk.out
        have HFV := Lib.hid hnew.1
        have HKV := Lib.hid (hGk.out.trans hnew.2)
        have kx0 : V.cell? ⟨wr.heap.size, 0, none⟩ = some (.int .u8 5) := hnew.1.kx.cell rfl
        have kx1 : V.cell? ⟨wr.heap.size, 1, none⟩ = some (.func (.func 53) #[] #[]) := hnew.1.kx.cell rfl
        obtain ⟨f0, f1, f2, f3, f4, f5, f6, g0, g1, g2⟩ := HF.out V HFV.out.be
        clear hnew
        rw [hV] at f0 f1 f2 f3 f4 f5 f6 g0 g1 g2 kx0 kx1
        go_wp2_with (fail)
        rw [← hV]
        clear hV f0 f1 f2 f3 f4 f5 f6 g0 g1 g2 kx0 kx1 k0 k1 k2 k3 k4 k5 k6 k7 k8 k9 k10 k11 k12 k13 k14 k15 k16 k17 k18 k19
        go_at_call 53
        refine (c_findAparts z W g wr.heap.size (.func (.func 53) #[] #[]) (bnTo z.s z.ss z.d 4) HOK.out (Nat.le_trans HLN.out (by omega)) V HFV.out).mono ?_
        rintro e y ⟨rfl, fy, ky⟩
        have HBY := Lib.hid fy.be
        have HCY := Lib.hid (show Col W.heap.size g (bnTo z.s z.ss z.d (4 + 1)) y by rw [HSU.out]; exact fy.co)
        have HKY := Lib.hid (HKV.out.trans ky)
        clear fy ky
        go_wp2_with (fail)
        go_roundw
        case rel => exact ⟨4 + 1, by omega, by go_num, HBY, HCY, HKY⟩
        case measure => simp only [intOf]; omega
      · obtain ⟨V, hV⟩ : ∃ X, X = wr.alloc (.cells #[.int .u8 6, .func (.func 54) #[] #[]] 68) := ⟨_, rfl⟩
        have hnew : Fnd z W g wr.heap.size 6 (.func (.func 54) #[] #[]) (bnTo z.s z.ss z.d 5) V ∧ Kg g wr V := by rw [hV]; exact fnd_new (kd := 6) (fv := .func (.func 54) #[] #[]) HZW.out hBk.out hgW hglr hCk.out
        have HFV := Lib.hid hnew.1
        have HKV := Lib.hid (hGk.out.trans hnew.2)
        have kx0 : V.cell? ⟨wr.heap.size, 0, none⟩ = some (.int .u8 6) := hnew.1.kx.cell rfl
        have kx1 : V.cell? ⟨wr.heap.size, 1, none⟩ = some (.func (.func 54) #[] #[]) := hnew.1.kx.cell rfl
        obtain ⟨f0, f1, f2, f3, f4, f5, f6, g0, g1, g2⟩ := HF.out V HFV.out.be
        clear hnew
        rw [hV] at f0 f1 f2 f3 f4 f5 f6 g0 g1 g2 kx0 kx1
        go_wp2_with (fail)
        rw [← hV]
        clear hV f0 f1 f2 f3 f4 f5 f6 g0 g1 g2 kx0 kx1 k0 k1 k2 k3 k4 k5 k6 k7 k8 k9 k10 k11 k12 k13 k14 k15 k16 k17 k18 k19
        go_at_call 54
        refine (c_findNears z W g wr.heap.size (.func (.func 54) #[] #[]) (bnTo z.s z.ss z.d 5) HOK.out (Nat.le_trans HLN.out (by omega)) V HFV.out).mono ?_
        rintro e y ⟨rfl, fy, ky⟩
        have HBY := Lib.hid fy.be
        have HCY := Lib.hid (show Col W.heap.size g (bnTo z.s z.ss z.d (5 + 1)) y by rw [HSU.out]; exact fy.co)
        have HKY := Lib.hid (HKV.out.trans ky)
        clear fy ky
        go_wp2_with (fail)
        go_roundw
        case rel => exact ⟨5 + 1, by omega, by go_num, HBY, HCY, HKY⟩
        case measure => simp only [intOf]; omega
      · obtain ⟨V, hV⟩ : ∃ X, X = wr.alloc (.cells #[.int .u8 7, .func (.func 55) #[] #[]] 68) := ⟨_, rfl⟩
        have hnew : Fnd z W g wr.heap.size 7 (.func (.func 55) #[] #[]) (bnTo z.s z.ss z.d 6) V ∧ Kg g wr V := by rw [hV]; exact fnd_new (kd := 7) (fv := .func (.func 55) #[] #[]) HZW.out hBk.out hgW hglr hCk.out
        have HFV := Lib.hid hnew.1
        have HKV := Lib.hid (hGk.out.trans hnew.2)
        have kx0 : V.cell? ⟨wr.heap.size, 0, none⟩ = some (.int .u8 7) := hnew.1.kx.cell rfl
        have kx1 : V.cell? ⟨wr.heap.size, 1, none⟩ = some (.func (.func 55) #[] #[]) := hnew.1.kx.cell rfl
        obtain ⟨f0, f1, f2, f3, f4, f5, f6, g0, g1, g2⟩ := HF.out V HFV.out.be
        clear hnew
        rw [hV] at f0 f1 f2 f3 f4 f5 f6 g0 g1 g2 kx0 kx1
        go_wp2_with (fail)
        rw [← hV]
        clear hV f0 f1 f2 f3 f4 f5 f6 g0 g1 g2 kx0 kx1 k0 k1 k2 k3 k4 k5 k6 k7 k8 k9 k10 k11 k12 k13 k14 k15 k16 k17 k18 k19
        go_at_call 55
        refine (c_findFirmwares z W g wr.heap.size (.func (.func 55) #[] #[]) (bnTo z.s z.ss z.d 6) HOK.out (Nat.le_trans HLN.out (by omega)) V HFV.out).mono ?_
        rintro e y ⟨rfl, fy, ky⟩
        have HBY := Lib.hid fy.be
        have HCY := Lib.hid (show Col W.heap.size g (bnTo z.s z.ss z.d (6 + 1)) y by rw [HSU.out]; exact fy.co)
        have HKY := Lib.hid (HKV.out.trans ky)
        clear fy ky
        go_wp2_with (fail)
        go_roundw
        case rel => exact ⟨6 + 1, by omega, by go_num, HBY, HCY, HKY⟩
        case measure => simp only [intOf]; omega
      · obtain ⟨V, hV⟩ : ∃ X, X = wr.alloc (.cells #[.int .u8 8, .func (.func 56) #[] #[]] 68) := ⟨_, rfl⟩
        have hnew : Fnd z W g wr.heap.size 8 (.func (.func 56) #[] #[]) (bnTo z.s z.ss z.d 7) V ∧ Kg g wr V := by rw [hV]; exact fnd_new (kd := 8) (fv := .func (.func 56) #[] #[]) HZW.out hBk.out hgW hglr hCk.out
        have HFV := Lib.hid hnew.1
        have HKV := Lib.hid (hGk.out.trans hnew.2)
        have kx0 : V.cell? ⟨wr.heap.size, 0, none⟩ = some (.int .u8 8) := hnew.1.kx.cell rfl
        have kx1 : V.cell? ⟨wr.heap.size, 1, none⟩ = some (.func (.func 56) #[] #[]) := hnew.1.kx.cell rfl
        obtain ⟨f0, f1, f2, f3, f4, f5, f6, g0, g1, g2⟩ := HF.out V HFV.out.be
        clear hnew
        rw [hV] at f0 f1 f2 f3 f4 f5 f6 g0 g1 g2 kx0 kx1
        go_wp2_with (fail)
        rw [← hV]
        clear hV f0 f1 f2 f3 f4 f5 f6 g0 g1 g2 kx0 kx1 k0 k1 k2 k3 k4 k5 k6 k7 k8 k9 k10 k11 k12 k13 k14 k15 k16 k17 k18 k19
        go_at_call 56
        refine (c_findBreakers z W g wr.heap.size (.func (.func 56) #[] #[]) (bnTo z.s z.ss z.d 7) HOK.out (Nat.le_trans HLN.out (by omega)) V HFV.out).mono ?_
        rintro e y ⟨rfl, fy, ky⟩
        have HBY := Lib.hid fy.be
        have HCY := Lib.hid (show Col W.heap.size g (bnTo z.s z.ss z.d (7 + 1)) y by rw [HSU.out]; exact fy.co)
        have HKY := Lib.hid (HKV.out.trans ky)
        clear fy ky
        go_wp2_with (fail)
        go_roundw
        case rel => exact ⟨7 + 1, by omega, by go_num, HBY, HCY, HKY⟩
        case measure => simp only [intOf]; omega
      · obtain ⟨V, hV⟩ : ∃ X, X = wr.alloc (.cells #[.int .u8 9, .func (.func 57) #[] #[]] 68) := ⟨_, rfl⟩
        have hnew : Fnd z W g wr.heap.size 9 (.func (.func 57) #[] #[]) (bnTo z.s z.ss z.d 8) V ∧ Kg g wr V := by rw [hV]; exact fnd_new (kd := 9) (fv := .func (.func 57) #[] #[]) HZW.out hBk.out hgW hglr hCk.out
        have HFV := Lib.hid hnew.1
        have HKV := Lib.hid (hGk.out.trans hnew.2)
        have kx0 : V.cell? ⟨wr.heap.size, 0, none⟩ = some (.int .u8 9) := hnew.1.kx.cell rfl
        have kx1 : V.cell? ⟨wr.heap.size, 1, none⟩ = some (.func (.func 57) #[] #[]) := hnew.1.kx.cell rfl
        obtain ⟨f0, f1, f2, f3, f4, f5, f6, g0, g1, g2⟩ := HF.out V HFV.out.be
        clear hnew
        rw [hV] at f0 f1 f2 f3 f4 f5 f6 g0 g1 g2 kx0 kx1
        go_wp2_with (fail)
        rw [← hV]
        clear hV f0 f1 f2 f3 f4 f5 f6 g0 g1 g2 kx0 kx1 k0 k1 k2 k3 k4 k5 k6 k7 k8 k9 k10 k11 k12 k13 k14 k15 k16 k17 k18 k19
        go_at_call 57
        refine (c_findFeeds z W g wr.heap.size (.func (.func 57) #[] #[]) (bnTo z.s z.ss z.d 8) HOK.out (Nat.le_trans HLN.out (by omega)) V HFV.out).mono ?_
        rintro e y ⟨rfl, fy, ky⟩
        have HBY := Lib.hid fy.be
        have HCY := Lib.hid (show Col W.heap.size g (bnTo z.s z.ss z.d (8 + 1)) y by rw [HSU.out]; exact fy.co)
        have HKY := Lib.hid (HKV.out.trans ky)
        clear fy ky
        go_wp2_with (fail)
        go_roundw
        case rel => exact ⟨8 + 1, by omega, by go_num, HBY, HCY, HKY⟩
        case measure => simp only [intOf]; omega
      · obtain ⟨V, hV⟩ : ∃ X, X = wr.alloc (.cells #[.int .u8 10, .func (.func 58) #[] #[]] 68) := ⟨_, rfl⟩
        have hnew : Fnd z W g wr.heap.size 10 (.func (.func 58) #[] #[]) (bnTo z.s z.ss z.d 9) V ∧ Kg g wr V := by rw [hV]; exact fnd_new (kd := 10) (fv := .func (.func 58) #[] #[]) HZW.out hBk.out hgW hglr hCk.out
        have HFV := Lib.hid hnew.1
        have HKV := Lib.hid (hGk.out.trans hnew.2)
        have kx0 : V.cell? ⟨wr.heap.size, 0, none⟩ = some (.int .u8 10) := hnew.1.kx.cell rfl
        have kx1 : V.cell? ⟨wr.heap.size, 1, none⟩ = some (.func (.func 58) #[] #[]) := hnew.1.kx.cell rfl
        obtain ⟨f0, f1, f2, f3, f4, f5, f6, g0, g1, g2⟩ := HF.out V HFV.out.be
        clear hnew
        rw [hV] at f0 f1 f2 f3 f4 f5 f6 g0 g1 g2 kx0 kx1
        go_wp2_with (fail)
        rw [← hV]
        clear hV f0 f1 f2 f3 f4 f5 f6 g0 g1 g2 kx0 kx1 k0 k1 k2 k3 k4 k5 k6 k7 k8 k9 k10 k11 k12 k13 k14 k15 k16 k17 k18 k19
        go_at_call 58
        refine (c_findLoops z W g wr.heap.size (.func (.func 58) #[] #[]) (bnTo z.s z.ss z.d 9) HOK.out (Nat.le_trans HLN.out (by omega)) V HFV.out).mono ?_
        rintro e y ⟨rfl, fy, ky⟩
        have HBY := Lib.hid fy.be
        have HCY := Lib.hid (show Col W.heap.size g (bnTo z.s z.ss z.d (9 + 1)) y by rw [HSU.out]; exact fy.co)
        have HKY := Lib.hid (HKV.out.trans ky)
        clear fy ky
        go_wp2_with (fail)
        go_roundw
        case rel => exact ⟨9 + 1, by omega, by go_num, HBY, HCY, HKY⟩
        case measure => simp only [intOf]; omega
    · obtain rfl : k = 10 := by omega
      obtain ⟨v, hv, ho⟩ := hCk.out.ex
      have x0 : wr.cell? ⟨g, 0, none⟩ = some v := cell_of hv rfl
      have HO := Lib.hid ho
      clear hv ho
      go_wp2_with (fail)
      go_ret
      obtain ⟨A, c, rfl, hrv⟩ := own_rv (k := 3) (F := bnF) HO.out
      rw [HE.out] at hrv ⊢
      exact ⟨A, c, rfl, hrv, below_join HB.out hBk.out hle⟩
end Go.Proofs.YtbbadnlaelgmlaaGreat

namespace Go.Proofs.YtbbadnlaelgmlaaGreat
open Go.RowKit
set_option maxRecDepth 100000
set_option linter.unusedVariables false
set_option linter.unusedSimpArgs false

def bnA (x : Bn) : Value := .agg #[.int .u8 (x.kind : Int), .int .i64 x.a, .int .i64 x.b]
theorem bn_fields : Tryz.prog.underlying 44 = some (.struct (Tryz.prog.fieldsOf 44)) := by kernel_rfl
theorem bn_list : (Tryz.prog.fieldsOf 44).toList.map (fun f => (f.name, f.type, f.offset)) = [("Kind", 42, 0), ("A", 3, 1), ("B", 3, 2)] := by kernel_rfl
theorem bn_stood : Tryz.prog.stoodInHeld 44 = false := by kernel_rfl
theorem bn_guard : Tryz.prog.eqGuardType Tryz.prog.depth 44 = false := by kernel_rfl
theorem guardBn (op : BinOp) (x y : Operand) (xs ys : Array Value) (w : World) : (eqGuard op 44 x y (.agg xs) (.agg ys)).run Tryz.prog w = .ok () w := run_eqGuard_agg w op _ x y xs ys bn_guard
theorem bn_three : ∃ f g h : Field, (Tryz.prog.fieldsOf 44).toList = [f, g, h] ∧ (f.name = "Kind" ∧ f.type = 42 ∧ f.offset = 0) ∧ (g.name = "A" ∧ g.type = 3 ∧ g.offset = 1) ∧ (h.name = "B" ∧ h.type = 3 ∧ h.offset = 2) := by
  have := bn_list
  match h : (Tryz.prog.fieldsOf 44).toList with
  | [f, g, i] =>
    rw [h] at this
    simp only [List.map_cons, List.map_nil, List.cons.injEq, Prod.mk.injEq] at this
    exact ⟨f, g, i, rfl, this.1, this.2.1, this.2.2.1⟩
  | [] => rw [h] at this; cases this
  | [f] => rw [h] at this; simp at this
  | [f, g] => rw [h] at this; simp at this
  | f :: g :: i :: j :: r => rw [h] at this; simp at this
theorem eqFieldsBn (a b s t p q : Int) (w : World) : (Op.eqFields 9999 #[.int .u8 a, .int .i64 s, .int .i64 p] #[.int .u8 b, .int .i64 t, .int .i64 q] (Tryz.prog.fieldsOf 44).toList).run Tryz.prog w = .ok ((a == b) && ((s == t) && (p == q))) w := by
  obtain ⟨f, g, h, e, ⟨fn, ft, fo⟩, ⟨gn, gt, go⟩, ⟨hn, ht, ho⟩⟩ := bn_three
  rw [e]
  simp only [Op.eqFields, fn, ft, fo, gn, gt, go, hn, ht, ho]
  cases hab : (a == b) <;> cases hst : (s == t) <;> cases hpq : (p == q) <;> simp [go_sem, hab, hst, hpq]
theorem bn_beq {x y : Bn} : (((x.kind : Int) == (y.kind : Int)) && ((x.a == y.a) && (x.b == y.b))) = decide (x = y) := by
  cases x; cases y
  rw [Bool.eq_iff_iff]
  simp
  omega
theorem neqBn (a b s t p q : Int) (w : World) : (binOp .neq 44 (.agg #[.int .u8 a, .int .i64 s, .int .i64 p]) (.agg #[.int .u8 b, .int .i64 t, .int .i64 q])).run Tryz.prog w = .ok (.bool (!((a == b) && ((s == t) && (p == q))))) w := by
  rw [run_neq_struct, run_equalIn_agg w 9999 _ _ _ bn_fields bn_stood, eqFieldsBn]
  rfl
theorem eqlBn (a b s t p q : Int) (w : World) : (binOp .eql 44 (.agg #[.int .u8 a, .int .i64 s, .int .i64 p]) (.agg #[.int .u8 b, .int .i64 t, .int .i64 q])).run Tryz.prog w = .ok (.bool ((a == b) && ((s == t) && (p == q)))) w := by
  rw [run_eql_struct, run_equalIn_agg w 9999 _ _ _ bn_fields bn_stood, eqFieldsBn]
  rfl
theorem equalBn (x y : Bn) (w : World) : (Op.equal 44 (bnA x) (bnA y)).run Tryz.prog w = .ok (decide (x = y)) w := by
  unfold bnA
  show (Op.equalIn (9999 + 1) 44 _ _).run Tryz.prog w = _
  rw [run_equalIn_agg w 9999 _ _ _ bn_fields bn_stood, eqFieldsBn, bn_beq]
theorem checkInt (v : Int) (e : Bool) (n : Nat) (w : World) : (Instr.checkKey e (n + 1) 3 (.int .i64 v)).run Tryz.prog w = .ok () w :=
  MapKept.run_checkKey (d := .int .i64) (by kernel_rfl) (by simp [MapKept.IsKey]) _ _
theorem checkU8 (v : Int) (e : Bool) (n : Nat) (w : World) : (Instr.checkKey e (n + 1) 42 (.int .u8 v)).run Tryz.prog w = .ok () w :=
  MapKept.run_checkKey (d := .int .u8) (by kernel_rfl) (by simp [MapKept.IsKey]) _ _
theorem checkBn0 (x : Bn) (e : Bool) (n : Nat) (w : World) : (Instr.checkKey e (n + 1 + 1) 44 (bnA x)).run Tryz.prog w = .ok () w := by
  obtain ⟨f, g, h, e1, ⟨fn, ft, fo⟩, ⟨gn, gt, go⟩, ⟨hn, ht, ho⟩⟩ := bn_three
  unfold bnA
  rw [Instr.checkKey]
  simp only [Sem.run_bind, run_underlying bn_fields, Result.andThen_ok]
  rw [← Array.forIn_toList, e1]
  have c1 := fun v w => checkInt v e n w
  have c2 := fun v w => checkU8 v e n w
  simp [List.forIn_cons, fn, gn, hn, ft, gt, ht, fo, go, ho, go_sem, c1, c2]
theorem checkBn (x : Bn) (e : Bool) (w : World) : (Instr.checkKey e 10000 44 (bnA x)).run Tryz.prog w = .ok () w := checkBn0 x e 9998 w
/-- The entries of a map whose keys are these, each with true. -/
def mkEb : List Bn → Nat → List MapEntry
  | [], _ => []
  | k :: l, n => { key := bnA k, val := .bool true, born := n } :: mkEb l (n + 1)
theorem mkEb_snoc (k : Bn) : ∀ (l : List Bn) (n : Nat), mkEb (l ++ [k]) n = mkEb l n ++ [{ key := bnA k, val := .bool true, born := n + l.length }]
  | [], n => by simp [mkEb]
  | k' :: l, n => by simp [mkEb, mkEb_snoc k l (n + 1)]; omega
def MapB (w : World) (b : Nat) (ks : List Bn) : Prop := ∃ es, w.heap[b]? = some (.map es ks.length) ∧ es.toList = mkEb ks 0
theorem askBn (x : Bn) (w : World) : ∀ (ks : List Bn) (n i : Nat), (∃ j, (Instr.findAsking 44 (bnA x) (mkEb ks n) i).run Tryz.prog w = .ok (some (j, .bool true)) w ∧ x ∈ ks ∧ i ≤ j ∧ ks[j - i]? = some x) ∨ ((Instr.findAsking 44 (bnA x) (mkEb ks n) i).run Tryz.prog w = .ok none w ∧ x ∉ ks)
  | [], n, i => .inr ⟨by simp [mkEb, Instr.findAsking], by simp⟩
  | k :: l, n, i => by
    by_cases hk : x = k
    · subst hk
      refine .inl ⟨i, ?_, by simp, Nat.le_refl _, by simp⟩
      simp [mkEb, Instr.findAsking, Sem.run_bind, equalBn]
    · have hd : decide (x = k) = false := decide_eq_false hk
      rcases askBn x w l (n + 1) (i + 1) with ⟨j, h1, h2, h3, h4⟩ | ⟨h1, h2⟩
      · refine .inl ⟨j, ?_, by simp [h2], by omega, ?_⟩
        · simp [mkEb, Instr.findAsking, Sem.run_bind, equalBn, hk, h1]
        · rw [show j - i = (j - (i + 1)) + 1 by omega]; simpa using h4
      · refine .inr ⟨?_, by simp [hk, h2]⟩
        simp [mkEb, Instr.findAsking, Sem.run_bind, equalBn, hk, h1]
theorem bn_wide : (match Tryz.prog.underlying 44 with | some (.array _ _) | some (.struct _) => true | _ => false) = true := by rw [bn_fields]
theorem findBn (x : Bn) (w : World) (ks : List Bn) : (∃ j, (Instr.findKey 44 (bnA x) (mkEb ks 0)).run Tryz.prog w = .ok (some (j, .bool true)) w ∧ x ∈ ks ∧ ks[j]? = some x) ∨ ((Instr.findKey 44 (bnA x) (mkEb ks 0)).run Tryz.prog w = .ok none w ∧ x ∉ ks) := by
  rw [run_findKey_eq w bn_wide]
  rcases askBn x w ks 0 0 with ⟨j, h1, h2, h3, h4⟩ | h
  · exact .inl ⟨j, h1, h2, by simpa using h4⟩
  · exact .inr h
theorem run_lookB {t : TypeId} (ht : Tryz.prog.underlying t = some (.map 44 4)) {w : World} {b : Nat} {ks : List Bn} (hm : MapB w b ks) (x : Bn) : (Instr.lookup t (.map (some b)) (bnA x) false).run Tryz.prog w = .ok (.bool (decide (x ∈ ks))) w := by
  obtain ⟨es, hb, he⟩ := hm
  have hz : (zeroValue 4).run Tryz.prog w = .ok (.bool false) w := by kernel_rfl
  rcases findBn x w ks with ⟨j, h1, h2, -⟩ | ⟨h1, h2⟩
  · rw [← he] at h1
    simp [Instr.lookup, run_underlying ht, MapKept.run_getObj_map hb, checkBn, h1, h2, Result.andThen]
  · rw [← he] at h1
    simp [Instr.lookup, run_underlying ht, MapKept.run_getObj_map hb, checkBn, h1, h2, Result.andThen, hz]
theorem mkEb_get {x : Bn} : ∀ {ks : List Bn} {n j : Nat}, ks[j]? = some x → (mkEb ks n)[j]? = some { key := bnA x, val := .bool true, born := n + j }
  | [], n, j, h => by simp at h
  | k :: l, n, 0, h => by simp at h; subst h; simp [mkEb]
  | k :: l, n, j + 1, h => by
    have := mkEb_get (n := n + 1) (show l[j]? = some x by simpa using h)
    simp only [mkEb, List.getElem?_cons_succ, this]
    congr 2; omega
theorem same_bits0 (x : Bn) (n : Nat) : Instr.sameBits (n + 1) (bnA x) (bnA x) = true := by
  unfold bnA
  cases n <;> simp [Instr.sameBits]
theorem same_bits (x : Bn) : Instr.sameBits 10000 (bnA x) (bnA x) = true := same_bits0 x 9999
theorem run_putB {t : TypeId} (ht : Tryz.prog.underlying t = some (.map 44 4)) {w : World} {b : Nat} {ks : List Bn} (hm : MapB w b ks) (x : Bn) :
    ∃ w' ks', (Instr.mapUpdate t (.map (some b)) (bnA x) (.bool true)).run Tryz.prog w = .ok () w' ∧ MapB w' b ks' ∧ (∀ y, y ∈ ks' ↔ y ∈ ks ∨ y = x) ∧ w.grownBy w' (some b) := by
  obtain ⟨es, hb, he⟩ := hm
  have hlt := (Array.getElem?_eq_some_iff.1 hb).1
  rcases findBn x w ks with ⟨j, h1, h2, h3⟩ | ⟨h1, h2⟩
  · rw [← he] at h1
    have hj : es[j]? = some { key := bnA x, val := .bool true, born := 0 + j } := by
      rw [← Array.getElem?_toList, he]; exact mkEb_get h3
    have hmod : es.modify j (fun e => { e with key := bnA x, val := .bool true }) = es := by
      apply Array.ext
      · simp
      · intro i hi1 hi2
        rw [Array.getElem_modify]
        split
        · rename_i e
          subst e
          have := (Array.getElem?_eq_some_iff.1 hj).2
          rw [this]
        · rfl
    have hks : (Instr.keyThatStays (((es[j]?).map (·.key)).getD (bnA x)) (bnA x)).run Tryz.prog w = .ok (bnA x) w := by
      rw [hj]
      simp [Instr.keyThatStays, same_bits]
    refine ⟨{ w with heap := w.heap.setIfInBounds b (.map es ks.length) }, ks, by simp [Instr.mapUpdate, run_underlying ht, MapKept.run_getObj_map hb, checkBn, h1, Result.andThen, hks, hmod, MapKept.run_setObj_map _ hb], ⟨es, ?_, he⟩, fun y => ⟨.inl, fun h => h.elim id (fun e => e ▸ h2)⟩, ⟨rfl, rfl, rfl, by simp, fun i hi hne => by
      simp only [Array.getElem?_setIfInBounds]
      rw [if_neg (fun e => hne (by rw [e]))]⟩⟩
    simp [hlt]
  · rw [← he] at h1
    refine ⟨_, ks ++ [x], by simp [Instr.mapUpdate, run_underlying ht, MapKept.run_getObj_map hb, checkBn, h1, MapKept.run_setObj_map _ hb, Result.andThen]; rfl, ⟨es.push { key := bnA x, val := .bool true, born := ks.length }, ?_, ?_⟩, fun y => by simp, ?_⟩
    · simp [hlt]
    · rw [mkEb_snoc, Array.toList_push, he, Nat.zero_add]
    · exact ⟨rfl, rfl, rfl, by simp, fun i hi hne => by
        simp only [Array.getElem?_setIfInBounds]
        rw [if_neg (fun e => hne (by rw [e]))]⟩
theorem MapB.on {w w' : World} {b n : Nat} {ks : List Bn} (h : MapB w b ks) (hb : Below n w w') (hn : w.heap.size ≤ n) : MapB w' b ks := by
  obtain ⟨es, h1, h2⟩ := h
  exact ⟨es, (hb.block b (by have := (Array.getElem?_eq_some_iff.1 h1).1; omega)).trans h1, h2⟩
theorem MapB.lt {w : World} {b : Nat} {ks : List Bn} (h : MapB w b ks) : b < w.heap.size := by
  obtain ⟨es, h1, -⟩ := h; exact (Array.getElem?_eq_some_iff.1 h1).1
/-- An element of a list of broken invariants in memory. -/
theorem bn_at {w : World} {b o c : Nat} {l : List Bn} (h : Rv 3 bnF w (some ⟨b, o, none⟩) c l) {j : Nat} {x : Bn} (hj : l[j]? = some x) : w.cell? ⟨b, o + j * 3, none⟩ = some (.int .u8 (x.kind : Int)) ∧ w.cell? ⟨b, o + j * 3 + 1, none⟩ = some (.int .i64 x.a) ∧ w.cell? ⟨b, o + j * 3 + 2, none⟩ = some (.int .i64 x.b) := by
  obtain ⟨b', o', e, -, h0⟩ := h.at_ hj
  injection e with e
  injection e with e1 e2
  subst e1 e2
  exact ⟨h0 0 (by omega), h0 1 (by omega), h0 2 (by omega)⟩
end Go.Proofs.YtbbadnlaelgmlaaGreat

namespace Go.Proofs.YtbbadnlaelgmlaaGreat
open Go.RowKit
set_option maxRecDepth 100000
set_option linter.unusedVariables false
set_option linter.unusedSimpArgs false

theorem row_store3 {W : World} {b : Nat} {y0 y1 y2 : Value} {T : TypeId} (h : W.heap[b]? = some (.cells #[y0, y1, y2] T (0, 0))) (x0 x1 x2 : Value) :
    (((W.setCell ⟨b, 0, none⟩ x0).setCell ⟨b, 1, none⟩ x1).setCell ⟨b, 2, none⟩ x2).heap[b]? = some (.cells #[x0, x1, x2] T (0, 0)) := set_field (set_field (set_field h x0) x1) x2
theorem retKept {fn : Func} {a : Act} {W : World} {R : Ending → World → Prop} {b i j : Nat} {x0 x1 x2 y : Value} (hfn : fn.results = #[.cell i 44, .tmp j]) (hp : a.tmps[i]?.getD undef = .pointer (some ⟨b, 0, none⟩)) (hj : a.tmps[j]?.getD undef = y) (hd : a.defers = [])
    (h : W.heap[b]? = some (.cells #[x0, x1, x2] 44 (0, 0))) (hR : R (.returned (.tuple #[.agg #[x0, x1, x2], y])) W) : bodyPost Tryz.prog fn R .ret a W := by
  have c0 : W.cell? ⟨b, 0, none⟩ = some x0 := cell_of h rfl
  have c1 : W.cell? ⟨b, 1, none⟩ = some x1 := cell_of h rfl
  have c2 : W.cell? ⟨b, 2, none⟩ = some x2 := cell_of h rfl
  exact bodyPost_ret (v := .tuple #[.agg #[x0, x1, x2], y]) (by simp [results, hfn, hp, hj, go_sem, c0, c1, c2]) hd hR
theorem ends3 {B b : Nat} {w X : World} (h : Below B w X) (hb : B ≤ b) (x0 x1 x2 : Value) : Below B w (((X.setCell ⟨b, 0, none⟩ x0).setCell ⟨b, 1, none⟩ x1).setCell ⟨b, 2, none⟩ x2) := ((h.setCell (p := ⟨b, 0, none⟩) hb _).setCell (p := ⟨b, 1, none⟩) hb _).setCell (p := ⟨b, 2, none⟩) hb _
theorem keptX_at {l m : List Bn} {k : Nat} {x : Bn} (h0 : ∀ y ∈ m.take k, y ∈ l) (hx : m[k]? = some x) (hn : x ∉ l) : keptX l m = x ∧ keptB l m = false := by
  have e : keptO l m = some x := find_at (fun y hy => by unfold newB; simp [h0 y hy]) hx (newB_iff.2 hn)
  exact ⟨by unfold keptX; rw [e]; rfl, by unfold keptB; rw [e]; rfl⟩
theorem mem_take_succ {l : List Bn} {k : Nat} {x y : Bn} (hx : l[k]? = some x) : y ∈ l.take (k + 1) ↔ y ∈ l.take k ∨ y = x := by
  rw [List.take_add_one, hx]
  simp
def KeptPost (l m : List Bn) (w : World) (e : Ending) (w' : World) : Prop := e = .returned (.tuple #[.agg #[.int .u8 ((keptX l m).kind : Int), .int .i64 (keptX l m).a, .int .i64 (keptX l m).b], .bool (keptB l m)]) ∧ Below w.heap.size w w'
set_option maxHeartbeats 16000000 in
theorem c_ivKept (A : Option Addr) (c : Nat) (l : List Bn) (A2 : Option Addr) (c2 : Nat) (m : List Bn) (w : World) (h1 : Rv 3 bnF w A c l) (h2 : Rv 3 bnF w A2 c2 m) :
    Calls Tryz.prog 17 #[.slice A l.length c, .slice A2 m.length c2] w (KeptPost l m w) := by
  have hmm := @run_makeMap Tryz.prog
  obtain ⟨W1, e1⟩ : ∃ W, W = w.alloc (.cells #[.int .u8 0, .int .i64 0, .int .i64 0] 44) := ⟨_, rfl⟩
  have B1 : Below w.heap.size w W1 := by rw [e1]; exact (Below.refl _ _).alloc (Nat.le_refl _) _
  have z1 : W1.heap.size = w.heap.size + 1 := by rw [e1, World.size_alloc]
  obtain ⟨W, e2⟩ : ∃ W, W = W1.alloc (.map #[] 0) := ⟨_, rfl⟩
  have B2 : Below w.heap.size w W := by rw [e2]; exact B1.alloc B1.size _
  have HB := Lib.hid B2
  have HX := Lib.hid (show W.heap[w.heap.size]? = some (.cells #[.int .u8 0, .int .i64 0, .int .i64 0] 44 (0, 0)) by rw [e2, e1]; exact old_heap _ (box_new _ _ _))
  have HM := Lib.hid (show MapB W (w.heap.size + 1) [] from ⟨#[], by rw [e2, ← z1]; exact heap_alloc_new _ _, rfl⟩)
  have H1 := Lib.hid (fun (X : World) (hX : Below w.heap.size w X) => h1.on hX (Nat.le_refl _))
  have H2 := Lib.hid (fun (X : World) (hX : Below w.heap.size w X) => h2.on hX (Nat.le_refl _))
  have hc1 := h1.1; have hc2 := h1.2.1; have hc3 := h2.1; have hc4 := h2.2.1
  unfold maxLen at hc2 hc4
  obtain ⟨B, hBB⟩ : ∃ B, w.heap.size = B := ⟨_, rfl⟩
  have hz0 : B + 2 = W.heap.size := by rw [e2, World.size_alloc, z1, hBB]
  have HZ0 := Lib.hid hz0
  have hBk := Lib.hid hBB
  rw [hBB] at HB HX HM H1 H2
  have hW : (w.alloc (.cells #[.int .u8 0, .int .i64 0, .int .i64 0] 44)).alloc (.map #[] 0) = W := by rw [e2, e1]
  have hsz : (w.alloc (.cells #[.int .u8 0, .int .i64 0, .int .i64 0] 44)).heap.size = B + 1 := by rw [World.size_alloc, hBB]
  clear h1 h2 B1 B2 e1 e2 z1 hz0
  go_enter Tryz.func17, Tryz.ntmps17
  go_wp2_with (fail)
  clear hmm hW hsz
  go_loopw [14] (fun i wr => ∃ k : Nat, k ≤ l.length ∧ i = .int .i64 (k : Int) ∧ Hid (Below B w wr) ∧ Hid (wr.heap[B]? = some (.cells #[.int .u8 0, .int .i64 0, .int .i64 0] 44 (0, 0))) ∧ Hid (∃ ks, MapB wr (B + 1) ks ∧ ∀ y, y ∈ ks ↔ y ∈ l.take k) ∧ B + 2 ≤ wr.heap.size) (fun i _ => l.length - (intOf i).toNat)
  case atStart => exact ⟨0, Nat.zero_le _, rfl, HB, HX, Lib.hid ⟨[], HM.out, by simp⟩, by have := HZ0.out; omega⟩
  case round =>
    obtain ⟨k, hk, rfl, hBr, hXr, hMr, hsr⟩ := hrel
    have hki : ((k : Nat) : Int).toNat = k := by omega
    by_cases hlt : k < l.length
    · obtain ⟨x, hx⟩ : ∃ x, l[k]? = some x := ⟨_, List.getElem?_eq_getElem hlt⟩
      have hki2 : (k : Int) < (l.length : Int) := by omega
      obtain ⟨pb, po, ea, -, -⟩ := (H1.out wr hBr.out).at_ hx
      have hr := H1.out wr hBr.out
      rw [ea] at hr
      obtain ⟨y0, y1, y2⟩ := bn_at hr hx
      rw [ea]
      obtain ⟨ks, hm, hks⟩ := hMr.out
      obtain ⟨V, hV⟩ : ∃ X, X = wr.alloc (.cells #[.int .u8 (x.kind : Int), .int .i64 x.a, .int .i64 x.b] 44) := ⟨_, rfl⟩
      have bV : Below wr.heap.size wr V := by rw [hV]; exact (Below.refl _ _).alloc (Nat.le_refl _) _
      have z0 : V.cell? ⟨wr.heap.size, 0, none⟩ = some (.int .u8 (x.kind : Int)) := by rw [hV]; exact cell_of (box_new _ _ _) rfl
      have z1 : V.cell? ⟨wr.heap.size, 1, none⟩ = some (.int .i64 x.a) := by rw [hV]; exact cell_of (box_new _ _ _) rfl
      have z2 : V.cell? ⟨wr.heap.size, 2, none⟩ = some (.int .i64 x.b) := by rw [hV]; exact cell_of (box_new _ _ _) rfl
      obtain ⟨Z, ks', hrun, hm', hks', hgr⟩ := run_putB (t := 72) Tryz.underlying72 (hm.on bV (Nat.le_refl _)) x
      have HBZ := Lib.hid ((hBr.out.trans (bV.mono (by omega))).grown hgr (by have := bV.size; omega) (fun q hq => by injection hq with hq; omega))
      have HXZ := Lib.hid (show Z.heap[B]? = _ from (hgr.block B (by have := bV.size; omega) (by intro e; injection e with e; omega)).trans (box_on hXr.out bV (Nat.le_refl _)))
      have HMZ := Lib.hid (show ∃ ks, MapB Z (B + 1) ks ∧ ∀ y, y ∈ ks ↔ y ∈ l.take (k + 1) from ⟨ks', hm', fun y => by rw [hks', hks, mem_take_succ hx]⟩)
      have hsZ : B + 2 ≤ Z.heap.size := by have := hgr.size; have := bV.size; omega
      unfold bnA at hrun
      clear hx hr hm hks hm' hks' hgr bV
      rw [hV] at z0 z1 z2 hrun
      go_wp2_with (fail)
      clear y0 y1 y2 z0 z1 z2 hrun hV
      go_roundw
      case rel => exact ⟨k + 1, by omega, by go_num, HBZ, HXZ, HMZ, hsZ⟩
      case measure => simp only [intOf]; omega
    · obtain rfl : k = l.length := by omega
      have hMr2 := hMr.out
      rw [List.take_length] at hMr2
      have HMr := Lib.hid hMr2
      obtain ⟨W2, hW2⟩ : ∃ W2, wr = W2 := ⟨_, rfl⟩
      rw [hW2] at hBr hXr HMr hsr
      rw [hW2]
      clear hW2 hMr hMr2
      have HKW := Lib.hid (Below.refl W2.heap.size W2)
      go_wp2_with (fail)
      go_loopw [23] (fun i wr => ∃ k : Nat, k ≤ m.length ∧ i = .int .i64 (k : Int) ∧ Hid (Below W2.heap.size W2 wr) ∧ Hid (∀ y ∈ m.take k, y ∈ l)) (fun i _ => m.length - (intOf i).toNat)
      case atStart => exact ⟨0, Nat.zero_le _, rfl, HKW, Lib.hid (by simp)⟩
      case round =>
        obtain ⟨k, hk, rfl, hBk2, hun⟩ := hrel
        have hki : ((k : Nat) : Int).toNat = k := by omega
        have HBX := Lib.hid (below_join hBr.out (hBk2.out.mono (Nat.le_refl _)) (by omega))
        by_cases hlt : k < m.length
        · obtain ⟨x, hx⟩ : ∃ x, m[k]? = some x := ⟨_, List.getElem?_eq_getElem hlt⟩
          have hki2 : (k : Int) < (m.length : Int) := by omega
          obtain ⟨pb, po, ea, -, -⟩ := (H2.out wr HBX.out).at_ hx
          have hr := H2.out wr HBX.out
          rw [ea] at hr
          obtain ⟨y0, y1, y2⟩ := bn_at hr hx
          rw [ea]
          obtain ⟨ks, hm, hks⟩ := HMr.out
          obtain ⟨V, hV⟩ : ∃ X, X = wr.alloc (.cells #[.int .u8 (x.kind : Int), .int .i64 x.a, .int .i64 x.b] 44) := ⟨_, rfl⟩
          have bV : Below wr.heap.size wr V := by rw [hV]; exact (Below.refl _ _).alloc (Nat.le_refl _) _
          have HKV := Lib.hid (below_join hBk2.out bV hBk2.out.size)
          have z0 : V.cell? ⟨wr.heap.size, 0, none⟩ = some (.int .u8 (x.kind : Int)) := by rw [hV]; exact cell_of (box_new _ _ _) rfl
          have z1 : V.cell? ⟨wr.heap.size, 1, none⟩ = some (.int .i64 x.a) := by rw [hV]; exact cell_of (box_new _ _ _) rfl
          have z2 : V.cell? ⟨wr.heap.size, 2, none⟩ = some (.int .i64 x.b) := by rw [hV]; exact cell_of (box_new _ _ _) rfl
          have hrun := run_lookB (t := 72) Tryz.underlying72 (hm.on HKV.out (Nat.le_refl _)) x
          rw [show decide (x ∈ ks) = decide (x ∈ l) from decide_eq_decide.2 (hks x)] at hrun
          have HXX := Lib.hid hx
          have hXV := box_on hXr.out HKV.out (Nat.le_refl _)
          have HXV := Lib.hid hXV
          have hv0 : V.cell? ⟨B, 0, none⟩ = some (.int .u8 0) := cell_of hXV rfl
          have hv1 : V.cell? ⟨B, 1, none⟩ = some (.int .i64 0) := cell_of hXV rfl
          have hv2 : V.cell? ⟨B, 2, none⟩ = some (.int .i64 0) := cell_of hXV rfl
          have hf0 := frz0 hXV 0
          have hf1 := frz0 hXV 1
          have hf2 := frz0 hXV 2
          have HBV := Lib.hid (below_join HBX.out bV (by have := hBk2.out.size; omega))
          unfold bnA at hrun
          clear hx hr hm hks bV hXV
          rcases hd : decide (x ∈ l) with _ | _
          · have hn := of_decide_eq_false hd
            rw [hd] at hrun
            have HRR := Lib.hid (keptX_at hun.out HXX.out hn)
            rw [hV] at z0 z1 z2 hrun hv0 hv1 hv2 hf0 hf1 hf2
            go_wp2_with (fail)
            rw [← hV]
            clear y0 y1 y2 z0 z1 z2 hrun hv0 hv1 hv2 hf0 hf1 hf2 hV
            refine retKept (i := 4) (b := B) (j := 5) rfl rfl rfl rfl (row_store3 HXV.out _ _ _) ?_
            exact ⟨by rw [HRR.out.1, HRR.out.2]; rfl, by rw [hBk.out]; exact ends3 HBV.out (Nat.le_refl _) _ _ _⟩
          · have hn := of_decide_eq_true hd
            rw [hd] at hrun
            have HUN := Lib.hid (show ∀ y ∈ m.take (k + 1), y ∈ l from fun y hy => by
              rcases (mem_take_succ HXX.out).1 hy with h | h
              · exact hun.out y h
              · exact h ▸ hn)
            rw [hV] at z0 z1 z2 hrun hv0 hv1 hv2 hf0 hf1 hf2
            go_wp2_with (fail)
            rw [← hV]
            clear y0 y1 y2 z0 z1 z2 hrun hv0 hv1 hv2 hf0 hf1 hf2 hV
            go_roundw
            case rel => exact ⟨k + 1, by omega, by go_num, HKV, HUN⟩
            case measure => simp only [intOf]; omega
        · obtain rfl : k = m.length := by omega
          have hk2 : keptB l m = true := keptB_iff.2 (by have := hun.out; rwa [List.take_length] at this)
          have HKB := Lib.hid hk2
          have hXV := box_on hXr.out hBk2.out (Nat.le_refl _)
          have HXV := Lib.hid hXV
          have hv0 : wr.cell? ⟨B, 0, none⟩ = some (.int .u8 0) := cell_of hXV rfl
          have hv1 : wr.cell? ⟨B, 1, none⟩ = some (.int .i64 0) := cell_of hXV rfl
          have hv2 : wr.cell? ⟨B, 2, none⟩ = some (.int .i64 0) := cell_of hXV rfl
          have hf0 := frz0 hXV 0
          have hf1 := frz0 hXV 1
          have hf2 := frz0 hXV 2
          clear hXV hk2
          go_wp2_with (fail)
          clear hv0 hv1 hv2 hf0 hf1 hf2
          refine retKept (i := 4) (b := B) (j := 5) rfl rfl rfl rfl (row_store3 HXV.out _ _ _) ?_
          exact ⟨by rw [keptX_none HKB.out, HKB.out]; rfl, by rw [hBk.out]; exact ends3 HBX.out (Nat.le_refl _) _ _ _⟩
end Go.Proofs.YtbbadnlaelgmlaaGreat

namespace Go.Proofs.YtbbadnlaelgmlaaGreat
open Go.RowKit
set_option maxRecDepth 100000
set_option linter.unusedVariables false
set_option linter.unusedSimpArgs false

set_option maxHeartbeats 8000000 in
theorem c_irHas (A : Option Addr) (c : Nat) (l : List Bn) (x0 : Bn) (r : Bool) (hr : decide (x0 ∈ l) = r) (w : World) (h : Rv 3 bnF w A c l) :
    Calls Tryz.prog 33 #[.slice A l.length c, .agg #[.int .u8 (x0.kind : Int), .int .i64 x0.a, .int .i64 x0.b]] w fun e w' => e = .returned (.bool r) ∧ Below w.heap.size w w' := by
  have heq := eqlBn
  have hgd := guardBn
  obtain ⟨W, e1⟩ : ∃ W, W = w.alloc (.cells #[.int .u8 (x0.kind : Int), .int .i64 x0.a, .int .i64 x0.b] 44) := ⟨_, rfl⟩
  have B1 : Below w.heap.size w W := by rw [e1]; exact (Below.refl _ _).alloc (Nat.le_refl _) _
  have HB := Lib.hid B1
  have hx0 : W.heap[w.heap.size]? = some (.cells #[.int .u8 (x0.kind : Int), .int .i64 x0.a, .int .i64 x0.b] 44 (0, 0)) := by rw [e1]; exact box_new _ _ _
  have HX := Lib.hid (fun (X : World) (hX : Below W.heap.size W X) => (⟨cell_of (box_on hx0 hX (Nat.le_refl _)) rfl, cell_of (box_on hx0 hX (Nat.le_refl _)) rfl, cell_of (box_on hx0 hX (Nat.le_refl _)) rfl⟩ : X.cell? ⟨w.heap.size, 0, none⟩ = some (.int .u8 (x0.kind : Int)) ∧ X.cell? ⟨w.heap.size, 1, none⟩ = some (.int .i64 x0.a) ∧ X.cell? ⟨w.heap.size, 2, none⟩ = some (.int .i64 x0.b)))
  have H1 := Lib.hid (fun (X : World) (hX : Below W.heap.size W X) => (h.on B1 (Nat.le_refl _)).on hX (Nat.le_refl _))
  have HKW := Lib.hid (Below.refl W.heap.size W)
  have hc1 := h.1; have hc2 := h.2.1
  unfold maxLen at hc2
  have hle := B1.size
  have HRR := Lib.hid hr
  generalize hBB : w.heap.size = B at *
  clear h B1 hx0 hr
  go_enter Tryz.func33, Tryz.ntmps33
  go_wp2_with (fail)
  rw [← e1]
  clear e1
  go_loopw [5] (fun i wr => ∃ k : Nat, k ≤ l.length ∧ i = .int .i64 (k : Int) ∧ Hid (Below W.heap.size W wr) ∧ Hid (∀ y ∈ l.take k, y ≠ x0)) (fun i _ => l.length - (intOf i).toNat)
  case atStart => exact ⟨0, Nat.zero_le _, rfl, HKW, Lib.hid (by simp)⟩
  case round =>
    obtain ⟨k, hk, rfl, HKwr, hun⟩ := hrel
    have hki : ((k : Nat) : Int).toNat = k := by omega
    by_cases hlt : k < l.length
    · obtain ⟨x, hx⟩ : ∃ x, l[k]? = some x := ⟨_, List.getElem?_eq_getElem hlt⟩
      have hki2 : (k : Int) < (l.length : Int) := by omega
      obtain ⟨pb, po, pe, -, -⟩ := (H1.out wr HKwr.out).at_ hx
      have pr := H1.out wr HKwr.out
      rw [pe] at pr
      obtain ⟨y0, y1, y2⟩ := bn_at pr hx
      have HS := Lib.hid (fun (X : World) (hX : Below wr.heap.size wr X) => (by
        have hk2 := below_join HKwr.out hX HKwr.out.size
        obtain ⟨q0, q1, q2⟩ := HX.out X hk2
        have r := H1.out X hk2
        rw [pe] at r
        exact ⟨q0, q1, q2, (bn_at r hx)⟩ : X.cell? ⟨B, 0, none⟩ = some (.int .u8 (x0.kind : Int)) ∧ X.cell? ⟨B, 1, none⟩ = some (.int .i64 x0.a) ∧ X.cell? ⟨B, 2, none⟩ = some (.int .i64 x0.b) ∧ X.cell? ⟨pb, po + k * 3, none⟩ = some (.int .u8 (x.kind : Int)) ∧ X.cell? ⟨pb, po + k * 3 + 1, none⟩ = some (.int .i64 x.a) ∧ X.cell? ⟨pb, po + k * 3 + 2, none⟩ = some (.int .i64 x.b)))
      have HXX := Lib.hid hx
      have HKbwr := Lib.hid (Below.refl wr.heap.size wr)
      obtain ⟨b, hb⟩ : ∃ b, decide (x = x0) = b := ⟨_, rfl⟩
      have hbq : (((x.kind : Int) == (x0.kind : Int)) && ((x.a == x0.a) && (x.b == x0.b))) = b := by rw [bn_beq]; exact hb
      have HBQ := Lib.hid hb
      have heq2 : ∀ W2 : World, (binOp .eql 44 (.agg #[.int .u8 (x.kind : Int), .int .i64 x.a, .int .i64 x.b]) (.agg #[.int .u8 (x0.kind : Int), .int .i64 x0.a, .int .i64 x0.b])).run Tryz.prog W2 = .ok (.bool b) W2 := fun W2 => by rw [heq, hbq]
      rw [pe]
      clear hx pr hb hbq heq
      rcases b with _ | _
      · have HUN := Lib.hid (show ∀ y ∈ l.take (k + 1), y ≠ x0 from fun y hy => by
          rcases (mem_take_succ HXX.out).1 hy with h | h
          · exact hun.out y h
          · subst h; exact of_decide_eq_false HBQ.out)
        go_wp2_with (fail)
        clear y0 y1 y2
        go_region_held3 (fun X => X.cell? ⟨B, 0, none⟩ = some (.int .u8 (x0.kind : Int)) ∧ X.cell? ⟨B, 1, none⟩ = some (.int .i64 x0.a) ∧ X.cell? ⟨B, 2, none⟩ = some (.int .i64 x0.b) ∧ X.cell? ⟨pb, po + k * 3, none⟩ = some (.int .u8 (x.kind : Int)) ∧ X.cell? ⟨pb, po + k * 3 + 1, none⟩ = some (.int .i64 x.a) ∧ X.cell? ⟨pb, po + k * 3 + 2, none⟩ = some (.int .i64 x.b))
          (first | exact HS.out wr HKbwr.out | fail)
          (first
            | fail)
        go_wp2_with (fail)
        go_roundw
        case rel => exact ⟨k + 1, by omega, by go_num, Lib.hid HKwr.out.drew, HUN⟩
        case measure => simp only [intOf]; omega
      · have HT := Lib.hid (show true = r by
          rw [← HRR.out]; symm
          exact decide_eq_true (by rw [← of_decide_eq_true HBQ.out]; exact List.mem_of_getElem? HXX.out))
        go_wp2_with (fail)
        clear y0 y1 y2
        go_region_held3 (fun X => X.cell? ⟨B, 0, none⟩ = some (.int .u8 (x0.kind : Int)) ∧ X.cell? ⟨B, 1, none⟩ = some (.int .i64 x0.a) ∧ X.cell? ⟨B, 2, none⟩ = some (.int .i64 x0.b) ∧ X.cell? ⟨pb, po + k * 3, none⟩ = some (.int .u8 (x.kind : Int)) ∧ X.cell? ⟨pb, po + k * 3 + 1, none⟩ = some (.int .i64 x.a) ∧ X.cell? ⟨pb, po + k * 3 + 2, none⟩ = some (.int .i64 x.b))
          (first | exact HS.out wr HKbwr.out | fail)
          (first
            | fail)
        go_wp2_with (fail)
        go_ret
        exact ⟨by rw [HT.out]; rfl, below_join HB.out HKwr.out.drew hle⟩
    · obtain rfl : k = l.length := by omega
      have HT := Lib.hid (show false = r by
        rw [← HRR.out]; symm
        refine decide_eq_false fun hm => ?_
        have := hun.out
        rw [List.take_length] at this
        exact this x0 hm rfl)
      go_wp2_with (fail)
      go_ret
      exact ⟨by rw [HT.out]; rfl, below_join HB.out HKwr.out hle⟩
set_option maxHeartbeats 8000000 in
theorem c_irKept (A : Option Addr) (c : Nat) (l : List Bn) (A2 : Option Addr) (c2 : Nat) (m : List Bn) (w : World) (h1 : Rv 3 bnF w A c l) (h2 : Rv 3 bnF w A2 c2 m) :
    Calls Tryz.prog 18 #[.slice A l.length c, .slice A2 m.length c2] w (KeptPost l m w) := by
  obtain ⟨W, e1⟩ : ∃ W, W = w.alloc (.cells #[.int .u8 0, .int .i64 0, .int .i64 0] 44) := ⟨_, rfl⟩
  have B1 : Below w.heap.size w W := by rw [e1]; exact (Below.refl _ _).alloc (Nat.le_refl _) _
  have HB := Lib.hid B1
  have HX := Lib.hid (show W.heap[w.heap.size]? = some (.cells #[.int .u8 0, .int .i64 0, .int .i64 0] 44 (0, 0)) by rw [e1]; exact box_new _ _ _)
  have H1 := Lib.hid (fun (X : World) (hX : Below W.heap.size W X) => (h1.on B1 (Nat.le_refl _)).on hX (Nat.le_refl _))
  have H2 := Lib.hid (fun (X : World) (hX : Below W.heap.size W X) => (h2.on B1 (Nat.le_refl _)).on hX (Nat.le_refl _))
  have HKW := Lib.hid (Below.refl W.heap.size W)
  have hc1 := h1.1; have hc2 := h1.2.1; have hc3 := h2.1; have hc4 := h2.2.1
  unfold maxLen at hc2 hc4
  have hle := B1.size
  obtain ⟨B, hBB⟩ : ∃ B, w.heap.size = B := ⟨_, rfl⟩
  have hBk := Lib.hid hBB
  rw [hBB] at HB HX hle
  have hW : w.alloc (.cells #[.int .u8 0, .int .i64 0, .int .i64 0] 44) = W := by rw [e1]
  clear h1 h2 B1 e1
  go_enter Tryz.func18, Tryz.ntmps18
  go_wp2_with (fail)
  clear hW
  go_loopw [6] (fun i wr => ∃ k : Nat, k ≤ m.length ∧ i = .int .i64 (k : Int) ∧ Hid (Below W.heap.size W wr) ∧ Hid (∀ y ∈ m.take k, y ∈ l)) (fun i _ => m.length - (intOf i).toNat)
  case atStart => exact ⟨0, Nat.zero_le _, rfl, HKW, Lib.hid (by simp)⟩
  case round =>
    obtain ⟨k, hk, rfl, hBk2, hun⟩ := hrel
    have hki : ((k : Nat) : Int).toNat = k := by omega
    by_cases hlt : k < m.length
    · obtain ⟨x, hx⟩ : ∃ x, m[k]? = some x := ⟨_, List.getElem?_eq_getElem hlt⟩
      have hki2 : (k : Int) < (m.length : Int) := by omega
      obtain ⟨pb, po, pe, -, -⟩ := (H2.out wr hBk2.out).at_ hx
      have pr := H2.out wr hBk2.out
      rw [pe] at pr
      obtain ⟨y0, y1, y2⟩ := bn_at pr hx
      have HXX := Lib.hid hx
      have HBN := Lib.hid (fun (X : World) (hX : Below W.heap.size W X) => (by
        have r := H2.out X hX
        rw [pe] at r
        exact bn_at r hx : X.cell? ⟨pb, po + k * 3, none⟩ = some (.int .u8 (x.kind : Int)) ∧ X.cell? ⟨pb, po + k * 3 + 1, none⟩ = some (.int .i64 x.a) ∧ X.cell? ⟨pb, po + k * 3 + 2, none⟩ = some (.int .i64 x.b)))
      obtain ⟨b, hb⟩ : ∃ b, decide (x ∈ l) = b := ⟨_, rfl⟩
      have HBD := Lib.hid hb
      rw [pe]
      clear hx pr hb
      go_wp2_with (fail)
      clear y0 y1 y2
      go_at_call 33
      refine (c_irHas A c l x b HBD.out wr (H1.out wr hBk2.out)).mono ?_
      rintro e v ⟨rfl, bb⟩
      have HKv := Lib.hid (below_join hBk2.out bb hBk2.out.size)
      clear bb
      obtain ⟨y0, y1, y2⟩ := HBN.out v HKv.out
      have hXV := box_on HX.out HKv.out (Nat.le_refl _)
      have HXV := Lib.hid hXV
      have hv0 : v.cell? ⟨B, 0, none⟩ = some (.int .u8 0) := cell_of hXV rfl
      have hv1 : v.cell? ⟨B, 1, none⟩ = some (.int .i64 0) := cell_of hXV rfl
      have hv2 : v.cell? ⟨B, 2, none⟩ = some (.int .i64 0) := cell_of hXV rfl
      have hf0 := frz0 hXV 0
      have hf1 := frz0 hXV 1
      have hf2 := frz0 hXV 2
      clear hXV
      rcases b with _ | _
      · have HRR := Lib.hid (keptX_at hun.out HXX.out (of_decide_eq_false HBD.out))
        go_wp2_with (fail)
        clear y0 y1 y2 hv0 hv1 hv2 hf0 hf1 hf2
        refine retKept (i := 4) (b := B) (j := 5) rfl rfl rfl rfl (row_store3 HXV.out _ _ _) ?_
        exact ⟨by rw [HRR.out.1, HRR.out.2]; rfl, by rw [hBk.out]; exact ends3 (below_join HB.out HKv.out hle) (Nat.le_refl _) _ _ _⟩
      · have HUN := Lib.hid (show ∀ y ∈ m.take (k + 1), y ∈ l from fun y hy => by
          rcases (mem_take_succ HXX.out).1 hy with h | h
          · exact hun.out y h
          · exact h ▸ of_decide_eq_true HBD.out)
        go_wp2_with (fail)
        clear y0 y1 y2 hv0 hv1 hv2 hf0 hf1 hf2
        go_roundw
        case rel => exact ⟨k + 1, by omega, by go_num, HKv, HUN⟩
        case measure => simp only [intOf]; omega
    · obtain rfl : k = m.length := by omega
      have hk2 : keptB l m = true := keptB_iff.2 (by have := hun.out; rwa [List.take_length] at this)
      have HKB := Lib.hid hk2
      have hXV := box_on HX.out hBk2.out (Nat.le_refl _)
      have HXV := Lib.hid hXV
      have hv0 : wr.cell? ⟨B, 0, none⟩ = some (.int .u8 0) := cell_of hXV rfl
      have hv1 : wr.cell? ⟨B, 1, none⟩ = some (.int .i64 0) := cell_of hXV rfl
      have hv2 : wr.cell? ⟨B, 2, none⟩ = some (.int .i64 0) := cell_of hXV rfl
      have hf0 := frz0 hXV 0
      have hf1 := frz0 hXV 1
      have hf2 := frz0 hXV 2
      clear hXV hk2
      go_wp2_with (fail)
      clear hv0 hv1 hv2 hf0 hf1 hf2
      refine retKept (i := 4) (b := B) (j := 5) rfl rfl rfl rfl (row_store3 HXV.out _ _ _) ?_
      exact ⟨by rw [keptX_none HKB.out, HKB.out]; rfl, by rw [hBk.out]; exact ends3 (below_join HB.out hBk2.out hle) (Nat.le_refl _) _ _ _⟩
theorem bnC_snoc (l : List Bn) (x : Bn) : cellsV 3 bnF (l ++ [x]) = cellsV 3 bnF l ++ [.int .u8 (x.kind : Int), .int .i64 x.a, .int .i64 x.b] := by rw [cellsV_append, bn_one]
set_option maxHeartbeats 16000000 in
theorem c_ivOf (A : Option Addr) (c : Nat) (l : List Bn) (kd : Nat) (hkd : kd < 256) (hm : l.length ≤ 10000) (w : World) (h : Rv 3 bnF w A c l) :
    Calls Tryz.prog 19 #[.slice A l.length c, .int .u8 (kd : Int)] w fun e w' => ∃ A' c', e = .returned (.slice A' (ofL l kd).length c') ∧ Rv 3 bnF w' A' c' (ofL l kd) ∧ Below w.heap.size w w' := by
  have H := Lib.hid h
  have hc1 := h.1; have hc2 := h.2.1
  unfold maxLen at hc2
  have HKw := Lib.hid (Below.refl w.heap.size w)
  obtain ⟨i1, hi1, hz1, hz2, hz3⟩ := info_parts bn_info
  clear h
  go_enter Tryz.func19, Tryz.ntmps19
  go_wp2_with (fail)
  go_loopw [5, 10] (fun v i wr => ∃ k : Nat, k ≤ l.length ∧ i = .int .i64 (k : Int) ∧ Hid (Below w.heap.size w wr) ∧ Hid (wr.ownsRow w.heap.size 44 3 v (ofL (l.take k) kd).length (cellsV 3 bnF (ofL (l.take k) kd)))) (fun _ i _ => l.length - (intOf i).toNat)
  case atStart => exact ⟨0, Nat.zero_le _, rfl, HKw, Lib.hid (World.ownsRow_nil _ _ _ _)⟩
  case round =>
    obtain ⟨k, hk, rfl, hK, ho⟩ := hrel
    have hki : ((k : Nat) : Int).toNat = k := by omega
    by_cases hlt : k < l.length
    · obtain ⟨x, hx⟩ : ∃ x, l[k]? = some x := ⟨_, List.getElem?_eq_getElem hlt⟩
      have hki2 : (k : Int) < (l.length : Int) := by omega
      obtain ⟨pb, po, pe, -, -⟩ := (H.out.on hK.out (Nat.le_refl _)).at_ hx
      have pr := H.out.on hK.out (Nat.le_refl _)
      rw [pe] at pr
      obtain ⟨y0, y1, y2⟩ := bn_at pr hx
      have HX := Lib.hid hx
      have hln : (ofL (l.take k) kd).length ≤ 10000 := Nat.le_trans (ofL_len _ _) (by rw [List.length_take]; omega)
      obtain ⟨nn, hnn⟩ : ∃ m, m = (ofL (l.take k) kd).length := ⟨_, rfl⟩
      rw [← hnn] at ho hln
      have HNN := Lib.hid hnn
      obtain ⟨As, cs, rfl⟩ := own_shape ho.out
      have hz4 := hK.out.size
      obtain ⟨V, hV⟩ : ∃ X, X = wr.alloc (.cells #[.int .u8 (x.kind : Int), .int .i64 x.a, .int .i64 x.b] 44) := ⟨_, rfl⟩
      have bV : Below wr.heap.size wr V := by rw [hV]; exact (Below.refl _ _).alloc (Nat.le_refl _) _
      have z0 : V.cell? ⟨wr.heap.size, 0, none⟩ = some (.int .u8 (x.kind : Int)) := by rw [hV]; exact cell_of (box_new _ _ _) rfl
      have z1 : V.cell? ⟨wr.heap.size, 1, none⟩ = some (.int .i64 x.a) := by rw [hV]; exact cell_of (box_new _ _ _) rfl
      have z2 : V.cell? ⟨wr.heap.size, 2, none⟩ = some (.int .i64 x.b) := by rw [hV]; exact cell_of (box_new _ _ _) rfl
      have HVS := Lib.hid (show V.heap.size = wr.heap.size + 1 by rw [hV, World.size_alloc])
      have HKV := Lib.hid (below_join hK.out bV hK.out.size)
      have HOV := Lib.hid (own_on ho.out bV (Nat.le_refl _))
      have hz5 := bV.size
      rw [pe]
      clear hnn hx pr bV
      rcases hf : ((x.kind : Int) == (kd : Int)) with _ | _
      · have HO := Lib.hid (show V.ownsRow w.heap.size 44 3 (.slice As nn cs) (ofL (l.take (k + 1)) kd).length (cellsV 3 bnF (ofL (l.take (k + 1)) kd)) by
          have hf2 : (x.kind == kd) = false := by rw [beq_eq_false_iff_ne] at hf ⊢; omega
          rw [ofL_take HX.out, hf2]
          simp only [Bool.false_eq_true, if_false, List.append_nil]
          rw [← HNN.out]; exact HOV.out)
        rw [hV] at z0 z1 z2
        go_wp2_with (fail)
        rw [← hV]
        clear hV y0 y1 y2 z0 z1 z2
        go_roundw
        case rel => exact ⟨k + 1, by omega, by go_num, HKV, HO⟩
        case measure => simp only [intOf]; omega
      · have hf2 : (x.kind == kd) = true := by rw [beq_iff_eq] at hf ⊢; omega
        have HFF := Lib.hid hf2
        clear hf2
        rw [hV] at z0 z1 z2
        go_wp2_with (at_builtin; rw [← hV]; refine wpList_append_lies _ rfl _ _ 40 rfl w.heap.size 44 i1 (.agg #[.int .u8 0, .int .i64 0, .int .i64 0]) 3 24 Tryz.underlying40 hi1 hz1 hz2 hz3 rfl (by decide) (.slice As nn cs) nn _ rfl (HOV.out.alloc _) ⟨wr.heap.size + 1, 0, none⟩ 1 1 [.int .u8 (x.kind : Int), .int .i64 x.a, .int .i64 x.b] rfl rfl (by rw [← HVS.out]; exact World.news_of_block (heap_alloc_new _ _)) (by simp [Value.oneCell']) (by decide) (by unfold maxLen; omega) (by omega) (by simp; omega) (V.heap.size + 1) (by simp) ?_; intro g4 cap4 Z hown hgrow _ _; have HBZ := Lib.hid ((HKV.out.alloc HKV.out.size _).grown hgrow (by have := HKV.out.size; simp; omega) (fun k hk => (ownsRow_lt HOV.out hk).1)); have HOZ := Lib.hid hown; clear hown hgrow)
        have HO := Lib.hid (show Z.ownsRow w.heap.size 44 3 (.slice (some ⟨g4, 0, none⟩) (nn + 1) cap4) (ofL (l.take (k + 1)) kd).length (cellsV 3 bnF (ofL (l.take (k + 1)) kd)) by
          rw [ofL_take HX.out, HFF.out]
          simp only [if_true]
          rw [List.length_append, List.length_singleton, ← HNN.out, bnC_snoc]
          exact HOZ.out)
        clear hV y0 y1 y2 z0 z1 z2
        go_roundw
        case rel => exact ⟨k + 1, by omega, by go_num, HBZ, HO⟩
        case measure => simp only [intOf]; omega
    · obtain rfl : k = l.length := by omega
      have ho2 := ho.out
      rw [List.take_length] at ho2
      have HO := Lib.hid ho2
      clear ho2
      go_wp2_with (fail)
      go_ret
      obtain ⟨A', c', rfl, hrv⟩ := own_rv (k := 3) (F := bnF) HO.out
      exact ⟨A', c', rfl, hrv, hK.out⟩
set_option maxHeartbeats 16000000 in
theorem c_irOf (A : Option Addr) (c : Nat) (l : List Bn) (kd : Nat) (hkd : kd < 256) (hm : l.length ≤ 10000) (w : World) (h : Rv 3 bnF w A c l) :
    Calls Tryz.prog 20 #[.slice A l.length c, .int .u8 (kd : Int)] w fun e w' => ∃ A' c', e = .returned (.slice A' (ofL l kd).length c') ∧ Rv 3 bnF w' A' c' (ofL l kd) ∧ Below w.heap.size w w' := by
  have H := Lib.hid h
  have hc1 := h.1; have hc2 := h.2.1
  unfold maxLen at hc2
  have HKw := Lib.hid (Below.refl w.heap.size w)
  obtain ⟨i1, hi1, hz1, hz2, hz3⟩ := info_parts bn_info
  clear h
  go_enter Tryz.func20, Tryz.ntmps20
  go_wp2_with (fail)
  go_loopw [5, 6] (fun v i wr => ∃ k : Nat, k ≤ l.length ∧ i = .int .i64 (k : Int) ∧ Hid (Below w.heap.size w wr) ∧ Hid (wr.ownsRow w.heap.size 44 3 v (ofL (l.take k) kd).length (cellsV 3 bnF (ofL (l.take k) kd)))) (fun _ i _ => l.length - (intOf i).toNat)
  case atStart => exact ⟨0, Nat.zero_le _, rfl, HKw, Lib.hid (World.ownsRow_nil _ _ _ _)⟩
  case round =>
    obtain ⟨k, hk, rfl, hK, ho⟩ := hrel
    have hki : ((k : Nat) : Int).toNat = k := by omega
    by_cases hlt : k < l.length
    · obtain ⟨x, hx⟩ : ∃ x, l[k]? = some x := ⟨_, List.getElem?_eq_getElem hlt⟩
      have hki2 : (k : Int) < (l.length : Int) := by omega
      obtain ⟨pb, po, pe, -, -⟩ := (H.out.on hK.out (Nat.le_refl _)).at_ hx
      have pr := H.out.on hK.out (Nat.le_refl _)
      rw [pe] at pr
      obtain ⟨y0, y1, y2⟩ := bn_at pr hx
      have HX := Lib.hid hx
      have hln : (ofL (l.take k) kd).length ≤ 10000 := Nat.le_trans (ofL_len _ _) (by rw [List.length_take]; omega)
      obtain ⟨nn, hnn⟩ : ∃ m, m = (ofL (l.take k) kd).length := ⟨_, rfl⟩
      rw [← hnn] at ho hln
      have HNN := Lib.hid hnn
      obtain ⟨As, cs, rfl⟩ := own_shape ho.out
      have hz4 := hK.out.size
      have bV : Below wr.heap.size wr wr := Below.refl _ _
      have HKV := Lib.hid (below_join hK.out bV hK.out.size)
      have HOV := Lib.hid (own_on ho.out bV (Nat.le_refl _))
      have hz5 := bV.size
      rw [pe]
      clear hnn hx pr bV
      rcases hf : ((x.kind : Int) == (kd : Int)) with _ | _
      · have HO := Lib.hid (show wr.ownsRow w.heap.size 44 3 (.slice As nn cs) (ofL (l.take (k + 1)) kd).length (cellsV 3 bnF (ofL (l.take (k + 1)) kd)) by
          have hf2 : (x.kind == kd) = false := by rw [beq_eq_false_iff_ne] at hf ⊢; omega
          rw [ofL_take HX.out, hf2]
          simp only [Bool.false_eq_true, if_false, List.append_nil]
          rw [← HNN.out]; exact HOV.out)
        go_wp2_with (fail)
        clear  y0 y1 y2
        go_roundw
        case rel => exact ⟨k + 1, by omega, by go_num, HKV, HO⟩
        case measure => simp only [intOf]; omega
      · have hf2 : (x.kind == kd) = true := by rw [beq_iff_eq] at hf ⊢; omega
        have HFF := Lib.hid hf2
        clear hf2
        go_wp2_with (at_builtin; refine wpList_append_lies _ rfl _ _ 40 rfl w.heap.size 44 i1 (.agg #[.int .u8 0, .int .i64 0, .int .i64 0]) 3 24 Tryz.underlying40 hi1 hz1 hz2 hz3 rfl (by decide) (.slice As nn cs) nn _ rfl (HOV.out.alloc _) ⟨wr.heap.size, 0, none⟩ 1 1 [.int .u8 (x.kind : Int), .int .i64 x.a, .int .i64 x.b] rfl rfl (World.news_of_block (heap_alloc_new _ _)) (by simp [Value.oneCell']) (by decide) (by unfold maxLen; omega) (by omega) (by simp; omega) (wr.heap.size + 1) (by simp) ?_; intro g4 cap4 Z hown hgrow _ _; have HBZ := Lib.hid ((HKV.out.alloc HKV.out.size _).grown hgrow (by have := HKV.out.size; simp; omega) (fun k hk => (ownsRow_lt HOV.out hk).1)); have HOZ := Lib.hid hown; clear hown hgrow)
        have HO := Lib.hid (show Z.ownsRow w.heap.size 44 3 (.slice (some ⟨g4, 0, none⟩) (nn + 1) cap4) (ofL (l.take (k + 1)) kd).length (cellsV 3 bnF (ofL (l.take (k + 1)) kd)) by
          rw [ofL_take HX.out, HFF.out]
          simp only [if_true]
          rw [List.length_append, List.length_singleton, ← HNN.out, bnC_snoc]
          exact HOZ.out)
        clear  y0 y1 y2
        go_roundw
        case rel => exact ⟨k + 1, by omega, by go_num, HBZ, HO⟩
        case measure => simp only [intOf]; omega
    · obtain rfl : k = l.length := by omega
      have ho2 := ho.out
      rw [List.take_length] at ho2
      have HO := Lib.hid ho2
      clear ho2
      go_wp2_with (fail)
      go_ret
      obtain ⟨A', c', rfl, hrv⟩ := own_rv (k := 3) (F := bnF) HO.out
      exact ⟨A', c', rfl, hrv, hK.out⟩
set_option maxHeartbeats 8000000 in
theorem c_irSame (A : Option Addr) (c : Nat) (l : List Bn) (A2 : Option Addr) (c2 : Nat) (m : List Bn) (r : Bool) (hr : decide (l = m) = r) (w : World) (h1 : Rv 3 bnF w A c l) (h2 : Rv 3 bnF w A2 c2 m) :
    Calls Tryz.prog 12 #[.slice A l.length c, .slice A2 m.length c2] w fun e w' => e = .returned (.bool r) ∧ Below w.heap.size w w' := by
  have heq := neqBn
  have hgd := guardBn
  have H1 := Lib.hid (fun (X : World) (hX : Below w.heap.size w X) => h1.on hX (Nat.le_refl _))
  have H2 := Lib.hid (fun (X : World) (hX : Below w.heap.size w X) => h2.on hX (Nat.le_refl _))
  have HKw := Lib.hid (Below.refl w.heap.size w)
  have hc1 := h1.1; have hc2 := h1.2.1; have hc3 := h2.1; have hc4 := h2.2.1
  unfold maxLen at hc2 hc4
  have HRR := Lib.hid hr
  clear h1 h2 hr
  go_enter Tryz.func12, Tryz.ntmps12
  by_cases hll : l.length = m.length
  · have hl0 : ((l.length : Int) != (m.length : Int)) = false := by rw [hll]; simp
    have HLL := Lib.hid hll
    clear hll
    go_wp2_with (fail)
    go_loopw [5] (fun i wr => ∃ k : Nat, k ≤ l.length ∧ i = .int .i64 (k : Int) ∧ Hid (Below w.heap.size w wr) ∧ Hid (l.take k = m.take k)) (fun i _ => l.length - (intOf i).toNat)
    case atStart => exact ⟨0, Nat.zero_le _, rfl, HKw, Lib.hid rfl⟩
    case round =>
      obtain ⟨k, hk, rfl, HKwr, hun⟩ := hrel
      have hki : ((k : Nat) : Int).toNat = k := by omega
      by_cases hlt : k < l.length
      · obtain ⟨x, hx⟩ : ∃ x, l[k]? = some x := ⟨_, List.getElem?_eq_getElem hlt⟩
        obtain ⟨y, hy⟩ : ∃ y, m[k]? = some y := ⟨_, List.getElem?_eq_getElem (by have := HLL.out; omega)⟩
        have hki2 : (k : Int) < (l.length : Int) := by omega
        have hki3 : (k : Int) < (m.length : Int) := by have := HLL.out; omega
        obtain ⟨pb, po, pe, -, -⟩ := (H1.out wr HKwr.out).at_ hx
        have pr := H1.out wr HKwr.out
        rw [pe] at pr
        obtain ⟨y0, y1, y2⟩ := bn_at pr hx
        obtain ⟨qb, qo, qe, -, -⟩ := (H2.out wr HKwr.out).at_ hy
        have qr := H2.out wr HKwr.out
        rw [qe] at qr
        obtain ⟨u0, u1, u2⟩ := bn_at qr hy
        have HS := Lib.hid (fun (X : World) (hX : Below wr.heap.size wr X) => (by
          have hk2 := below_join HKwr.out hX HKwr.out.size
          have r1 := H1.out X hk2
          rw [pe] at r1
          have r2 := H2.out X hk2
          rw [qe] at r2
          obtain ⟨q0, q1, q2⟩ := bn_at r1 hx
          exact ⟨q0, q1, q2, bn_at r2 hy⟩ : X.cell? ⟨pb, po + k * 3, none⟩ = some (.int .u8 (x.kind : Int)) ∧ X.cell? ⟨pb, po + k * 3 + 1, none⟩ = some (.int .i64 x.a) ∧ X.cell? ⟨pb, po + k * 3 + 2, none⟩ = some (.int .i64 x.b) ∧ X.cell? ⟨qb, qo + k * 3, none⟩ = some (.int .u8 (y.kind : Int)) ∧ X.cell? ⟨qb, qo + k * 3 + 1, none⟩ = some (.int .i64 y.a) ∧ X.cell? ⟨qb, qo + k * 3 + 2, none⟩ = some (.int .i64 y.b)))
        have HXX := Lib.hid hx
        have HYY := Lib.hid hy
        have HKbwr := Lib.hid (Below.refl wr.heap.size wr)
        obtain ⟨b, hb⟩ : ∃ b, decide (x = y) = b := ⟨_, rfl⟩
        have hbq : (((x.kind : Int) == (y.kind : Int)) && ((x.a == y.a) && (x.b == y.b))) = b := by rw [bn_beq]; exact hb
        have HBQ := Lib.hid hb
        have heq2 : ∀ W2 : World, (binOp .neq 44 (.agg #[.int .u8 (x.kind : Int), .int .i64 x.a, .int .i64 x.b]) (.agg #[.int .u8 (y.kind : Int), .int .i64 y.a, .int .i64 y.b])).run Tryz.prog W2 = .ok (.bool (!b)) W2 := fun W2 => by rw [heq, hbq]
        rw [pe, qe]
        clear hx hy pr qr hb hbq heq
        rcases b with _ | _
        · have HT := Lib.hid (show false = r by
            rw [← HRR.out]; symm
            refine decide_eq_false fun hm => ?_
            subst hm
            have e := HXX.out
            rw [HYY.out] at e
            injection e with e
            exact of_decide_eq_false HBQ.out e.symm)
          simp only [Bool.not_false] at heq2
          go_wp2_with (fail)
          clear y0 y1 y2 u0 u1 u2
          go_region_held3 (fun X => X.cell? ⟨pb, po + k * 3, none⟩ = some (.int .u8 (x.kind : Int)) ∧ X.cell? ⟨pb, po + k * 3 + 1, none⟩ = some (.int .i64 x.a) ∧ X.cell? ⟨pb, po + k * 3 + 2, none⟩ = some (.int .i64 x.b) ∧ X.cell? ⟨qb, qo + k * 3, none⟩ = some (.int .u8 (y.kind : Int)) ∧ X.cell? ⟨qb, qo + k * 3 + 1, none⟩ = some (.int .i64 y.a) ∧ X.cell? ⟨qb, qo + k * 3 + 2, none⟩ = some (.int .i64 y.b))
            (first | exact HS.out wr HKbwr.out | fail)
            (first
              | fail)
          go_wp2_with (fail)
          go_ret
          exact ⟨by rw [HT.out]; rfl, HKwr.out.drew⟩
        · have HUN := Lib.hid (show l.take (k + 1) = m.take (k + 1) by
            rw [List.take_add_one, List.take_add_one, hun.out, HXX.out, HYY.out, of_decide_eq_true HBQ.out])
          simp only [Bool.not_true] at heq2
          go_wp2_with (fail)
          clear y0 y1 y2 u0 u1 u2
          go_region_held3 (fun X => X.cell? ⟨pb, po + k * 3, none⟩ = some (.int .u8 (x.kind : Int)) ∧ X.cell? ⟨pb, po + k * 3 + 1, none⟩ = some (.int .i64 x.a) ∧ X.cell? ⟨pb, po + k * 3 + 2, none⟩ = some (.int .i64 x.b) ∧ X.cell? ⟨qb, qo + k * 3, none⟩ = some (.int .u8 (y.kind : Int)) ∧ X.cell? ⟨qb, qo + k * 3 + 1, none⟩ = some (.int .i64 y.a) ∧ X.cell? ⟨qb, qo + k * 3 + 2, none⟩ = some (.int .i64 y.b))
            (first | exact HS.out wr HKbwr.out | fail)
            (first
              | fail)
          go_wp2_with (fail)
          go_roundw
          case rel => exact ⟨k + 1, by omega, by go_num, Lib.hid HKwr.out.drew, HUN⟩
          case measure => simp only [intOf]; omega
      · obtain rfl : k = l.length := by omega
        have HT := Lib.hid (show true = r by
          rw [← HRR.out]; symm
          refine decide_eq_true ?_
          have := hun.out
          rw [List.take_length, HLL.out, List.take_length] at this
          exact this)
        go_wp2_with (fail)
        go_ret
        exact ⟨by rw [HT.out]; rfl, HKwr.out⟩
  · have hl0 : ((l.length : Int) != (m.length : Int)) = true := by rw [bne_iff_ne]; omega
    have HT := Lib.hid (show false = r by
      rw [← HRR.out]; symm
      exact decide_eq_false fun e => hll (by rw [e]))
    clear hll
    go_wp2_with (fail)
    go_ret
    exact ⟨by rw [HT.out]; rfl, HKw.out⟩
/-- A list that a function has made itself, while it is made. -/
structure Ow (B : Nat) (v : Value) (l : List Bn) (X : World) : Prop where
  row : X.ownsRow B 44 3 v l.length (cellsV 3 bnF l)
  le : B ≤ X.heap.size
theorem Ow.on {B C : Nat} {v : Value} {l : List Bn} {X Y : World} (h : Ow B v l X) (hb : Below C X Y) (hC : X.heap.size ≤ C) : Ow B v l Y := ⟨own_on h.row hb hC, Nat.le_trans h.le hb.size⟩
/-- What an append to it leaves: all but its own block. -/
def AddFr (v v' : Value) (X Y : World) : Prop := (∀ (k : Nat) (o : Obj), v.ownBlock ≠ some k → X.heap[k]? = some o → Y.heap[k]? = some o) ∧ (v'.ownBlock = v.ownBlock ∨ ∃ b, v'.ownBlock = some b ∧ X.heap.size ≤ b)
/-- A block that is not the list's. -/
def Lv (v : Value) (X : World) (m : Nat) (o : Obj) : Prop := X.heap[m]? = some o ∧ v.ownBlock ≠ some m
theorem Lv.on {v : Value} {X Y : World} {m C : Nat} {o : Obj} (h : Lv v X m o) (hb : Below C X Y) (hC : X.heap.size ≤ C) : Lv v Y m o := ⟨box_on h.1 hb hC, h.2⟩
theorem Lv.add {v v' : Value} {X Y : World} {m : Nat} {o : Obj} (h : Lv v X m o) (k : AddFr v v' X Y) : Lv v' Y m o := by
  refine ⟨k.1 m o h.2 h.1, fun e => ?_⟩
  rcases k.2 with h4 | ⟨b, h4, h5⟩
  · exact h.2 (h4 ▸ e)
  · rw [h4] at e
    injection e with e
    have := at_lt h.1
    omega
theorem Ow.new {B : Nat} {v : Value} {l : List Bn} {X Y : World} {m : Nat} {o : Obj} (h : Ow B v l X) (hm : X.heap.size ≤ m) (ho : Y.heap[m]? = some o) : Lv v Y m o :=
  ⟨ho, fun e => by have := (ownsRow_lt h.row e).2; omega⟩
end Go.Proofs.YtbbadnlaelgmlaaGreat
