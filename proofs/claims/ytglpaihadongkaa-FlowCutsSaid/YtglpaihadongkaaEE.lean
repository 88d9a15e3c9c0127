/-
  DERIVED. The reference's greatest (stage 5; written by gen/flow_EE.py).
-/
import Derived.Test.YtglpaihadongkaaYECm
import Derived.BigQuiet
set_option linter.unusedVariables false
set_option linter.unusedSimpArgs false
namespace Go.Proofs.Ytglpaihadongkaa
open Go.RowKit Go.Shelf
set_option maxRecDepth 100000
set_option linter.unusedSimpArgs false
set_option linter.unusedVariables false

/-- Numbers in a block of their own. -/
def NumAt (w : World) (g : Nat) (l : List Int) : Prop := w.heap[g]? = some (.cells (ints l).toArray 3 (0, 0))
section
variable {X Y : World} {g : Nat} {l : List Int}
theorem NumAt.on {B : Nat} (h : NumAt X g l) (hb : Below B X Y) (hB : X.heap.size ≤ B) : NumAt Y g l := (hb.block _ (Nat.lt_of_lt_of_le (at_lt h) hB)).trans h
theorem NumAt.cell (h : NumAt X g l) {j : Nat} {x : Int} (hj : l[j]? = some x) : X.cell? ⟨g, j, none⟩ = some (.int .i64 x) := cell_of h (by simp [ints, hj])
theorem NumAt.frz (h : NumAt X g l) (o : Nat) : X.frozen? ⟨g, o, none⟩ = false := by simp [World.frozen?, show X.heap[g]? = _ from h]
theorem NumAt.set (h : NumAt X g l) (j : Nat) (x : Int) : NumAt (X.setCell ⟨g, j, none⟩ (.int .i64 x)) g (l.set j x) := by
  have := row_set3 (i := j) h (.int .i64 x)
  unfold NumAt
  rw [this]
  simp [ints, List.map_set]
theorem NumAt.sl (h : NumAt X g l) (hm : l.length ≤ maxLen) : IntSl X (.slice (some ⟨g, 0, none⟩) l.length l.length) l :=
  ⟨some ⟨g, 0, none⟩, l.length, rfl, Nat.le_refl _, hm, fun e => by (cases e), fun _ => ⟨g, 0, rfl, at_lt h, fun j x hj => by rw [Nat.zero_add]; exact h.cell hj⟩⟩
end
theorem own_block1 {w : World} {base n g : Nat} {T : TypeId} {xs : List Value} (h : w.ownsRow base T 1 (.slice (some ⟨g, 0, none⟩) n n) n xs) : w.heap[g]? = some (.cells xs.toArray T (0, 0)) := by
  obtain ⟨k1, ⟨e, -⟩ | ⟨g', cap', cur, e, k3, k4, k5, k6, k7, k8⟩⟩ := h
  · cases e
  · injection e with e1 _ e2
    injection e1 with e1
    injection e1 with e1
    subst e1 e2
    rw [k4]
    have hl : cur.toList = xs := by rw [← k8, List.take_of_length_le (by simp [k7])]
    rw [← hl]
theorem xsOf_none (L : List (Int × Int × Int)) : xsOf (arsOf L) = List.replicate L.length 0 := by
  unfold xsOf arsOf
  rw [List.map_map]
  exact List.eq_replicate_iff.2 ⟨by simp, fun x hx => by obtain ⟨y, -, rfl⟩ := List.mem_map.1 hx; rfl⟩
/-- A flow under way. -/
structure GrI (N s t : Nat) (ar : List (Int × Int × Int)) (l : List Ar) (gk : Nat) : Prop where
  flow : IsFlow N l s t
  ends_ : ends l = ends (arsOf ar)
  rest : gain l s + (gk : Int) = 100000000 * (ar.length : Int)
theorem GrI.start {N s t : Nat} {ar : List (Int × Int × Int)} (hok : ntOk (N : Int) ar = true) : GrI N s t ar (arsOf ar) (100000000 * ar.length) := by
  have hn := arsOf_nodes (ntOk_iff.1 hok).2.2.2
  obtain ⟨h1, h2⟩ := IsFlow.none (N := N) (s := s) (t := t) (l := arsOf ar) (fun a ha => ⟨(hn a ha).1, (hn a ha).2.1⟩) (fun a ha => ⟨(hn a ha).2.2.2.2, (hn a ha).2.2.2.1⟩)
  exact ⟨h1, rfl, by rw [h2]; omega⟩
theorem GrI.next {N s t : Nat} {ar : List (Int × Int × Int)} {l : List Ar} {gk : Nat} {ms : List Nat} {d : Int} (h : GrI N s t ar l gk) (hok : ntOk (N : Int) ar = true) (hs : s < N) (hst : s ≠ t) (hd : 0 < d) (hc : Chain l s t ms) (hr : ∀ m ∈ ms, d ≤ mvRoom l m) (hn : (ms.map (· / 2)).Nodup) : GrI N s t ar (sends l ms d) (gk - d.toNat) ∧ gk - d.toNat < gk := by
  obtain ⟨h1, h2, h3⟩ := h.flow.along hst (by omega) hc hr hn
  have hn2 := arsOf_nodes (ntOk_iff.1 hok).2.2.2
  have he := h3.trans h.ends_
  have hll : (sends l ms d).length = ar.length := by
    have := congrArg List.length he
    rw [ends_len0, ends_len0, arsOf_len] at this
    exact this
  have hb := value_bound (M := 100000000) h1 hs hst (fun a ha => by
    obtain ⟨j, hj⟩ := List.getElem?_of_mem ha
    obtain ⟨b, hb, e1, e2, e3⟩ := ends_get he hj
    have := (hn2 b (List.mem_of_getElem? hb)).2.2.1
    omega) (by omega)
  rw [hll] at hb
  have hre := h.rest
  exact ⟨⟨h1, he, by rw [h2]; omega⟩, by omega⟩
/-- A step of the way back, as the walk wants it. -/
theorem GrI.step {N s t v : Nat} {ar : List (Int × Int × Int)} {l : List Ar} {gk m : Nat} {rest : List Nat} {B : List Stp} (h : GrI N s t ar l gk) (hok : ntOk (N : Int) ar = true) (hB : B.length = N) (hp : PathTo l B s v (m :: rest)) :
    v ≠ s ∧ v < N ∧ ∃ (i u : Nat) (b : Bool) (a : Ar) (p : Int × Int × Int), B[v]? = some ⟨(i : Int), (u : Int), b, true⟩ ∧ m = mvOf i b ∧ i < ar.length ∧ ar[i]? = some p ∧ l[i]? = some a ∧ p = ((a.u : Int), (a.v : Int), a.cap) ∧ 0 ≤ a.x ∧ a.x ≤ a.cap ∧ a.cap ≤ 100000000 ∧ 0 < mvRoom l m ∧ mvRoom l m = (if b = true then a.x else a.cap - a.x) ∧ PathTo l B s u rest := by
  obtain ⟨h0, i, u, b, h1, h2, h3, h4, h5, h6⟩ := hp
  have hll : l.length = ar.length := by
    have := congrArg List.length h.ends_
    rw [ends_len0, ends_len0, arsOf_len] at this
    exact this
  have hvN : v < N := by have := (List.getElem?_eq_some_iff.1 h1).1; omega
  have hi : i < ar.length := by omega
  obtain ⟨p, hpp⟩ : ∃ p, ar[i]? = some p := ⟨_, List.getElem?_eq_getElem hi⟩
  obtain ⟨a, ha, e, -, -, -, -, hc⟩ := arc_is hok h.ends_ hpp
  obtain ⟨x0, x1⟩ := h.flow.fits a (List.mem_of_getElem? ha)
  exact ⟨h0, hvN, i, u, b, a, p, h1, h2, hi, hpp, ha, e, x0, x1, hc, h5, by rw [h2]; exact mvRoom_cases ha, h6⟩
theorem room_step {l : List Ar} {pre : List Nat} {m : Nat} {rm d : Int} (h : 0 < rm ∧ rm ≤ 100000000 ∧ ∀ k ∈ pre, rm ≤ mvRoom l k) (hd : 0 < d) (h1 : d ≤ rm) (h2 : d ≤ mvRoom l m) : 0 < d ∧ d ≤ 100000000 ∧ ∀ k ∈ pre ++ [m], d ≤ mvRoom l k := by
  refine ⟨hd, by omega, fun k hk => ?_⟩
  rcases List.mem_append.1 hk with h3 | h3
  · have := h.2.2 k h3; omega
  · rw [List.mem_singleton] at h3; subst h3; exact h2
/-- What the reference's greatest answers. -/
def RgPost (N s t : Nat) (ar : List (Int × Int × Int)) (w : World) (e : Ending) (w' : World) : Prop :=
  ∃ (l : List Ar) (v : Value), e = .returned v ∧ Best N s t ar l (gain l s) ∧ IntSl w' v (xsOf l) ∧ Below w.heap.size w w'
set_option maxHeartbeats 64000000 in
theorem d_greatest (N s t : Nat) (L : Value) (ar : List (Int × Int × Int)) (hs : s < N) (ht : t < N) (hst : s ≠ t) (w : World) (hL : PtSl w L ar) (hok : ntOk (N : Int) ar = true) :
    Calls Try.prog 37 #[ntV (N : Int) L, .int .i64 (s : Int), .int .i64 (t : Int)] w (RgPost N s t ar w) := by
  obtain ⟨A, c, rfl, hc1, hc2⟩ := hL.shape
  have hN64 := (ntOk_iff.1 hok).2.1
  have hl128 := (ntOk_iff.1 hok).2.2.1
  unfold maxLen at hc2
  obtain ⟨W, hW⟩ : ∃ W, W = w.alloc (.cells #[.int .i64 (N : Int), .slice A ar.length c] 24) := ⟨_, rfl⟩
  have B0 : Below w.heap.size w W := by subst hW; exact (Below.refl _ _).alloc (Nat.le_refl _) _
  have HB0 := Lib.hid B0
  have HX := Lib.hid (show W.heap[w.heap.size]? = some (.cells #[.int .i64 (N : Int), .slice A ar.length c] 24 (0, 0)) by subst hW; exact heap_alloc_new _ _)
  have HF := Lib.hid (fun (X : World) (hX : Below W.heap.size W X) => (⟨⟨cell_of ((hX.block _ (at_lt HX.out)).trans HX.out) rfl, cell_of ((hX.block _ (at_lt HX.out)).trans HX.out) rfl⟩, (hL.on B0 (Nat.le_refl _)).on hX (Nat.le_refl _)⟩ : (X.cell? ⟨w.heap.size, 0, none⟩ = some (.int .i64 (N : Int)) ∧ X.cell? ⟨w.heap.size, 1, none⟩ = some (.slice A ar.length c)) ∧ PtSl X (.slice A ar.length c) ar))
  have HOK := Lib.hid hok
  have HST := Lib.hid (And.intro hs (And.intro ht hst))
  have HRE := Lib.hid (fun (l : List Ar) (v : Value) (X : World) (hX : PtSl X (.slice A ar.length c) ar) (hF : IntSl X v (xsOf l)) (he : ends l = ends (arsOf ar)) (hx : ∀ a ∈ l, 0 ≤ a.x ∧ a.x ≤ a.cap) => c_reached N s (.slice A ar.length c) ar l v hs X hX hF hok he hx)
  unfold ntV at HRE ⊢
  clear B0 hL hok hst
  obtain ⟨⟨x0, x1⟩, -⟩ := HF.out W (Below.refl _ _)
  have hWs : w.heap.size < W.heap.size := by rw [hW]; simp
  obtain ⟨i0, hi0, hzz0, hzz1, hzz2⟩ := info_parts int_info
  rw [hW] at x0 x1
  go_enter Try.func37, Try.ntmps37
  go_wp2_with (at_make; rw [← hW]; refine wpList_make_full (P := Try.prog) _ rfl _ _ 25 rfl W.heap.size 3 i0 (.int .i64 0) 1 Try.underlying25 hi0 hzz0 hzz1 .i64 .i64 _ _ ar.length rfl rfl rfl rfl (by rw [hzz2]; omega) (by unfold maxLen; omega) (Nat.le_refl _) ?_; intro w1 ho1 hg1; have HO1 := Lib.hid (own_block1 ho1); have HBE1 := Lib.hid ((Below.refl W.heap.size W).grown hg1 (Nat.le_refl _) (fun k hk => by cases hk)); clear ho1 hg1; rw [show (Value.int .i64 0).cells = #[.int .i64 0] from rfl, Nat.mul_one, toList_madeCells_one] at HO1; have HS1 := Lib.hid (show NumAt w1 W.heap.size (xsOf (arsOf ar)) by rw [xsOf_none]; unfold NumAt; rw [HO1.out]; simp [ints]); obtain ⟨g, hg⟩ : ∃ g, g = W.heap.size := ⟨_, rfl⟩; rw [← hg] at HS1 ⊢; have hgW : W.heap.size ≤ g := (by omega); have hgl : g < w1.heap.size := at_lt HS1.out; clear hg HO1)
  clear x0 x1 hW
  go_loopg [] (100000000 * ar.length) (fun gk wr => ∃ (l : List Ar), Hid (GrI N s t ar l gk) ∧ Hid (NumAt wr g (xsOf l)) ∧ Hid (Below W.heap.size W wr))
  case atStart => exact ⟨arsOf ar, Lib.hid (GrI.start HOK.out), HS1, HBE1⟩
  case round =>
    obtain ⟨l, hI, hS, hB⟩ := hrel
    obtain ⟨wa, hwa⟩ : ∃ z, z = wr := ⟨_, rfl⟩
    subst hwa
    obtain ⟨⟨x0, x1⟩, pt⟩ := HF.out wa hB.out
    have hxl : (xsOf l).length = ar.length := by
      have := congrArg List.length hI.out.ends_
      rw [ends_len0, ends_len0, arsOf_len] at this
      unfold xsOf
      rw [List.length_map]
      exact this
    have HFL := Lib.hid (show IntSl wa (.slice (some ⟨g, 0, none⟩) ar.length ar.length) (xsOf l) by have h := hS.out.sl (by rw [hxl]; unfold maxLen; omega); rwa [hxl] at h)
    have HRC := Lib.hid (HRE.out l _ wa pt HFL.out hI.out.ends_ hI.out.flow.fits)
    have HXL := Lib.hid hxl
    clear pt hxl
    go_wp2_with (fail)
    clear x0 x1
    go_at_call 39
    refine HRC.out.mono ?_
    rintro e wb ⟨gb, B, seen, rfl, hSB, hgb, hR, hC, hBb⟩
    have HSB := Lib.hid hSB
    have HR := Lib.hid hR
    have HCL := Lib.hid hC
    have HB2 := Lib.hid (below_join hB.out hBb hB.out.size)
    have HS2 := Lib.hid (hS.out.on hBb (Nat.le_refl _))
    have hgga : g < wa.heap.size := at_lt hS.out
    have hggb : g < gb := by omega
    obtain ⟨bt, hbt⟩ : ∃ x, B[t]? = some x := ⟨_, List.getElem?_eq_getElem (by rw [hR.len]; exact ht)⟩
    obtain ⟨-, -, -, ct⟩ := HSB.out.cells hbt
    have HIT := Lib.hid (hR.is_ t bt hbt)
    have htc : (t : Int) < (N : Int) := by omega
    have hti : ((t : Nat) : Int).toNat = t := by omega
    clear hSB hR hC hBb hbt
    rcases hbi : bt.is with _ | _
    · have HE := Lib.hid (show RgPost N s t ar w (.returned (.slice (some ⟨g, 0, none⟩) ar.length ar.length)) wb from
        ⟨l, _, rfl, ⟨hI.out.flow, hI.out.ends_, rfl, fun h => by
          have h2 := HIT.out.2 ((HR.out.done HCL.out t).1 h)
          rw [hbi] at h2
          cases h2⟩, by have h := HS2.out.sl (by rw [HXL.out]; unfold maxLen; omega); rwa [HXL.out] at h, below_join HB0.out HB2.out HB0.out.size⟩)
      rw [hbi] at ct
      clear hbi
      go_wp2_with (fail)
      go_ret
      exact HE.out
    · obtain ⟨ms, hch, hpath, hroom, hnd⟩ := HR.out.path (HIT.out.1 hbi)
      have HCH := Lib.hid hch
      have HPA := Lib.hid hpath
      have HRO := Lib.hid hroom
      have HND := Lib.hid hnd
      rw [hbi] at ct
      clear hch hpath hroom hnd hbi
      go_wp2_with (fail)
      clear ct
      obtain ⟨gk0, hgk0⟩ : ∃ z, z = gk := ⟨_, rfl⟩
      subst hgk0
      go_loopg [9, 10] ms.length (fun gk r vv wr => ∃ (pre rest : List Nat) (v : Nat) (rm : Int), rest.length = gk ∧ r = .int .i64 rm ∧ vv = .int .i64 (v : Int) ∧ Hid (pre ++ rest = ms) ∧ Hid (PathTo l B s v rest) ∧ Hid (0 < rm ∧ rm ≤ 100000000 ∧ ∀ m ∈ pre, rm ≤ mvRoom l m) ∧ Hid (NumAt wr g (xsOf l)) ∧ Hid (StpAt wr gb B) ∧ Hid (Below W.heap.size W wr))
      case atStart => exact ⟨[], ms, t, 100000000, rfl, rfl, rfl, Lib.hid rfl, HPA, Lib.hid ⟨by omega, by omega, fun m hm => by cases hm⟩, HS2, HSB, HB2⟩
      case round =>
        obtain ⟨pre, rest, v, rm, hrl, rfl, rfl, hpr, hpa, hrm, hS3, hT3, hB3⟩ := hrel
        obtain ⟨wc, hwc⟩ : ∃ z, z = wr := ⟨_, rfl⟩
        subst hwc
        rcases rest with _ | ⟨m, rest⟩
        · have hvs : s = v := hpa.out.symm
          subst hvs
          have HRM := Lib.hid (show 0 < rm ∧ rm ≤ 100000000 ∧ ∀ m ∈ ms, rm ≤ mvRoom l m from ⟨hrm.out.1, hrm.out.2.1, fun m hm => hrm.out.2.2 m (by have h := hpr.out; rw [List.append_nil] at h; rw [h]; exact hm)⟩)
          clear hrl hpr hpa hrm
          have hnn : ((s : Int) == (s : Int)) = true := by simp
          go_wp2_with (fail)
          clear hnn

          obtain ⟨gk1, hgk1⟩ : ∃ z, z = gk := ⟨_, rfl⟩
          subst hgk1
          go_loopg [12] ms.length (fun gk vv wr => ∃ (pre rest : List Nat) (v : Nat), rest.length = gk ∧ vv = .int .i64 (v : Int) ∧ Hid (pre ++ rest = ms) ∧ Hid (PathTo l B s v rest) ∧ Hid (NumAt wr g (xsOf (sends l pre rm))) ∧ Hid (StpAt wr gb B) ∧ Hid (Below W.heap.size W wr))
          case atStart => exact ⟨[], ms, t, rfl, rfl, Lib.hid rfl, HPA, hS3, hT3, hB3⟩
          case round =>
            obtain ⟨pre, rest, v, hrl, rfl, hpr, hpa, hS4, hT4, hB4⟩ := hrel
            obtain ⟨wd, hwd⟩ : ∃ z, z = wr := ⟨_, rfl⟩
            subst hwd
            rcases rest with _ | ⟨m, rest⟩
            · have hvs : s = v := hpa.out.symm
              subst hvs
              have HPE := Lib.hid (show pre = ms by have h := hpr.out; rw [List.append_nil] at h; exact h)
              have HNE := Lib.hid (hI.out.next (d := rm) HOK.out HST.out.1 HST.out.2.2 HRM.out.1 HCH.out HRM.out.2.2 HND.out)
              clear hrl hpr hpa
              have hnn : ((s : Int) == (s : Int)) = true := by simp
              go_wp2_with (fail)
              go_roundg (gk0 - rm.toNat)
              case measure => exact HNE.out.2
              case rel => exact ⟨sends l ms rm, Lib.hid HNE.out.1, by rw [HPE.out] at hS4; exact hS4, hB4⟩
            · obtain ⟨hvs, hvN, i, u, b, ⟨au, av, ac, ax⟩, pp, hBv, hm, hil, hpp, hla, hpe, hx0, hx1, hx2, hr0, hrv, hnx⟩ := hI.out.step HOK.out HR.out.len hpa.out
              have hla2 : (sends l pre rm)[i]? = some ⟨au, av, ac, ax⟩ := by
                rw [sends_other pre l i (fun k hk e => ?_)]
                · exact hla
                · have h1 := HND.out
                  rw [← hpr.out, List.map_append, List.nodup_append] at h1
                  exact h1.2.2 (k / 2) (List.mem_map.2 ⟨k, hk, rfl⟩) (m / 2) (by simp) (by rw [e, hm, mvOf_div])
              obtain ⟨c0, c1, c2, -⟩ := hT4.out.cells hBv
              have f0 : wd.cell? ⟨g, i, none⟩ = some (.int .i64 ax) := hS4.out.cell (by unfold xsOf; rw [List.getElem?_map, hla2]; rfl)
              have e0 := hS4.out.frz i
              have hnn : ((v : Int) == (s : Int)) = false := by rw [beq_eq_false_iff_ne]; omega
              have hvc : (v : Int) < (N : Int) := by omega
              have hvi : ((v : Nat) : Int).toNat = v := by omega
              have hic : (i : Int) < (ar.length : Int) := by omega
              have hii : ((i : Nat) : Int).toNat = i := by omega
              have hw1 : ¬ g = gb := by omega
              have hw2 : ¬ gb = g := by omega
              simp only at hx0 hx1 hx2 hrv
              have hrm2 := HRM.out.2.2 m (by rw [← hpr.out]; simp)
              have HNX := Lib.hid hnx
              have HPR := Lib.hid (show (pre ++ [m]) ++ rest = ms by rw [List.append_assoc]; exact hpr.out)
              have HRL := Lib.hid (show rest.length = gk - 1 ∧ gk - 1 < gk by rw [List.length_cons] at hrl; omega)
              have HX := Lib.hid (And.intro hx0 (And.intro hx1 hx2))
              have HXS := Lib.hid (show xsOf (sends l (pre ++ [m]) rm) = (xsOf (sends l pre rm)).set i (ax + (if b = true then -rm else rm)) by rw [sends_snoc, hm]; exact xsOf_send hla2)
              clear hBv hnx hpr hpa hrl hm hr0 hla hla2 hvs hpp hpe
              cases b
              · have hwr : IntKind.i64.wrap (ax + rm) = ax + rm := by rw [if_neg (by decide)] at hrv; have := HRM.out.2.1; have := HRM.out.1; simp [IntKind.wrap, IntKind.bits, IntKind.signed]; omega
                have HXS2 := Lib.hid (show xsOf (sends l (pre ++ [m]) rm) = (xsOf (sends l pre rm)).set i (ax + rm) from HXS.out)
                clear hrv hrm2
                go_wp2_with (fail)
                obtain ⟨we, hwe⟩ : ∃ Z, Z = wd.setCell ⟨g, i, none⟩ (.int .i64 (ax + rm)) := ⟨_, rfl⟩
                have HS5 := Lib.hid (show NumAt we g (xsOf (sends l (pre ++ [m]) rm)) by rw [hwe, HXS2.out]; exact hS4.out.set i _)
                have HT5 := Lib.hid (show StpAt we gb B by rw [hwe]; exact (Below.heap_setCell _ ⟨g, i, none⟩ _ gb hw2).trans hT4.out)
                have HB5 := Lib.hid (show Below W.heap.size W we by rw [hwe]; exact hB4.out.setCell (p := ⟨g, i, none⟩) hgW _)
                rw [← hwe]
                go_roundg (gk - 1)
                case measure => exact HRL.out.2
                case rel => exact ⟨pre ++ [m], rest, u, HRL.out.1, rfl, HPR, HNX, HS5, HT5, HB5⟩
              · have hwr : IntKind.i64.wrap (ax - rm) = ax - rm := by rw [if_pos rfl] at hrv; have := HRM.out.2.1; have := HRM.out.1; simp [IntKind.wrap, IntKind.bits, IntKind.signed]; omega
                have HXS2 := Lib.hid (show xsOf (sends l (pre ++ [m]) rm) = (xsOf (sends l pre rm)).set i (ax - rm) from HXS.out)
                clear hrv hrm2
                go_wp2_with (fail)
                obtain ⟨we, hwe⟩ : ∃ Z, Z = wd.setCell ⟨g, i, none⟩ (.int .i64 (ax - rm)) := ⟨_, rfl⟩
                have HS5 := Lib.hid (show NumAt we g (xsOf (sends l (pre ++ [m]) rm)) by rw [hwe, HXS2.out]; exact hS4.out.set i _)
                have HT5 := Lib.hid (show StpAt we gb B by rw [hwe]; exact (Below.heap_setCell _ ⟨g, i, none⟩ _ gb hw2).trans hT4.out)
                have HB5 := Lib.hid (show Below W.heap.size W we by rw [hwe]; exact hB4.out.setCell (p := ⟨g, i, none⟩) hgW _)
                rw [← hwe]
                go_roundg (gk - 1)
                case measure => exact HRL.out.2
                case rel => exact ⟨pre ++ [m], rest, u, HRL.out.1, rfl, HPR, HNX, HS5, HT5, HB5⟩
        · obtain ⟨hvs, hvN, i, u, b, ⟨au, av, ac, ax⟩, pp, hBv, hm, hil, hpp, hla, hpe, hx0, hx1, hx2, hr0, hrv, hnx⟩ := hI.out.step HOK.out HR.out.len hpa.out
          obtain ⟨c0, c1, c2, -⟩ := hT3.out.cells hBv
          have f0 : wc.cell? ⟨g, i, none⟩ = some (.int .i64 ax) := hS3.out.cell (by unfold xsOf; rw [List.getElem?_map, hla]; rfl)
          have hnn : ((v : Int) == (s : Int)) = false := by rw [beq_eq_false_iff_ne]; omega
          have hvc : (v : Int) < (N : Int) := by omega
          have hvi : ((v : Nat) : Int).toNat = v := by omega
          have hic : (i : Int) < (ar.length : Int) := by omega
          have hii : ((i : Nat) : Int).toNat = i := by omega
          simp only at hx0 hx1 hx2 hrv
          have HNX := Lib.hid hnx
          have HPR := Lib.hid (show (pre ++ [m]) ++ rest = ms by rw [List.append_assoc]; exact hpr.out)
          have HRL := Lib.hid (show rest.length = gk - 1 ∧ gk - 1 < gk by rw [List.length_cons] at hrl; omega)
          have HX := Lib.hid (And.intro hx0 (And.intro hx1 hx2))
          have HRV := Lib.hid (And.intro hr0 hrv)
          have HM := Lib.hid hm
          clear hBv hnx hpr hpa hrl hm hr0 hrv hla hvs
          cases b
          · obtain ⟨⟨x0, x1⟩, pt⟩ := HF.out wc hB3.out
            obtain ⟨rb, ro, rc, e, hrb, -, -, z0, z1, z2⟩ := pt.at_ hpp
            injection e with e1 hle e2
            clear hle
            subst hpe e1 e2
            simp only at z0 z1 z2
            have hwr : IntKind.i64.wrap (ac - ax) = ac - ax := by simp [IntKind.wrap, IntKind.bits, IntKind.signed]; omega
            clear pt hpp
            have HRW := Lib.hid (show mvRoom l m = ac - ax by have h := HRV.out.2; rw [if_neg (by decide)] at h; exact h)
            rcases Int.lt_or_le (ac - ax) rm with hcm | hcm

            · have HRN := Lib.hid (room_step (m := m) hrm.out (d := ac - ax) (by have h := HRV.out.1; rw [HRW.out] at h; exact h) (by omega) (by rw [HRW.out]; omega))
              go_wp2_with (fail)
              go_quiet (fail)
              obtain ⟨wd, hwd⟩ : ∃ Z, Z = wc.drewN nq := ⟨_, rfl⟩
              have HS4 := Lib.hid (show NumAt wd g (xsOf l) by rw [hwd]; exact hS3.out)
              have HT4 := Lib.hid (show StpAt wd gb B by rw [hwd]; exact hT3.out)
              have HB4 := Lib.hid (show Below W.heap.size W wd by rw [hwd]; exact below_drewN hB3.out)
              have c1' : wd.cell? ⟨gb, v * 4 + 1, none⟩ = some (.int .i64 (u : Int)) := by rw [hwd]; exact c1
              rw [← hwd]
              clear hwd c0 c1 c2 f0 x0 x1 z0 z1 z2
              go_wp2_with (fail)
              go_roundg (gk - 1)
              case measure => exact HRL.out.2
              case rel => exact ⟨pre ++ [m], rest, u, ac - ax, HRL.out.1, rfl, rfl, HPR, HNX, HRN, HS4, HT4, HB4⟩
            · have HRN := Lib.hid (room_step (m := m) hrm.out (d := rm) hrm.out.1 (by omega) (by rw [HRW.out]; omega))
              go_wp2_with (fail)
              go_quiet (fail)
              obtain ⟨wd, hwd⟩ : ∃ Z, Z = wc.drewN nq := ⟨_, rfl⟩
              have HS4 := Lib.hid (show NumAt wd g (xsOf l) by rw [hwd]; exact hS3.out)
              have HT4 := Lib.hid (show StpAt wd gb B by rw [hwd]; exact hT3.out)
              have HB4 := Lib.hid (show Below W.heap.size W wd by rw [hwd]; exact below_drewN hB3.out)
              have c1' : wd.cell? ⟨gb, v * 4 + 1, none⟩ = some (.int .i64 (u : Int)) := by rw [hwd]; exact c1
              rw [← hwd]
              clear hwd c0 c1 c2 f0 x0 x1 z0 z1 z2
              go_wp2_with (fail)
              go_roundg (gk - 1)
              case measure => exact HRL.out.2
              case rel => exact ⟨pre ++ [m], rest, u, rm, HRL.out.1, rfl, rfl, HPR, HNX, HRN, HS4, HT4, HB4⟩
          · clear hpp hpe
            rcases Int.lt_or_le ax rm with hcm | hcm
            · have HRN := Lib.hid (room_step (m := m) hrm.out (d := ax) (by have h := HRV.out; rw [if_pos rfl] at h; omega) (by omega) (by have h := HRV.out; rw [if_pos rfl] at h; omega))
              go_wp2_with (fail)
              go_roundg (gk - 1)
              case measure => exact HRL.out.2
              case rel => exact ⟨pre ++ [m], rest, u, ax, HRL.out.1, rfl, rfl, HPR, HNX, HRN, hS3, hT3, hB3⟩
            · have HRN := Lib.hid (room_step (m := m) hrm.out (d := rm) hrm.out.1 (by omega) (by have h := HRV.out; rw [if_pos rfl] at h; omega))
              go_wp2_with (fail)
              go_roundg (gk - 1)
              case measure => exact HRL.out.2
              case rel => exact ⟨pre ++ [m], rest, u, rm, HRL.out.1, rfl, rfl, HPR, HNX, HRN, hS3, hT3, hB3⟩
end Go.Proofs.Ytglpaihadongkaa
