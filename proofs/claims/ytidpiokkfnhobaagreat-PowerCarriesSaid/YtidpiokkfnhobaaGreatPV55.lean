/-
  DERIVED. Several texts in one.
-/
import Derived.Test.YtidpiokkfnhobaaGreatPV54
import Derived.BigQuiet
import Derived.Laws.StructEq
set_option linter.unusedVariables false
set_option linter.unusedSimpArgs false

namespace Go.Proofs.YtidpiokkfnhobaaGreat.v5
open Go.RowKit Go.Shelf
set_option maxRecDepth 100000
set_option linter.unusedSimpArgs false
set_option linter.unusedVariables false

theorem ends_len0 (l : List Ar) : (ends l).length = l.length := by unfold ends; simp
/-- A search while the arcs of a node are looked at. -/
structure SrI (l : List Ar) (s N p u i : Nat) (B : List Stp) (seen : List Nat) : Prop where
  srch : Srch l s N B seen
  clo : Clo l seen p
  par : Par l seen u i
  at_ : seen[p]? = some u
section
variable {l : List Ar} {s N p u i : Nat} {B : List Stp} {seen : List Nat} {a : Ar}
theorem SrI.stay (h : SrI l s N p u i B seen) (ha : l[i]? = some a) (h1 : a.u = u → a.x < a.cap → a.v ∈ seen) (h2 : a.v = u → 0 < a.x → a.u ∈ seen) : SrI l s N p u (i + 1) B seen := ⟨h.srch, h.clo, h.par.next ha h1 h2, h.at_⟩
theorem SrI.pl (h : SrI l s N p u i B seen) : p < seen.length := (List.getElem?_eq_some_iff.1 h.at_).1
theorem SrI.go (h : SrI l s N p u i B seen) {q : Nat} {b : Bool} (ha : l[i]? = some a) (hne : a.u ≠ a.v) (hf : mvFrom l (mvOf i b) = some u) (ht : mvTo l (mvOf i b) = some q) (hr : 0 < mvRoom l (mvOf i b)) (hq : q ∉ seen) (hqN : q < N) (hb : (b = false ∧ a.u = u ∧ a.v = q) ∨ (b = true ∧ a.v = u ∧ a.u = q)) :
    SrI l s N p u (i + 1) (B.set q ⟨(i : Int), (u : Int), b, true⟩) (seen ++ [q]) := by
  have hi := (List.getElem?_eq_some_iff.1 ha).1
  have hp := h.pl
  have hin : ∀ x, x ∈ seen → x ∈ seen ++ [q] := fun x hx => List.mem_append_left _ hx
  refine ⟨h.srch.visit hi hf ht hr h.at_ hq hqN, h.clo.more (by omega) hin (fun j hj => List.getElem?_append_left hj), (h.par.more hin).next ha (fun h1 h2 => ?_) (fun h1 h2 => ?_), ?_⟩
  · rcases hb with ⟨-, b1, b2⟩ | ⟨-, b1, b2⟩
    · rw [b2]; simp
    · exact absurd (h1.trans b1.symm) hne
  · rcases hb with ⟨-, b1, b2⟩ | ⟨-, b1, b2⟩
    · exact absurd (b1.trans h1.symm) hne
    · rw [b2]; simp
  · rw [List.getElem?_append_left hp]; exact h.at_
theorem SrI.goA (h : SrI l s N p u i B seen) (ha : l[i]? = some a) (hne : a.u ≠ a.v) (h1 : a.u = u) (hq : a.v ∉ seen) (hqN : a.v < N) (hr : a.x < a.cap) : SrI l s N p u (i + 1) (B.set a.v ⟨(i : Int), (u : Int), false, true⟩) (seen ++ [a.v]) := by
  obtain ⟨g1, g2, g3⟩ := mv_along ha
  exact h.go ha hne (by rw [g1, h1]) g2 (by rw [g3]; omega) hq hqN (.inl ⟨rfl, h1, rfl⟩)
theorem SrI.goB (h : SrI l s N p u i B seen) (ha : l[i]? = some a) (hne : a.u ≠ a.v) (h1 : a.v = u) (hq : a.u ∉ seen) (hqN : a.u < N) (hr : 0 < a.x) : SrI l s N p u (i + 1) (B.set a.u ⟨(i : Int), (u : Int), true, true⟩) (seen ++ [a.u]) := by
  obtain ⟨g1, g2, g3⟩ := mv_back ha
  exact h.go ha hne (by rw [g1, h1]) g2 (by rw [g3]; exact hr) hq hqN (.inr ⟨rfl, h1, rfl⟩)
theorem SrI.done (h : SrI l s N p u l.length B seen) : Srch l s N B seen ∧ Clo l seen (p + 1) ∧ p + 1 ≤ seen.length := ⟨h.srch, h.clo.next h.at_ h.par, h.pl⟩
end
theorem drop_snoc {seen : List Nat} {p q : Nat} (h : p < seen.length) : (seen ++ [q]).drop (p + 1) = seen.drop (p + 1) ++ [q] := by
  rw [List.drop_append_of_le_length (by omega)]
/-- A net's arcs and what they carry: as numbers, and as flow. -/
theorem arc_is {N : Nat} {L : List (Int × Int × Int)} {l : List Ar} (hok : ntOk (N : Int) L = true) (he : ends l = ends (arsOf L)) {i : Nat} {p : Int × Int × Int} (hp : L[i]? = some p) : ∃ a, l[i]? = some a ∧ p = ((a.u : Int), (a.v : Int), a.cap) ∧ a.u < N ∧ a.v < N ∧ a.u ≠ a.v ∧ 0 ≤ a.cap ∧ a.cap ≤ 100000000 := by
  obtain ⟨g1, g2, g3, g4, g5⟩ := arOk_iff.1 ((ntOk_iff.1 hok).2.2.2 p (List.mem_of_getElem? hp))
  have h1 : (arsOf L)[i]? = some (arOf p) := by unfold arsOf; rw [List.getElem?_map, hp]; rfl
  obtain ⟨b, hb, e1, e2, e3⟩ := ends_get he.symm h1
  obtain ⟨x, y, c⟩ := p
  have e1' : b.u = x.toNat := e1
  have e2' : b.v = y.toNat := e2
  have e3' : b.cap = c := e3
  simp only at g1 g2 g3 g4 g5
  refine ⟨b, hb, ?_, by omega, by omega, by omega, by omega, by omega⟩
  rw [e1', e2', e3']
  congr 1
  · omega
  · congr 1; omega
/-- What reached answers. -/
def RePost (N s : Nat) (l : List Ar) (w : World) (e : Ending) (w' : World) : Prop :=
  ∃ g B seen, e = .returned (.slice (some ⟨g, 0, none⟩) N N) ∧ StpAt w' g B ∧ w.heap.size ≤ g ∧ Srch l s N B seen ∧ Clo l seen seen.length ∧ Below w.heap.size w w'
set_option maxHeartbeats 64000000 in
theorem c_reached (N s : Nat) (L : Value) (ar : List (Int × Int × Int)) (l : List Ar) (Xf : Value) (hs : s < N) (w : World) (hL : PtSl w L ar) (hF : IntSl w Xf (l.map Ar.x)) (hok : ntOk (N : Int) ar = true) (he : ends l = ends (arsOf ar)) (hx : ∀ a ∈ l, 0 ≤ a.x ∧ a.x ≤ a.cap) :
    Calls Tryz.prog 94 #[ntV (N : Int) L, .int .i64 (s : Int), Xf] w (RePost N s l w) := by
  obtain ⟨A, c, rfl, hc1, hc2⟩ := hL.shape
  obtain ⟨A2, c2, rfl, hd1, hd2⟩ := hF.shape
  have hN64 := (ntOk_iff.1 hok).2.1
  have hl128 := (ntOk_iff.1 hok).2.2.1
  have hll : l.length = ar.length := by
    have := congrArg List.length he
    rw [ends_len0, ends_len0] at this
    simpa [arsOf] using this
  unfold maxLen at hc2 hd2
  obtain ⟨W, hW⟩ : ∃ W, W = w.alloc (.cells #[.int .i64 (N : Int), .slice A ar.length c] 44) := ⟨_, rfl⟩
  have B0 : Below w.heap.size w W := by subst hW; exact (Below.refl _ _).alloc (Nat.le_refl _) _
  have HB0 := Lib.hid B0
  have HX := Lib.hid (show W.heap[w.heap.size]? = some (.cells #[.int .i64 (N : Int), .slice A ar.length c] 44 (0, 0)) by subst hW; exact heap_alloc_new _ _)
  have HLL := Lib.hid hll
  have HF := Lib.hid (fun (X : World) (hX : Below W.heap.size W X) => (⟨⟨cell_of ((hX.block _ (at_lt HX.out)).trans HX.out) rfl, cell_of ((hX.block _ (at_lt HX.out)).trans HX.out) rfl⟩, (hL.on B0 (Nat.le_refl _)).on hX (Nat.le_refl _), (hF.on B0 (Nat.le_refl _)).on hX (Nat.le_refl _)⟩ : (X.cell? ⟨w.heap.size, 0, none⟩ = some (.int .i64 (N : Int)) ∧ X.cell? ⟨w.heap.size, 1, none⟩ = some (.slice A ar.length c)) ∧ PtSl X (.slice A ar.length c) ar ∧ IntSl X (.slice A2 (l.map Ar.x).length c2) (l.map Ar.x)))
  have HAR := Lib.hid (fun (i : Nat) (p : Int × Int × Int) (hp : ar[i]? = some p) => arc_is hok he hp)
  have HXL := Lib.hid hx
  have hml : (l.map Ar.x).length = ar.length := by rw [List.length_map]; exact hll
  rw [hml] at HF hd1 ⊢
  unfold ntV
  clear B0 hL hF hok he hx hll hml
  obtain ⟨⟨x0, x1⟩, -⟩ := HF.out W (Below.refl _ _)
  have hWs : w.heap.size < W.heap.size := by rw [hW]; simp
  obtain ⟨i0, hi0, hzz0, hzz1, hzz2⟩ := info_parts step_info
  rw [hW] at x0 x1
  have hsN : (s : Int) < (N : Int) := by omega
  have hsi : ((s : Nat) : Int).toNat = s := by omega
  go_enter Tryz.func94, Tryz.ntmps94
  go_wp2_with (at_make; rw [← hW]; refine wpList_make_full (P := Tryz.prog) _ rfl _ _ 133 rfl W.heap.size 136 i0 (.agg #[.int .i64 0, .int .i64 0, .bool false, .bool false]) 4 Tryz.underlying133 hi0 hzz0 hzz1 .i64 .i64 _ _ N rfl rfl rfl rfl (by rw [hzz2]; omega) (by unfold maxLen; omega) (Nat.le_refl _) ?_; intro w1 ho1 hg1; have HO1 := Lib.hid (own_block4 ho1); have HBE1 := Lib.hid ((Below.refl W.heap.size W).grown hg1 (Nat.le_refl _) (fun k hk => by cases hk)); clear ho1 hg1; rw [made_steps] at HO1; have HS1 := Lib.hid (show StpAt w1 W.heap.size (List.replicate N stp0) from HO1.out); obtain ⟨g, hg⟩ : ∃ g, g = W.heap.size := ⟨_, rfl⟩; rw [← hg] at HS1 ⊢; have hgW : W.heap.size ≤ g := (by omega); have hgl : g < w1.heap.size := at_lt HS1.out; clear hg HO1; obtain ⟨d0, d1, d2, d3⟩ := HS1.out.cells (j := s) (x := stp0) (by rw [List.getElem?_replicate, if_pos hs]); have e0 := HS1.out.frz (s * 4); have e1 := HS1.out.frz (s * 4 + 1); have e2 := HS1.out.frz (s * 4 + 2); have e3 := HS1.out.frz (s * 4 + 3))
  obtain ⟨V1, hV1⟩ : ∃ X, X = (((w1.setCell ⟨g, s * 4, none⟩ (.int .i64 (-1))).setCell ⟨g, s * 4 + 1, none⟩ (.int .i64 (s : Int))).setCell ⟨g, s * 4 + 2, none⟩ (.bool false)).setCell ⟨g, s * 4 + 3, none⟩ (.bool true) := ⟨_, rfl⟩
  obtain ⟨B1, hB1⟩ : ∃ B, B = (List.replicate N stp0).set s ⟨-1, (s : Int), false, true⟩ := ⟨_, rfl⟩
  have HSV := Lib.hid (show StpAt V1 g B1 by rw [hV1, hB1]; exact HS1.out.set s ⟨-1, (s : Int), false, true⟩)
  have hVs : V1.heap.size = w1.heap.size := by rw [hV1]; simp [World.setCell]
  have HBV := Lib.hid (show Below W.heap.size W V1 by rw [hV1]; exact (((HBE1.out.setCell (p := ⟨g, s * 4, none⟩) hgW _).setCell (p := ⟨g, s * 4 + 1, none⟩) hgW _).setCell (p := ⟨g, s * 4 + 2, none⟩) hgW _).setCell (p := ⟨g, s * 4 + 3, none⟩) hgW _)
  obtain ⟨W2, hW2⟩ : ∃ X, X = V1.alloc (.cells #[.int .i64 (s : Int)] 3) := ⟨_, rfl⟩
  have HB2 := Lib.hid (show Below W.heap.size W W2 by rw [hW2]; exact HBV.out.alloc HBV.out.size _)
  have HS2 := Lib.hid (show StpAt W2 g B1 by rw [hW2]; exact old_heap _ HSV.out)
  have HQ2 := Lib.hid (show QOwn W2 (.slice (some ⟨w1.heap.size, 0, none⟩) 1 1) (nats [s]) (fun k => g < k) by
    have hb : W2.heap[w1.heap.size]? = some (.cells #[.int .i64 (s : Int)] 3 (0, 0)) := by rw [hW2, ← hVs]; exact heap_alloc_new _ _
    refine ⟨w1.heap.size, 0, 1, rfl, hgl, ⟨_, _, _, hb⟩, Nat.le_refl _, by decide, fun j hj => ?_, fun j x hx => ?_⟩
    · obtain rfl : j = 0 := by omega
      rw [cell_of (i := 0) hb rfl]
      exact ⟨rfl, by simp [World.frozen?, hb]⟩
    · have hj : j = 0 := by have := (List.getElem?_eq_some_iff.1 hx).1; simp [nats] at this; omega
      subst hj
      have hxs : x = (s : Int) := by simpa [nats] using hx.symm
      rw [hxs]
      exact cell_of hb rfl)
  have HR2 := Lib.hid (show Srch l s N B1 [s] by rw [hB1]; exact Srch.start hs)
  have hzw : (V1.alloc (.cells #[.int .i64 (s : Int)] 3)) = W2 := hW2.symm
  rw [← hV1, hzw]
  clear hzw hW2 hV1 hB1 hVs d0 d1 d2 d3 e0 e1 e2 e3 hW hsN hsi
  go_loopg [8] N (fun gk v wr => ∃ (B : List Stp) (seen : List Nat) (p : Nat), Hid ((Srch l s N B seen ∧ Clo l seen p) ∧ p ≤ seen.length ∧ p + gk = N) ∧ Hid (StpAt wr g B) ∧ Hid (QOwn wr v (nats (seen.drop p)) (fun k => g < k)) ∧ Hid (Below W.heap.size W wr))
  case atStart => exact ⟨B1, [s], 0, Lib.hid ⟨⟨HR2.out, fun j u hj => absurd hj (Nat.not_lt_zero _)⟩, Nat.zero_le _, by omega⟩, HS2, HQ2, HB2⟩
  case round =>
    obtain ⟨B, seen, p, hp, hS, hQ, hB⟩ := hrel
    obtain ⟨wa, hwa⟩ : ∃ z, z = wr := ⟨_, rfl⟩
    subst hwa
    rcases hdr : seen.drop p with _ | ⟨u, rest⟩
    · have hpl : p = seen.length := by have h1 := List.drop_eq_nil_iff.1 hdr; have h2 := hp.out.2.1; omega
      rw [hdr] at hQ
      obtain ⟨gq, oq, cq, rfl, -⟩ := hQ.out
      have HE := Lib.hid (show RePost N s l w (.returned (.slice (some ⟨g, 0, none⟩) N N)) wa from ⟨g, B, seen, rfl, hS.out, by omega, hp.out.1.1, by have h := hp.out.1.2; rw [hpl] at h; exact h, below_join HB0.out hB.out HB0.out.size⟩)
      clear hdr hpl
      go_wp2_with (fail)
      go_ret
      exact HE.out
    · have hup : seen[p]? = some u := by
        have h := congrArg (fun z => z[0]?) hdr
        simpa using h
      have hrest : seen.drop (p + 1) = rest := by
        have h := congrArg List.tail hdr
        simpa using h
      have HQ0 := hQ.out
      rw [hdr, show nats (u :: rest) = (u : Int) :: nats rest from rfl] at HQ0
      have hrl : rest.length ≤ 64 := by
        have h1 := hp.out.1.1.bound
        have h2 := congrArg List.length hdr
        rw [List.length_drop, List.length_cons] at h2
        omega
      obtain ⟨gq, oq, cq, v2, rfl, hq1, hq2, hq3, y0, hrun, hq4⟩ := HQ0.tail_run (by rw [nats_len]; omega)
      have huN : u < N := hp.out.1.1.lt u (List.mem_of_getElem? hup)
      have HUP := Lib.hid hup
      have HRS := Lib.hid hrest
      have HQ4 := Lib.hid hq4
      unfold maxLen at hq2
      obtain ⟨⟨x0, x1⟩, -⟩ := HF.out wa hB.out
      have HI0 := Lib.hid (show SrI l s N p u 0 B seen from ⟨hp.out.1.1, hp.out.1.2, Par.zero u, hup⟩)
      have hgk : 0 < gk := by
        have h1 := hp.out.1.1.bound
        have h2 := (List.getElem?_eq_some_iff.1 hup).1
        have h3 := hp.out.2.2
        omega
      have HPG := Lib.hid hp.out.2.2
      clear hdr hup hrest HQ0 hq4 hq3
      go_wp2_with (fail)
      clear x0 x1 y0 hrun
      go_loopw [8, 33] (fun v i wr => ∃ (j : Nat) (B : List Stp) (seen : List Nat), j ≤ ar.length ∧ i = .int .i64 (j : Int) ∧ Hid (SrI l s N p u j B seen) ∧ Hid (StpAt wr g B) ∧ Hid (QOwn wr v (nats (seen.drop (p + 1))) (fun k => g < k)) ∧ Hid (Below W.heap.size W wr)) (fun _ i _ => ar.length - (intOf i).toNat)
      case atStart => exact ⟨0, B, seen, Nat.zero_le _, rfl, HI0, hS, by rw [HRS.out]; exact HQ4, hB⟩
      case round =>
        obtain ⟨i, B, seen, hi, rfl, hI, hS, hQ, hB⟩ := hrel
        obtain ⟨wb, hwb⟩ : ∃ z, z = wr := ⟨_, rfl⟩
        subst hwb
        have hii : ((i : Nat) : Int).toNat = i := by omega
        by_cases hil : i < ar.length
        · have hilc : (i : Int) < (ar.length : Int) := by omega
          obtain ⟨pp, hpp⟩ : ∃ pp, ar[i]? = some pp := ⟨_, List.getElem?_eq_getElem hil⟩
          obtain ⟨⟨au, av, ac, ax⟩, hla, hpe, hau, hav, hne, hc0, hc8⟩ := HAR.out i pp hpp
          obtain rfl : pp = ((au : Int), (av : Int), ac) := hpe
          simp only at hau hav hne hc0 hc8
          have hxx := HXL.out _ (List.mem_of_getElem? hla)
          simp only at hxx
          obtain ⟨⟨x0, x1⟩, pt, pf⟩ := HF.out wb hB.out
          obtain ⟨rb, ro, rc, e, hrb, -, -, z0, z1, z2⟩ := pt.at_ hpp
          injection e with e1 hle e2
          clear hle
          subst e1 e2
          have hfx : (l.map Ar.x)[i]? = some ax := by rw [List.getElem?_map, hla]; rfl
          obtain ⟨A2', k2, hA2, hk2, hk3, -, hk4⟩ := pf
          obtain ⟨fb, fo, hfe, hfb, hfc⟩ := hk4 (by have := (List.getElem?_eq_some_iff.1 hfx).1; omega)
          injection hA2 with e1 hle e2
          clear hle
          subst e1 e2
          have hfe2 : A2 = some ⟨fb, fo, none⟩ := hfe
          subst hfe2
          have hf0 := hfc i ax hfx
          obtain ⟨bu, hbu⟩ : ∃ x, B[au]? = some x := ⟨_, List.getElem?_eq_getElem (by rw [hI.out.srch.len]; exact hau)⟩
          obtain ⟨bv, hbv⟩ : ∃ x, B[av]? = some x := ⟨_, List.getElem?_eq_getElem (by rw [hI.out.srch.len]; exact hav)⟩
          have HISU := Lib.hid (hI.out.srch.is_ au bu hbu)
          have HISV := Lib.hid (hI.out.srch.is_ av bv hbv)
          obtain ⟨Y, hY⟩ : ∃ Y, Y = wb.alloc (.cells #[.int .i64 (au : Int), .int .i64 (av : Int), .int .i64 ac] 67) := ⟨_, rfl⟩
          have bY : Below wb.heap.size wb Y := by subst hY; exact (Below.refl _ _).alloc (Nat.le_refl _) _
          have HBY := Lib.hid (below_join hB.out bY hB.out.size)
          have HAY := Lib.hid (show Y.heap[wb.heap.size]? = some (.cells #[.int .i64 (au : Int), .int .i64 (av : Int), .int .i64 ac] 67 (0, 0)) by subst hY; exact heap_alloc_new _ _)
          have HSY := Lib.hid (show StpAt Y g B from (bY.block _ (at_lt hS.out)).trans hS.out)
          have HQY := Lib.hid (show QOwn Y u8 (nats (seen.drop (p + 1))) (fun k => g < k) from hQ.out.kept (fun k cs t fr _ h => (bY.block _ (at_lt h)).trans h) (fun k h _ => h))
          have hgwb : g < wb.heap.size := at_lt hS.out
          obtain ⟨-, -, -, cu⟩ := HSY.out.cells hbu
          obtain ⟨-, -, -, cv⟩ := HSY.out.cells hbv
          have a0 : Y.cell? ⟨wb.heap.size, 0, none⟩ = some (.int .i64 (au : Int)) := cell_of HAY.out rfl
          have a1 : Y.cell? ⟨wb.heap.size, 1, none⟩ = some (.int .i64 (av : Int)) := cell_of HAY.out rfl
          have a2 : Y.cell? ⟨wb.heap.size, 2, none⟩ = some (.int .i64 ac) := cell_of HAY.out rfl
          have f0 : Y.cell? ⟨fb, fo + i, none⟩ = some (.int .i64 ax) := (bY.cell (p := ⟨fb, fo + i, none⟩) hfb).trans hf0
          have huc : (au : Int) < (N : Int) := by omega
          have hvc : (av : Int) < (N : Int) := by omega
          have hui : ((au : Nat) : Int).toNat = au := by omega
          have hvi : ((av : Nat) : Int).toNat = av := by omega
          have HLA := Lib.hid hla
          have HNE := Lib.hid hne
          have HAX := Lib.hid hxx
          have HBU := Lib.hid hbu
          have HBV := Lib.hid hbv
          clear hla hpp hne hxx hbu hbv hfx hfc hf0 hk4 hk2 hk3 hfe bY pt hc0 hc8
          rw [hY] at cu cv a0 a1 a2 f0
          go_wp2_with (fail)
          rw [← hY] at cu cv a0 a1 a2 f0 ⊢
          clear hY x0 x1 z0 z1 z2
          have HCN := Lib.hid (show ((au : Int) == (u : Int)) = true ↔ au = u by rw [beq_iff_eq]; omega)
          have HDN := Lib.hid (show ((av : Int) == (u : Int)) = true ↔ av = u by rw [beq_iff_eq]; omega)
          rcases c1 : ((au : Int) == (u : Int)) with _ | _
          · have HC1 := Lib.hid (show au ≠ u from fun h => by have := HCN.out.2 h; rw [c1] at this; cases this)
            rcases d1 : ((av : Int) == (u : Int)) with _ | _
            · have HD1 := Lib.hid (show av ≠ u from fun h => by have := HDN.out.2 h; rw [d1] at this; cases this)
              have HI2 := Lib.hid (hI.out.stay HLA.out (fun h h' => absurd h HC1.out) (fun h h' => absurd h HD1.out))
              go_quiet (fail)
              obtain ⟨Yd, hYd⟩ : ∃ Z, Z = Y.drewN nq := ⟨_, rfl⟩
              have HSd := Lib.hid (show StpAt Yd g B by rw [hYd]; exact HSY.out)
              have HQd := Lib.hid (show QOwn Yd u8 (nats (seen.drop (p + 1))) (fun k => g < k) by rw [hYd]; exact HQY.out)
              have HAd := Lib.hid (show Yd.heap[wb.heap.size]? = some (.cells #[.int .i64 (au : Int), .int .i64 (av : Int), .int .i64 ac] 67 (0, 0)) by rw [hYd]; exact HAY.out)
              have HBd := Lib.hid (show Below W.heap.size W Yd by rw [hYd]; exact below_drewN HBY.out)
              have hsd : Yd.heap.size = Y.heap.size := by rw [hYd]; rfl
              have f0' : Yd.cell? ⟨fb, fo + i, none⟩ = some (.int .i64 ax) := by rw [hYd]; exact f0
              rw [← hYd]
              clear hYd cu cv a0 a1 a2 f0
              obtain ⟨-, -, -, cu⟩ := HSd.out.cells HBU.out
              obtain ⟨-, -, -, cv⟩ := HSd.out.cells HBV.out
              have a0 : Yd.cell? ⟨wb.heap.size, 0, none⟩ = some (.int .i64 (au : Int)) := cell_of HAd.out rfl
              have a1 : Yd.cell? ⟨wb.heap.size, 1, none⟩ = some (.int .i64 (av : Int)) := cell_of HAd.out rfl
              have a2 : Yd.cell? ⟨wb.heap.size, 2, none⟩ = some (.int .i64 ac) := cell_of HAd.out rfl
              clear hsd
              go_wp2_with (fail)
              go_roundw
              case rel => exact ⟨i + 1, B, seen, by omega, by go_num, HI2, HSd, HQd, HBd⟩
              case measure => simp only [intOf]; omega
            · have HD1 := Lib.hid (HDN.out.1 d1)
              rcases d2 : bu.is with _ | _
              · rcases d3 : decide (0 < ax) with _ | _
                · have HD3 := Lib.hid (of_decide_eq_false d3)
                  have HI2 := Lib.hid (hI.out.stay HLA.out (fun h h' => absurd h HC1.out) (fun h h' => absurd h' HD3.out))
                  go_quiet (fail)
                  obtain ⟨Yd, hYd⟩ : ∃ Z, Z = Y.drewN nq := ⟨_, rfl⟩
                  have HSd := Lib.hid (show StpAt Yd g B by rw [hYd]; exact HSY.out)
                  have HQd := Lib.hid (show QOwn Yd u8 (nats (seen.drop (p + 1))) (fun k => g < k) by rw [hYd]; exact HQY.out)
                  have HAd := Lib.hid (show Yd.heap[wb.heap.size]? = some (.cells #[.int .i64 (au : Int), .int .i64 (av : Int), .int .i64 ac] 67 (0, 0)) by rw [hYd]; exact HAY.out)
                  have HBd := Lib.hid (show Below W.heap.size W Yd by rw [hYd]; exact below_drewN HBY.out)
                  have hsd : Yd.heap.size = Y.heap.size := by rw [hYd]; rfl
                  have f0' : Yd.cell? ⟨fb, fo + i, none⟩ = some (.int .i64 ax) := by rw [hYd]; exact f0
                  rw [← hYd]
                  clear hYd cu cv a0 a1 a2 f0
                  obtain ⟨-, -, -, cu⟩ := HSd.out.cells HBU.out
                  obtain ⟨-, -, -, cv⟩ := HSd.out.cells HBV.out
                  have a0 : Yd.cell? ⟨wb.heap.size, 0, none⟩ = some (.int .i64 (au : Int)) := cell_of HAd.out rfl
                  have a1 : Yd.cell? ⟨wb.heap.size, 1, none⟩ = some (.int .i64 (av : Int)) := cell_of HAd.out rfl
                  have a2 : Yd.cell? ⟨wb.heap.size, 2, none⟩ = some (.int .i64 ac) := cell_of HAd.out rfl
                  clear hsd
                  go_wp2_with (fail)
                  go_roundw
                  case rel => exact ⟨i + 1, B, seen, by omega, by go_num, HI2, HSd, HQd, HBd⟩
                  case measure => simp only [intOf]; omega
                · have HD3 := Lib.hid (of_decide_eq_true d3)
                  have HD2 := Lib.hid (show au ∉ seen from fun h => by have := HISU.out.2 h; rw [d2] at this; cases this)
                  have HI2 := Lib.hid (hI.out.goB HLA.out HNE.out HD1.out HD2.out hau HD3.out)
                  go_quiet (fail)
                  obtain ⟨Yd, hYd⟩ : ∃ Z, Z = Y.drewN nq := ⟨_, rfl⟩
                  have HSd := Lib.hid (show StpAt Yd g B by rw [hYd]; exact HSY.out)
                  have HQd := Lib.hid (show QOwn Yd u8 (nats (seen.drop (p + 1))) (fun k => g < k) by rw [hYd]; exact HQY.out)
                  have HAd := Lib.hid (show Yd.heap[wb.heap.size]? = some (.cells #[.int .i64 (au : Int), .int .i64 (av : Int), .int .i64 ac] 67 (0, 0)) by rw [hYd]; exact HAY.out)
                  have HBd := Lib.hid (show Below W.heap.size W Yd by rw [hYd]; exact below_drewN HBY.out)
                  have hsd : Yd.heap.size = Y.heap.size := by rw [hYd]; rfl
                  have f0' : Yd.cell? ⟨fb, fo + i, none⟩ = some (.int .i64 ax) := by rw [hYd]; exact f0
                  rw [← hYd]
                  clear hYd cu cv a0 a1 a2 f0
                  obtain ⟨-, -, -, cu⟩ := HSd.out.cells HBU.out
                  obtain ⟨-, -, -, cv⟩ := HSd.out.cells HBV.out
                  have a0 : Yd.cell? ⟨wb.heap.size, 0, none⟩ = some (.int .i64 (au : Int)) := cell_of HAd.out rfl
                  have a1 : Yd.cell? ⟨wb.heap.size, 1, none⟩ = some (.int .i64 (av : Int)) := cell_of HAd.out rfl
                  have a2 : Yd.cell? ⟨wb.heap.size, 2, none⟩ = some (.int .i64 ac) := cell_of HAd.out rfl
                  clear hsd
                  obtain ⟨c0, c1', c2', c3'⟩ := HSd.out.cells HBU.out
                  have e0 := HSd.out.frz (au * 4)
                  have e1 := HSd.out.frz (au * 4 + 1)
                  have e2 := HSd.out.frz (au * 4 + 2)
                  have e3 := HSd.out.frz (au * 4 + 3)
                  obtain ⟨S4, hS4⟩ : ∃ X, X = (((Yd.setCell ⟨g, au * 4, none⟩ (.int .i64 (i : Int))).setCell ⟨g, au * 4 + 1, none⟩ (.int .i64 (u : Int))).setCell ⟨g, au * 4 + 2, none⟩ (.bool true)).setCell ⟨g, au * 4 + 3, none⟩ (.bool true) := ⟨_, rfl⟩
                  have HS4 := Lib.hid (show StpAt S4 g (B.set au ⟨(i : Int), (u : Int), true, true⟩) by rw [hS4]; exact HSd.out.set au ⟨(i : Int), (u : Int), true, true⟩)
                  have hs4 : S4.heap.size = Yd.heap.size := by rw [hS4]; simp [World.setCell]
                  have hk4 : ∀ (k : Nat) (o : Obj), k ≠ g → Yd.heap[k]? = some o → S4.heap[k]? = some o := fun k o hk ho => by
                    rw [hS4, Below.heap_setCell _ ⟨g, au * 4 + 3, none⟩ _ k hk, Below.heap_setCell _ ⟨g, au * 4 + 2, none⟩ _ k hk, Below.heap_setCell _ ⟨g, au * 4 + 1, none⟩ _ k hk, Below.heap_setCell _ ⟨g, au * 4, none⟩ _ k hk]
                    exact ho
                  have HB4 := Lib.hid (show Below W.heap.size W S4 by rw [hS4]; exact (((HBd.out.setCell (p := ⟨g, au * 4, none⟩) hgW _).setCell (p := ⟨g, au * 4 + 1, none⟩) hgW _).setCell (p := ⟨g, au * 4 + 2, none⟩) hgW _).setCell (p := ⟨g, au * 4 + 3, none⟩) hgW _)
                  obtain ⟨Sa, hSa⟩ : ∃ X, X = S4.alloc (.cells #[.int .i64 (au : Int)] 3) := ⟨_, rfl⟩
                  have HQa := Lib.hid (show QOwn Sa u8 (nats (seen.drop (p + 1))) (fun k => g < k) from HQd.out.kept (fun k cs t fr hk h => by rw [hSa]; exact old_heap _ (hk4 k _ (show k ≠ g by omega) h)) (fun k h _ => h))
                  have hca : Sa.cell? ⟨Yd.heap.size, 0, none⟩ = some (.int .i64 (au : Int)) := by rw [hSa, ← hs4]; exact cell_of (heap_alloc_new _ _) rfl
                  have HSa := Lib.hid (show StpAt Sa g (B.set au ⟨(i : Int), (u : Int), true, true⟩) by rw [hSa]; exact old_heap _ HS4.out)
                  have HAa := Lib.hid (show Sa.heap[wb.heap.size]? = some (.cells #[.int .i64 (au : Int), .int .i64 (av : Int), .int .i64 ac] 67 (0, 0)) by rw [hSa]; exact old_heap _ (hk4 _ _ (by omega) HAd.out))
                  have HBa := Lib.hid (show Below W.heap.size W Sa by rw [hSa]; exact HB4.out.alloc HB4.out.size _)
                  have hown : ∀ k, u8.ownBlock = some k → g < k ∧ k < wb.heap.size := fun k hk => by obtain ⟨h1, cs, t, fr, h2⟩ := hQ.out.own hk; exact ⟨h1, at_lt h2⟩
                  have HOW := Lib.hid hown
                  have hlq : (nats (seen.drop (p + 1))).length ≤ 1000000 := by rw [nats_len, List.length_drop]; have := hI.out.srch.bound; omega
                  have hsz4 : g < Sa.heap.size := at_lt HSa.out
                  have hw1 : ¬ wb.heap.size = g := by omega
                  have hw2 : ¬ g = wb.heap.size := by omega
                  have HCA := Lib.hid hca
                  have HLQ := Lib.hid hlq
                  have HQ4E := Lib.hid hS4
                  have HQ5E := Lib.hid hSa
                  clear hs4 hk4 hown hca hlq hS4 hSa
                  go_wp2_with (at_builtin; rw [← HQ4E.out, ← HQ5E.out]; refine wpList_append_q rfl _ _ rfl HQa.out rfl Yd.heap.size (au : Int) rfl HCA.out HLQ.out ?_; intro v' Z hq' hO; have HSZ := Lib.hid (show StpAt Z g (B.set au ⟨(i : Int), (u : Int), true, true⟩) from hO.same g _ (fun h => by have := HOW.out g h; omega) HSa.out); have HAZ := Lib.hid (hO.same wb.heap.size _ (fun h => by have := HOW.out _ h; omega) HAa.out); have HQZ := Lib.hid (hq'.kept (K' := fun k => g < k) (fun k cs t fr _ h => h) (fun k h _ => h.elim (fun h => (HOW.out k h).1) (fun h => by show g < k; omega))); have HBZ := Lib.hid (hO.below HBa.out (fun k hk h => by have := HOW.out k h; omega)); have b0 : Z.cell? ⟨wb.heap.size, 0, none⟩ = some (.int .i64 (au : Int)) := (cell_of HAZ.out rfl); have b1 : Z.cell? ⟨wb.heap.size, 1, none⟩ = some (.int .i64 (av : Int)) := (cell_of HAZ.out rfl); clear hq' hO)
                  have HQF := Lib.hid (show QOwn Z v' (nats ((seen ++ [au]).drop (p + 1))) (fun k => g < k) by rw [drop_snoc hI.out.pl, show nats (seen.drop (p + 1) ++ [au]) = nats (seen.drop (p + 1)) ++ [(au : Int)] by simp [nats]]; exact HQZ.out)
                  go_roundw
                  case rel => exact ⟨i + 1, _, _, by omega, by go_num, HI2, HSZ, HQF, HBZ⟩
                  case measure => simp only [intOf]; omega
              · have HD2 := Lib.hid (HISU.out.1 d2)
                have HI2 := Lib.hid (hI.out.stay HLA.out (fun h h' => absurd h HC1.out) (fun h h' => HD2.out))
                go_quiet (fail)
                obtain ⟨Yd, hYd⟩ : ∃ Z, Z = Y.drewN nq := ⟨_, rfl⟩
                have HSd := Lib.hid (show StpAt Yd g B by rw [hYd]; exact HSY.out)
                have HQd := Lib.hid (show QOwn Yd u8 (nats (seen.drop (p + 1))) (fun k => g < k) by rw [hYd]; exact HQY.out)
                have HAd := Lib.hid (show Yd.heap[wb.heap.size]? = some (.cells #[.int .i64 (au : Int), .int .i64 (av : Int), .int .i64 ac] 67 (0, 0)) by rw [hYd]; exact HAY.out)
                have HBd := Lib.hid (show Below W.heap.size W Yd by rw [hYd]; exact below_drewN HBY.out)
                have hsd : Yd.heap.size = Y.heap.size := by rw [hYd]; rfl
                have f0' : Yd.cell? ⟨fb, fo + i, none⟩ = some (.int .i64 ax) := by rw [hYd]; exact f0
                rw [← hYd]
                clear hYd cu cv a0 a1 a2 f0
                obtain ⟨-, -, -, cu⟩ := HSd.out.cells HBU.out
                obtain ⟨-, -, -, cv⟩ := HSd.out.cells HBV.out
                have a0 : Yd.cell? ⟨wb.heap.size, 0, none⟩ = some (.int .i64 (au : Int)) := cell_of HAd.out rfl
                have a1 : Yd.cell? ⟨wb.heap.size, 1, none⟩ = some (.int .i64 (av : Int)) := cell_of HAd.out rfl
                have a2 : Yd.cell? ⟨wb.heap.size, 2, none⟩ = some (.int .i64 ac) := cell_of HAd.out rfl
                clear hsd
                go_wp2_with (fail)
                go_roundw
                case rel => exact ⟨i + 1, B, seen, by omega, by go_num, HI2, HSd, HQd, HBd⟩
                case measure => simp only [intOf]; omega
          · have HC1 := Lib.hid (HCN.out.1 c1)
            have HD1 := Lib.hid (show av ≠ u from fun h => HNE.out (HC1.out.trans h.symm))
            have d1 : ((av : Int) == (u : Int)) = false := by rw [beq_eq_false_iff_ne]; have := HD1.out; omega
            rcases c2 : bv.is with _ | _
            · rcases c3 : decide (ax < ac) with _ | _
              · have HC3 := Lib.hid (of_decide_eq_false c3)
                have HI2 := Lib.hid (hI.out.stay HLA.out (fun h h' => absurd h' HC3.out) (fun h h' => absurd h HD1.out))
                go_quiet (fail)
                obtain ⟨Yd, hYd⟩ : ∃ Z, Z = Y.drewN nq := ⟨_, rfl⟩
                have HSd := Lib.hid (show StpAt Yd g B by rw [hYd]; exact HSY.out)
                have HQd := Lib.hid (show QOwn Yd u8 (nats (seen.drop (p + 1))) (fun k => g < k) by rw [hYd]; exact HQY.out)
                have HAd := Lib.hid (show Yd.heap[wb.heap.size]? = some (.cells #[.int .i64 (au : Int), .int .i64 (av : Int), .int .i64 ac] 67 (0, 0)) by rw [hYd]; exact HAY.out)
                have HBd := Lib.hid (show Below W.heap.size W Yd by rw [hYd]; exact below_drewN HBY.out)
                have hsd : Yd.heap.size = Y.heap.size := by rw [hYd]; rfl
                have f0' : Yd.cell? ⟨fb, fo + i, none⟩ = some (.int .i64 ax) := by rw [hYd]; exact f0
                rw [← hYd]
                clear hYd cu cv a0 a1 a2 f0
                obtain ⟨-, -, -, cu⟩ := HSd.out.cells HBU.out
                obtain ⟨-, -, -, cv⟩ := HSd.out.cells HBV.out
                have a0 : Yd.cell? ⟨wb.heap.size, 0, none⟩ = some (.int .i64 (au : Int)) := cell_of HAd.out rfl
                have a1 : Yd.cell? ⟨wb.heap.size, 1, none⟩ = some (.int .i64 (av : Int)) := cell_of HAd.out rfl
                have a2 : Yd.cell? ⟨wb.heap.size, 2, none⟩ = some (.int .i64 ac) := cell_of HAd.out rfl
                clear hsd
                go_wp2_with (fail)
                go_roundw
                case rel => exact ⟨i + 1, B, seen, by omega, by go_num, HI2, HSd, HQd, HBd⟩
                case measure => simp only [intOf]; omega
              · have HC3 := Lib.hid (of_decide_eq_true c3)
                have HC2 := Lib.hid (show av ∉ seen from fun h => by have := HISV.out.2 h; rw [c2] at this; cases this)
                have HI2 := Lib.hid (hI.out.goA HLA.out HNE.out HC1.out HC2.out hav HC3.out)
                go_quiet (fail)
                obtain ⟨Yd, hYd⟩ : ∃ Z, Z = Y.drewN nq := ⟨_, rfl⟩
                have HSd := Lib.hid (show StpAt Yd g B by rw [hYd]; exact HSY.out)
                have HQd := Lib.hid (show QOwn Yd u8 (nats (seen.drop (p + 1))) (fun k => g < k) by rw [hYd]; exact HQY.out)
                have HAd := Lib.hid (show Yd.heap[wb.heap.size]? = some (.cells #[.int .i64 (au : Int), .int .i64 (av : Int), .int .i64 ac] 67 (0, 0)) by rw [hYd]; exact HAY.out)
                have HBd := Lib.hid (show Below W.heap.size W Yd by rw [hYd]; exact below_drewN HBY.out)
                have hsd : Yd.heap.size = Y.heap.size := by rw [hYd]; rfl
                have f0' : Yd.cell? ⟨fb, fo + i, none⟩ = some (.int .i64 ax) := by rw [hYd]; exact f0
                rw [← hYd]
                clear hYd cu cv a0 a1 a2 f0
                obtain ⟨-, -, -, cu⟩ := HSd.out.cells HBU.out
                obtain ⟨-, -, -, cv⟩ := HSd.out.cells HBV.out
                have a0 : Yd.cell? ⟨wb.heap.size, 0, none⟩ = some (.int .i64 (au : Int)) := cell_of HAd.out rfl
                have a1 : Yd.cell? ⟨wb.heap.size, 1, none⟩ = some (.int .i64 (av : Int)) := cell_of HAd.out rfl
                have a2 : Yd.cell? ⟨wb.heap.size, 2, none⟩ = some (.int .i64 ac) := cell_of HAd.out rfl
                clear hsd
                obtain ⟨c0, c1', c2', c3'⟩ := HSd.out.cells HBV.out
                have e0 := HSd.out.frz (av * 4)
                have e1 := HSd.out.frz (av * 4 + 1)
                have e2 := HSd.out.frz (av * 4 + 2)
                have e3 := HSd.out.frz (av * 4 + 3)
                obtain ⟨S4, hS4⟩ : ∃ X, X = (((Yd.setCell ⟨g, av * 4, none⟩ (.int .i64 (i : Int))).setCell ⟨g, av * 4 + 1, none⟩ (.int .i64 (u : Int))).setCell ⟨g, av * 4 + 2, none⟩ (.bool false)).setCell ⟨g, av * 4 + 3, none⟩ (.bool true) := ⟨_, rfl⟩
                have HS4 := Lib.hid (show StpAt S4 g (B.set av ⟨(i : Int), (u : Int), false, true⟩) by rw [hS4]; exact HSd.out.set av ⟨(i : Int), (u : Int), false, true⟩)
                have hs4 : S4.heap.size = Yd.heap.size := by rw [hS4]; simp [World.setCell]
                have hk4 : ∀ (k : Nat) (o : Obj), k ≠ g → Yd.heap[k]? = some o → S4.heap[k]? = some o := fun k o hk ho => by
                  rw [hS4, Below.heap_setCell _ ⟨g, av * 4 + 3, none⟩ _ k hk, Below.heap_setCell _ ⟨g, av * 4 + 2, none⟩ _ k hk, Below.heap_setCell _ ⟨g, av * 4 + 1, none⟩ _ k hk, Below.heap_setCell _ ⟨g, av * 4, none⟩ _ k hk]
                  exact ho
                have HB4 := Lib.hid (show Below W.heap.size W S4 by rw [hS4]; exact (((HBd.out.setCell (p := ⟨g, av * 4, none⟩) hgW _).setCell (p := ⟨g, av * 4 + 1, none⟩) hgW _).setCell (p := ⟨g, av * 4 + 2, none⟩) hgW _).setCell (p := ⟨g, av * 4 + 3, none⟩) hgW _)
                obtain ⟨Sa, hSa⟩ : ∃ X, X = S4.alloc (.cells #[.int .i64 (av : Int)] 3) := ⟨_, rfl⟩
                have HQa := Lib.hid (show QOwn Sa u8 (nats (seen.drop (p + 1))) (fun k => g < k) from HQd.out.kept (fun k cs t fr hk h => by rw [hSa]; exact old_heap _ (hk4 k _ (show k ≠ g by omega) h)) (fun k h _ => h))
                have hca : Sa.cell? ⟨Yd.heap.size, 0, none⟩ = some (.int .i64 (av : Int)) := by rw [hSa, ← hs4]; exact cell_of (heap_alloc_new _ _) rfl
                have HSa := Lib.hid (show StpAt Sa g (B.set av ⟨(i : Int), (u : Int), false, true⟩) by rw [hSa]; exact old_heap _ HS4.out)
                have HAa := Lib.hid (show Sa.heap[wb.heap.size]? = some (.cells #[.int .i64 (au : Int), .int .i64 (av : Int), .int .i64 ac] 67 (0, 0)) by rw [hSa]; exact old_heap _ (hk4 _ _ (by omega) HAd.out))
                have HBa := Lib.hid (show Below W.heap.size W Sa by rw [hSa]; exact HB4.out.alloc HB4.out.size _)
                have hown : ∀ k, u8.ownBlock = some k → g < k ∧ k < wb.heap.size := fun k hk => by obtain ⟨h1, cs, t, fr, h2⟩ := hQ.out.own hk; exact ⟨h1, at_lt h2⟩
                have HOW := Lib.hid hown
                have hlq : (nats (seen.drop (p + 1))).length ≤ 1000000 := by rw [nats_len, List.length_drop]; have := hI.out.srch.bound; omega
                have hsz4 : g < Sa.heap.size := at_lt HSa.out
                have hw1 : ¬ wb.heap.size = g := by omega
                have hw2 : ¬ g = wb.heap.size := by omega
                have HCA := Lib.hid hca
                have HLQ := Lib.hid hlq
                have HQ4E := Lib.hid hS4
                have HQ5E := Lib.hid hSa
                clear hs4 hk4 hown hca hlq hS4 hSa
                go_wp2_with (at_builtin; rw [← HQ4E.out, ← HQ5E.out]; refine wpList_append_q rfl _ _ rfl HQa.out rfl Yd.heap.size (av : Int) rfl HCA.out HLQ.out ?_; intro v' Z hq' hO; have HSZ := Lib.hid (show StpAt Z g (B.set av ⟨(i : Int), (u : Int), false, true⟩) from hO.same g _ (fun h => by have := HOW.out g h; omega) HSa.out); have HAZ := Lib.hid (hO.same wb.heap.size _ (fun h => by have := HOW.out _ h; omega) HAa.out); have HQZ := Lib.hid (hq'.kept (K' := fun k => g < k) (fun k cs t fr _ h => h) (fun k h _ => h.elim (fun h => (HOW.out k h).1) (fun h => by show g < k; omega))); have HBZ := Lib.hid (hO.below HBa.out (fun k hk h => by have := HOW.out k h; omega)); have b0 : Z.cell? ⟨wb.heap.size, 0, none⟩ = some (.int .i64 (au : Int)) := (cell_of HAZ.out rfl); have b1 : Z.cell? ⟨wb.heap.size, 1, none⟩ = some (.int .i64 (av : Int)) := (cell_of HAZ.out rfl); clear hq' hO)
                have HQF := Lib.hid (show QOwn Z v' (nats ((seen ++ [av]).drop (p + 1))) (fun k => g < k) by rw [drop_snoc hI.out.pl, show nats (seen.drop (p + 1) ++ [av]) = nats (seen.drop (p + 1)) ++ [(av : Int)] by simp [nats]]; exact HQZ.out)
                go_roundw
                case rel => exact ⟨i + 1, _, _, by omega, by go_num, HI2, HSZ, HQF, HBZ⟩
                case measure => simp only [intOf]; omega
            · have HC2 := Lib.hid (HISV.out.1 c2)
              have HI2 := Lib.hid (hI.out.stay HLA.out (fun h h' => HC2.out) (fun h h' => absurd h HD1.out))
              go_quiet (fail)
              obtain ⟨Yd, hYd⟩ : ∃ Z, Z = Y.drewN nq := ⟨_, rfl⟩
              have HSd := Lib.hid (show StpAt Yd g B by rw [hYd]; exact HSY.out)
              have HQd := Lib.hid (show QOwn Yd u8 (nats (seen.drop (p + 1))) (fun k => g < k) by rw [hYd]; exact HQY.out)
              have HAd := Lib.hid (show Yd.heap[wb.heap.size]? = some (.cells #[.int .i64 (au : Int), .int .i64 (av : Int), .int .i64 ac] 67 (0, 0)) by rw [hYd]; exact HAY.out)
              have HBd := Lib.hid (show Below W.heap.size W Yd by rw [hYd]; exact below_drewN HBY.out)
              have hsd : Yd.heap.size = Y.heap.size := by rw [hYd]; rfl
              have f0' : Yd.cell? ⟨fb, fo + i, none⟩ = some (.int .i64 ax) := by rw [hYd]; exact f0
              rw [← hYd]
              clear hYd cu cv a0 a1 a2 f0
              obtain ⟨-, -, -, cu⟩ := HSd.out.cells HBU.out
              obtain ⟨-, -, -, cv⟩ := HSd.out.cells HBV.out
              have a0 : Yd.cell? ⟨wb.heap.size, 0, none⟩ = some (.int .i64 (au : Int)) := cell_of HAd.out rfl
              have a1 : Yd.cell? ⟨wb.heap.size, 1, none⟩ = some (.int .i64 (av : Int)) := cell_of HAd.out rfl
              have a2 : Yd.cell? ⟨wb.heap.size, 2, none⟩ = some (.int .i64 ac) := cell_of HAd.out rfl
              clear hsd
              go_wp2_with (fail)
              go_roundw
              case rel => exact ⟨i + 1, B, seen, by omega, by go_num, HI2, HSd, HQd, HBd⟩
              case measure => simp only [intOf]; omega
        · obtain rfl : i = ar.length := by omega
          have HI9 := Lib.hid hI.out
          have hdn := (show SrI l s N p u l.length B seen by have h := hI.out; rw [← HLL.out] at h; exact h).done
          have HDN := Lib.hid (show (Srch l s N B seen ∧ Clo l seen (p + 1)) ∧ p + 1 ≤ seen.length ∧ p + 1 + (gk - 1) = N from ⟨⟨hdn.1, hdn.2.1⟩, hdn.2.2, by have := HPG.out; omega⟩)
          clear hdn
          go_wp2_with (fail)
          go_roundg (gk - 1)
          case measure => omega
          case rel => exact ⟨B, seen, p + 1, HDN, hS, hQ, hB⟩
end Go.Proofs.YtidpiokkfnhobaaGreat.v5

namespace Go.Proofs.YtidpiokkfnhobaaGreat.v5
set_option linter.unusedSimpArgs false
set_option linter.unusedVariables false

/-- The way back along the steps. -/
def PathTo (l : List Ar) (B : List Stp) (s : Nat) : Nat → List Nat → Prop
  | v, [] => v = s
  | v, m :: ms => v ≠ s ∧ ∃ (i u : Nat) (b : Bool), B[v]? = some ⟨(i : Int), (u : Int), b, true⟩ ∧ m = mvOf i b ∧ i < l.length ∧ mvFrom l m = some u ∧ 0 < mvRoom l m ∧ PathTo l B s u ms
def byN (B : List Stp) (v : Nat) : Nat := match B[v]? with
  | some x => mvOf x.arc.toNat x.back
  | none => 0
section
variable {l : List Ar} {s N : Nat} {B : List Stp} {seen : List Nat}
theorem Srch.entry (h : Srch l s N B seen) {v : Nat} (hv : v ∈ seen) (hvs : v ≠ s) : ∃ (i u : Nat) (b : Bool), B[v]? = some ⟨(i : Int), (u : Int), b, true⟩ ∧ i < l.length ∧ mvFrom l (mvOf i b) = some u ∧ mvTo l (mvOf i b) = some v ∧ 0 < mvRoom l (mvOf i b) ∧ u ∈ seen ∧ seen.idxOf u < seen.idxOf v ∧ byN B v = mvOf i b := by
  have hk : seen.idxOf v < seen.length := List.idxOf_lt_length_iff.2 hv
  have hkv : seen[seen.idxOf v]? = some v := by rw [List.getElem?_eq_getElem hk, List.getElem_idxOf hk]
  have h0 : 0 < seen.idxOf v := by
    rcases Nat.eq_zero_or_pos (seen.idxOf v) with e | e
    · rw [e, h.first] at hkv
      injection hkv with hkv
      exact absurd hkv.symm hvs
    · exact e
  obtain ⟨i, u, j, b, g1, g2, g3, g4, g5, g6, g7⟩ := h.step _ v hkv h0
  have hu : u ∈ seen := List.mem_of_getElem? g6
  have hku : seen.idxOf u < seen.length := List.idxOf_lt_length_iff.2 hu
  have hj : seen.idxOf u = j := (List.getElem?_inj hku h.nodup).1 (by rw [List.getElem?_eq_getElem hku, List.getElem_idxOf hku, g6])
  refine ⟨i, u, b, g1, g2, g3, g4, g5, hu, by omega, ?_⟩
  unfold byN
  rw [g1]
  simp
theorem Srch.steps (h : Srch l s N B seen) : Steps l s (fun v => v ∈ seen) (byN B) (fun v => seen.idxOf v) := by
  refine ⟨List.mem_of_getElem? h.first, fun v hv hvs => ?_⟩
  obtain ⟨i, u, b, g1, g2, g3, g4, g5, g6, g7, g8⟩ := h.entry hv hvs
  rw [g8]
  exact ⟨u, g3, g4, g5, g6, g7⟩
theorem chain_path (h : Srch l s N B seen) : ∀ (ms : List Nat) (v : Nat), Chain l s v ms → (∀ m ∈ ms, ∃ w, m = byN B w ∧ w ∈ seen ∧ w ≠ s) → PathTo l B s v ms
  | [], v, hc, _ => hc
  | m :: ms, v, hc, hm => by
    obtain ⟨w, e, hw, hws⟩ := hm m (by simp)
    obtain ⟨ht, u, hf, hc2⟩ := hc
    obtain ⟨i, u', b, g1, g2, g3, g4, g5, g6, g7, g8⟩ := h.entry hw hws
    rw [g8] at e
    subst e
    rw [g4] at ht
    injection ht with ht
    subst ht
    rw [g3] at hf
    injection hf with hf
    subst hf
    exact ⟨hws, i, u', b, g1, rfl, g2, g3, g5, chain_path h ms u' hc2 (fun m hm2 => hm m (List.mem_cons_of_mem _ hm2))⟩
/-- The way back from a node that was reached. -/
theorem Srch.path (h : Srch l s N B seen) {t : Nat} (ht : t ∈ seen) : ∃ ms, Chain l s t ms ∧ PathTo l B s t ms ∧ (∀ m ∈ ms, 0 < mvRoom l m) ∧ (ms.map (· / 2)).Nodup := by
  obtain ⟨ms, c1, c2, c3⟩ := h.steps.chain _ t (Nat.le_refl _) ht
  refine ⟨ms, c1, chain_path h ms t c1 (fun m hm => ?_), fun m hm => (c2 m hm).1, c3⟩
  obtain ⟨-, w, e, g1, g2, -⟩ := c2 m hm
  exact ⟨w, e, g1, g2⟩
end
/-- What arcs carry, as numbers. -/
def xsOf (l : List Ar) : List Int := l.map Ar.x
theorem xsOf_send {l : List Ar} {i : Nat} {b : Bool} {d : Int} {a : Ar} (ha : l[i]? = some a) : xsOf (mvSend l (mvOf i b) d) = (xsOf l).set i (a.x + (if b = true then -d else d)) := by
  unfold xsOf mvSend upd
  rw [mvOf_div, mvOf_mod]
  apply List.ext_getElem?
  intro j
  rw [List.getElem?_map, List.getElem?_modify, List.getElem?_set, List.getElem?_map]
  have hi := (List.getElem?_eq_some_iff.1 ha).1
  by_cases e : i = j
  · subst e
    rw [ha]
    cases b <;> simp [hi]
  · simp [e]
theorem sends_snoc (l : List Ar) (ms : List Nat) (m : Nat) (d : Int) : sends l (ms ++ [m]) d = mvSend (sends l ms d) m d := by unfold sends; rw [List.foldl_append]; rfl
theorem sends_other {d : Int} : ∀ (ms : List Nat) (l : List Ar) (i : Nat), (∀ m ∈ ms, m / 2 ≠ i) → (sends l ms d)[i]? = l[i]?
  | [], l, i, _ => rfl
  | m :: ms, l, i, h => by
    show (sends (mvSend l m d) ms d)[i]? = _
    rw [sends_other ms _ i (fun k hk => h k (List.mem_cons_of_mem _ hk))]
    unfold mvSend
    rw [upd_get, if_neg (h m (by simp))]
theorem mvRoom_cases {l : List Ar} {i : Nat} {b : Bool} {a : Ar} (ha : l[i]? = some a) : mvRoom l (mvOf i b) = if b = true then a.x else a.cap - a.x := by
  cases b
  · rw [(mv_along ha).2.2]; simp
  · rw [(mv_back ha).2.2]; simp
end Go.Proofs.YtidpiokkfnhobaaGreat.v5

namespace Go.Proofs.YtidpiokkfnhobaaGreat.v5
open Go.RowKit Go.Shelf
set_option maxRecDepth 100000
set_option linter.unusedSimpArgs false
set_option linter.unusedVariables false

/-- Numbers in a block of their own. -/
def NumAt (w : World) (g : Nat) (l : List Int) : Prop := w.heap[g]? = some (.cells (ints l).toArray 3 (0, 0))
section
variable {X Y : World} {g : Nat} {l : List Int}
theorem NumAt.on {B : Nat} (h : NumAt X g l) (hb : Below B X Y) (hB : X.heap.size ≤ B) : NumAt Y g l := (hb.block _ (Nat.lt_of_lt_of_le (at_lt h) hB)).trans h
theorem NumAt.cell (h : NumAt X g l) {j : Nat} {x : Int} (hj : l[j]? = some x) : X.cell? ⟨g, j, none⟩ = some (.int .i64 x) := cell_of h (by simp [ints, hj])
theorem NumAt.frz (h : NumAt X g l) (o : Nat) : X.frozen? ⟨g, o, none⟩ = false := by simp [World.frozen?, show X.heap[g]? = _ from h]
theorem NumAt.set (h : NumAt X g l) (j : Nat) (x : Int) : NumAt (X.setCell ⟨g, j, none⟩ (.int .i64 x)) g (l.set j x) := by
  have := row_set3 (i := j) h (.int .i64 x)
  unfold NumAt
  rw [this]
  simp [ints, List.map_set]
theorem NumAt.sl (h : NumAt X g l) (hm : l.length ≤ maxLen) : IntSl X (.slice (some ⟨g, 0, none⟩) l.length l.length) l :=
  ⟨some ⟨g, 0, none⟩, l.length, rfl, Nat.le_refl _, hm, fun e => by (cases e), fun _ => ⟨g, 0, rfl, at_lt h, fun j x hj => by rw [Nat.zero_add]; exact h.cell hj⟩⟩
end
theorem own_block1 {w : World} {base n g : Nat} {T : TypeId} {xs : List Value} (h : w.ownsRow base T 1 (.slice (some ⟨g, 0, none⟩) n n) n xs) : w.heap[g]? = some (.cells xs.toArray T (0, 0)) := by
  obtain ⟨k1, ⟨e, -⟩ | ⟨g', cap', cur, e, k3, k4, k5, k6, k7, k8⟩⟩ := h
  · cases e
  · injection e with e1 _ e2
    injection e1 with e1
    injection e1 with e1
    subst e1 e2
    rw [k4]
    have hl : cur.toList = xs := by rw [← k8, List.take_of_length_le (by simp [k7])]
    rw [← hl]
theorem xsOf_none (L : List (Int × Int × Int)) : xsOf (arsOf L) = List.replicate L.length 0 := by
  unfold xsOf arsOf
  rw [List.map_map]
  exact List.eq_replicate_iff.2 ⟨by simp, fun x hx => by obtain ⟨y, -, rfl⟩ := List.mem_map.1 hx; rfl⟩
/-- A flow under way. -/
structure GrI (N s t : Nat) (ar : List (Int × Int × Int)) (l : List Ar) (gk : Nat) : Prop where
  flow : IsFlow N l s t
  ends_ : ends l = ends (arsOf ar)
  rest : gain l s + (gk : Int) = 100000000 * (ar.length : Int)
theorem GrI.start {N s t : Nat} {ar : List (Int × Int × Int)} (hok : ntOk (N : Int) ar = true) : GrI N s t ar (arsOf ar) (100000000 * ar.length) := by
  have hn := arsOf_nodes (ntOk_iff.1 hok).2.2.2
  obtain ⟨h1, h2⟩ := IsFlow.none (N := N) (s := s) (t := t) (l := arsOf ar) (fun a ha => ⟨(hn a ha).1, (hn a ha).2.1⟩) (fun a ha => ⟨(hn a ha).2.2.2.2, (hn a ha).2.2.2.1⟩)
  exact ⟨h1, rfl, by rw [h2]; omega⟩
theorem GrI.next {N s t : Nat} {ar : List (Int × Int × Int)} {l : List Ar} {gk : Nat} {ms : List Nat} {d : Int} (h : GrI N s t ar l gk) (hok : ntOk (N : Int) ar = true) (hs : s < N) (hst : s ≠ t) (hd : 0 < d) (hc : Chain l s t ms) (hr : ∀ m ∈ ms, d ≤ mvRoom l m) (hn : (ms.map (· / 2)).Nodup) : GrI N s t ar (sends l ms d) (gk - d.toNat) ∧ gk - d.toNat < gk := by
  obtain ⟨h1, h2, h3⟩ := h.flow.along hst (by omega) hc hr hn
  have hn2 := arsOf_nodes (ntOk_iff.1 hok).2.2.2
  have he := h3.trans h.ends_
  have hll : (sends l ms d).length = ar.length := by
    have := congrArg List.length he
    rw [ends_len0, ends_len0, arsOf_len] at this
    exact this
  have hb := value_bound (M := 100000000) h1 hs hst (fun a ha => by
    obtain ⟨j, hj⟩ := List.getElem?_of_mem ha
    obtain ⟨b, hb, e1, e2, e3⟩ := ends_get he hj
    have := (hn2 b (List.mem_of_getElem? hb)).2.2.1
    omega) (by omega)
  rw [hll] at hb
  have hre := h.rest
  exact ⟨⟨h1, he, by rw [h2]; omega⟩, by omega⟩
/-- A step of the way back, as the walk wants it. -/
theorem GrI.step {N s t v : Nat} {ar : List (Int × Int × Int)} {l : List Ar} {gk m : Nat} {rest : List Nat} {B : List Stp} (h : GrI N s t ar l gk) (hok : ntOk (N : Int) ar = true) (hB : B.length = N) (hp : PathTo l B s v (m :: rest)) :
    v ≠ s ∧ v < N ∧ ∃ (i u : Nat) (b : Bool) (a : Ar) (p : Int × Int × Int), B[v]? = some ⟨(i : Int), (u : Int), b, true⟩ ∧ m = mvOf i b ∧ i < ar.length ∧ ar[i]? = some p ∧ l[i]? = some a ∧ p = ((a.u : Int), (a.v : Int), a.cap) ∧ 0 ≤ a.x ∧ a.x ≤ a.cap ∧ a.cap ≤ 100000000 ∧ 0 < mvRoom l m ∧ mvRoom l m = (if b = true then a.x else a.cap - a.x) ∧ PathTo l B s u rest := by
  obtain ⟨h0, i, u, b, h1, h2, h3, h4, h5, h6⟩ := hp
  have hll : l.length = ar.length := by
    have := congrArg List.length h.ends_
    rw [ends_len0, ends_len0, arsOf_len] at this
    exact this
  have hvN : v < N := by have := (List.getElem?_eq_some_iff.1 h1).1; omega
  have hi : i < ar.length := by omega
  obtain ⟨p, hpp⟩ : ∃ p, ar[i]? = some p := ⟨_, List.getElem?_eq_getElem hi⟩
  obtain ⟨a, ha, e, -, -, -, -, hc⟩ := arc_is hok h.ends_ hpp
  obtain ⟨x0, x1⟩ := h.flow.fits a (List.mem_of_getElem? ha)
  exact ⟨h0, hvN, i, u, b, a, p, h1, h2, hi, hpp, ha, e, x0, x1, hc, h5, by rw [h2]; exact mvRoom_cases ha, h6⟩
theorem room_step {l : List Ar} {pre : List Nat} {m : Nat} {rm d : Int} (h : 0 < rm ∧ rm ≤ 100000000 ∧ ∀ k ∈ pre, rm ≤ mvRoom l k) (hd : 0 < d) (h1 : d ≤ rm) (h2 : d ≤ mvRoom l m) : 0 < d ∧ d ≤ 100000000 ∧ ∀ k ∈ pre ++ [m], d ≤ mvRoom l k := by
  refine ⟨hd, by omega, fun k hk => ?_⟩
  rcases List.mem_append.1 hk with h3 | h3
  · have := h.2.2 k h3; omega
  · rw [List.mem_singleton] at h3; subst h3; exact h2
/-- What the reference's greatest answers. -/
def RgPost (N s t : Nat) (ar : List (Int × Int × Int)) (w : World) (e : Ending) (w' : World) : Prop :=
  ∃ (l : List Ar) (v : Value), e = .returned v ∧ Best N s t ar l (gain l s) ∧ IntSl w' v (xsOf l) ∧ Below w.heap.size w w'
set_option maxHeartbeats 64000000 in
theorem d_greatest (N s t : Nat) (L : Value) (ar : List (Int × Int × Int)) (hs : s < N) (ht : t < N) (hst : s ≠ t) (w : World) (hL : PtSl w L ar) (hok : ntOk (N : Int) ar = true) :
    Calls Tryz.prog 59 #[ntV (N : Int) L, .int .i64 (s : Int), .int .i64 (t : Int)] w (RgPost N s t ar w) := by
  obtain ⟨A, c, rfl, hc1, hc2⟩ := hL.shape
  have hN64 := (ntOk_iff.1 hok).2.1
  have hl128 := (ntOk_iff.1 hok).2.2.1
  unfold maxLen at hc2
  obtain ⟨W, hW⟩ : ∃ W, W = w.alloc (.cells #[.int .i64 (N : Int), .slice A ar.length c] 44) := ⟨_, rfl⟩
  have B0 : Below w.heap.size w W := by subst hW; exact (Below.refl _ _).alloc (Nat.le_refl _) _
  have HB0 := Lib.hid B0
  have HX := Lib.hid (show W.heap[w.heap.size]? = some (.cells #[.int .i64 (N : Int), .slice A ar.length c] 44 (0, 0)) by subst hW; exact heap_alloc_new _ _)
  have HF := Lib.hid (fun (X : World) (hX : Below W.heap.size W X) => (⟨⟨cell_of ((hX.block _ (at_lt HX.out)).trans HX.out) rfl, cell_of ((hX.block _ (at_lt HX.out)).trans HX.out) rfl⟩, (hL.on B0 (Nat.le_refl _)).on hX (Nat.le_refl _)⟩ : (X.cell? ⟨w.heap.size, 0, none⟩ = some (.int .i64 (N : Int)) ∧ X.cell? ⟨w.heap.size, 1, none⟩ = some (.slice A ar.length c)) ∧ PtSl X (.slice A ar.length c) ar))
  have HOK := Lib.hid hok
  have HST := Lib.hid (And.intro hs (And.intro ht hst))
  have HRE := Lib.hid (fun (l : List Ar) (v : Value) (X : World) (hX : PtSl X (.slice A ar.length c) ar) (hF : IntSl X v (xsOf l)) (he : ends l = ends (arsOf ar)) (hx : ∀ a ∈ l, 0 ≤ a.x ∧ a.x ≤ a.cap) => c_reached N s (.slice A ar.length c) ar l v hs X hX hF hok he hx)
  unfold ntV at HRE ⊢
  clear B0 hL hok hst
  obtain ⟨⟨x0, x1⟩, -⟩ := HF.out W (Below.refl _ _)
  have hWs : w.heap.size < W.heap.size := by rw [hW]; simp
  obtain ⟨i0, hi0, hzz0, hzz1, hzz2⟩ := info_parts int_info
  rw [hW] at x0 x1
  go_enter Tryz.func59, Tryz.ntmps59
  go_wp2_with (at_make; rw [← hW]; refine wpList_make_full (P := Tryz.prog) _ rfl _ _ 69 rfl W.heap.size 3 i0 (.int .i64 0) 1 Tryz.underlying69 hi0 hzz0 hzz1 .i64 .i64 _ _ ar.length rfl rfl rfl rfl (by rw [hzz2]; omega) (by unfold maxLen; omega) (Nat.le_refl _) ?_; intro w1 ho1 hg1; have HO1 := Lib.hid (own_block1 ho1); have HBE1 := Lib.hid ((Below.refl W.heap.size W).grown hg1 (Nat.le_refl _) (fun k hk => by cases hk)); clear ho1 hg1; rw [show (Value.int .i64 0).cells = #[.int .i64 0] from rfl, Nat.mul_one, toList_madeCells_one] at HO1; have HS1 := Lib.hid (show NumAt w1 W.heap.size (xsOf (arsOf ar)) by rw [xsOf_none]; unfold NumAt; rw [HO1.out]; simp [ints]); obtain ⟨g, hg⟩ : ∃ g, g = W.heap.size := ⟨_, rfl⟩; rw [← hg] at HS1 ⊢; have hgW : W.heap.size ≤ g := (by omega); have hgl : g < w1.heap.size := at_lt HS1.out; clear hg HO1)
  clear x0 x1 hW
  go_loopg [] (100000000 * ar.length) (fun gk wr => ∃ (l : List Ar), Hid (GrI N s t ar l gk) ∧ Hid (NumAt wr g (xsOf l)) ∧ Hid (Below W.heap.size W wr))
  case atStart => exact ⟨arsOf ar, Lib.hid (GrI.start HOK.out), HS1, HBE1⟩
  case round =>
    obtain ⟨l, hI, hS, hB⟩ := hrel
    obtain ⟨wa, hwa⟩ : ∃ z, z = wr := ⟨_, rfl⟩
    subst hwa
    obtain ⟨⟨x0, x1⟩, pt⟩ := HF.out wa hB.out
    have hxl : (xsOf l).length = ar.length := by
      have := congrArg List.length hI.out.ends_
      rw [ends_len0, ends_len0, arsOf_len] at this
      unfold xsOf
      rw [List.length_map]
      exact this
    have HFL := Lib.hid (show IntSl wa (.slice (some ⟨g, 0, none⟩) ar.length ar.length) (xsOf l) by have h := hS.out.sl (by rw [hxl]; unfold maxLen; omega); rwa [hxl] at h)
    have HRC := Lib.hid (HRE.out l _ wa pt HFL.out hI.out.ends_ hI.out.flow.fits)
    have HXL := Lib.hid hxl
    clear pt hxl
    go_wp2_with (fail)
    clear x0 x1
    go_at_call 94
    refine HRC.out.mono ?_
    rintro e wb ⟨gb, B, seen, rfl, hSB, hgb, hR, hC, hBb⟩
    have HSB := Lib.hid hSB
    have HR := Lib.hid hR
    have HCL := Lib.hid hC
    have HB2 := Lib.hid (below_join hB.out hBb hB.out.size)
    have HS2 := Lib.hid (hS.out.on hBb (Nat.le_refl _))
    have hgga : g < wa.heap.size := at_lt hS.out
    have hggb : g < gb := by omega
    obtain ⟨bt, hbt⟩ : ∃ x, B[t]? = some x := ⟨_, List.getElem?_eq_getElem (by rw [hR.len]; exact ht)⟩
    obtain ⟨-, -, -, ct⟩ := HSB.out.cells hbt
    have HIT := Lib.hid (hR.is_ t bt hbt)
    have htc : (t : Int) < (N : Int) := by omega
    have hti : ((t : Nat) : Int).toNat = t := by omega
    clear hSB hR hC hBb hbt
    rcases hbi : bt.is with _ | _
    · have HE := Lib.hid (show RgPost N s t ar w (.returned (.slice (some ⟨g, 0, none⟩) ar.length ar.length)) wb from
        ⟨l, _, rfl, ⟨hI.out.flow, hI.out.ends_, rfl, fun h => by
          have h2 := HIT.out.2 ((HR.out.done HCL.out t).1 h)
          rw [hbi] at h2
          cases h2⟩, by have h := HS2.out.sl (by rw [HXL.out]; unfold maxLen; omega); rwa [HXL.out] at h, below_join HB0.out HB2.out HB0.out.size⟩)
      rw [hbi] at ct
      clear hbi
      go_wp2_with (fail)
      go_ret
      exact HE.out
    · obtain ⟨ms, hch, hpath, hroom, hnd⟩ := HR.out.path (HIT.out.1 hbi)
      have HCH := Lib.hid hch
      have HPA := Lib.hid hpath
      have HRO := Lib.hid hroom
      have HND := Lib.hid hnd
      rw [hbi] at ct
      clear hch hpath hroom hnd hbi
      go_wp2_with (fail)
      clear ct
      obtain ⟨gk0, hgk0⟩ : ∃ z, z = gk := ⟨_, rfl⟩
      subst hgk0
      go_loopg [9, 10] ms.length (fun gk r vv wr => ∃ (pre rest : List Nat) (v : Nat) (rm : Int), rest.length = gk ∧ r = .int .i64 rm ∧ vv = .int .i64 (v : Int) ∧ Hid (pre ++ rest = ms) ∧ Hid (PathTo l B s v rest) ∧ Hid (0 < rm ∧ rm ≤ 100000000 ∧ ∀ m ∈ pre, rm ≤ mvRoom l m) ∧ Hid (NumAt wr g (xsOf l)) ∧ Hid (StpAt wr gb B) ∧ Hid (Below W.heap.size W wr))
      case atStart => exact ⟨[], ms, t, 100000000, rfl, rfl, rfl, Lib.hid rfl, HPA, Lib.hid ⟨by omega, by omega, fun m hm => by cases hm⟩, HS2, HSB, HB2⟩
      case round =>
        obtain ⟨pre, rest, v, rm, hrl, rfl, rfl, hpr, hpa, hrm, hS3, hT3, hB3⟩ := hrel
        obtain ⟨wc, hwc⟩ : ∃ z, z = wr := ⟨_, rfl⟩
        subst hwc
        rcases rest with _ | ⟨m, rest⟩
        · have hvs : s = v := hpa.out.symm
          subst hvs
          have HRM := Lib.hid (show 0 < rm ∧ rm ≤ 100000000 ∧ ∀ m ∈ ms, rm ≤ mvRoom l m from ⟨hrm.out.1, hrm.out.2.1, fun m hm => hrm.out.2.2 m (by have h := hpr.out; rw [List.append_nil] at h; rw [h]; exact hm)⟩)
          clear hrl hpr hpa hrm
          have hnn : ((s : Int) == (s : Int)) = true := by simp
          go_wp2_with (fail)
          clear hnn

          obtain ⟨gk1, hgk1⟩ : ∃ z, z = gk := ⟨_, rfl⟩
          subst hgk1
          go_loopg [12] ms.length (fun gk vv wr => ∃ (pre rest : List Nat) (v : Nat), rest.length = gk ∧ vv = .int .i64 (v : Int) ∧ Hid (pre ++ rest = ms) ∧ Hid (PathTo l B s v rest) ∧ Hid (NumAt wr g (xsOf (sends l pre rm))) ∧ Hid (StpAt wr gb B) ∧ Hid (Below W.heap.size W wr))
          case atStart => exact ⟨[], ms, t, rfl, rfl, Lib.hid rfl, HPA, hS3, hT3, hB3⟩
          case round =>
            obtain ⟨pre, rest, v, hrl, rfl, hpr, hpa, hS4, hT4, hB4⟩ := hrel
            obtain ⟨wd, hwd⟩ : ∃ z, z = wr := ⟨_, rfl⟩
            subst hwd
            rcases rest with _ | ⟨m, rest⟩
            · have hvs : s = v := hpa.out.symm
              subst hvs
              have HPE := Lib.hid (show pre = ms by have h := hpr.out; rw [List.append_nil] at h; exact h)
              have HNE := Lib.hid (hI.out.next (d := rm) HOK.out HST.out.1 HST.out.2.2 HRM.out.1 HCH.out HRM.out.2.2 HND.out)
              clear hrl hpr hpa
              have hnn : ((s : Int) == (s : Int)) = true := by simp
              go_wp2_with (fail)
              go_roundg (gk0 - rm.toNat)
              case measure => exact HNE.out.2
              case rel => exact ⟨sends l ms rm, Lib.hid HNE.out.1, by rw [HPE.out] at hS4; exact hS4, hB4⟩
            · obtain ⟨hvs, hvN, i, u, b, ⟨au, av, ac, ax⟩, pp, hBv, hm, hil, hpp, hla, hpe, hx0, hx1, hx2, hr0, hrv, hnx⟩ := hI.out.step HOK.out HR.out.len hpa.out
              have hla2 : (sends l pre rm)[i]? = some ⟨au, av, ac, ax⟩ := by
                rw [sends_other pre l i (fun k hk e => ?_)]
                · exact hla
                · have h1 := HND.out
                  rw [← hpr.out, List.map_append, List.nodup_append] at h1
                  exact h1.2.2 (k / 2) (List.mem_map.2 ⟨k, hk, rfl⟩) (m / 2) (by simp) (by rw [e, hm, mvOf_div])
              obtain ⟨c0, c1, c2, -⟩ := hT4.out.cells hBv
              have f0 : wd.cell? ⟨g, i, none⟩ = some (.int .i64 ax) := hS4.out.cell (by unfold xsOf; rw [List.getElem?_map, hla2]; rfl)
              have e0 := hS4.out.frz i
              have hnn : ((v : Int) == (s : Int)) = false := by rw [beq_eq_false_iff_ne]; omega
              have hvc : (v : Int) < (N : Int) := by omega
              have hvi : ((v : Nat) : Int).toNat = v := by omega
              have hic : (i : Int) < (ar.length : Int) := by omega
              have hii : ((i : Nat) : Int).toNat = i := by omega
              have hw1 : ¬ g = gb := by omega
              have hw2 : ¬ gb = g := by omega
              simp only at hx0 hx1 hx2 hrv
              have hrm2 := HRM.out.2.2 m (by rw [← hpr.out]; simp)
              have HNX := Lib.hid hnx
              have HPR := Lib.hid (show (pre ++ [m]) ++ rest = ms by rw [List.append_assoc]; exact hpr.out)
              have HRL := Lib.hid (show rest.length = gk - 1 ∧ gk - 1 < gk by rw [List.length_cons] at hrl; omega)
              have HX := Lib.hid (And.intro hx0 (And.intro hx1 hx2))
              have HXS := Lib.hid (show xsOf (sends l (pre ++ [m]) rm) = (xsOf (sends l pre rm)).set i (ax + (if b = true then -rm else rm)) by rw [sends_snoc, hm]; exact xsOf_send hla2)
              clear hBv hnx hpr hpa hrl hm hr0 hla hla2 hvs hpp hpe
              cases b
              · have hwr : IntKind.i64.wrap (ax + rm) = ax + rm := by rw [if_neg (by decide)] at hrv; have := HRM.out.2.1; have := HRM.out.1; simp [IntKind.wrap, IntKind.bits, IntKind.signed]; omega
                have HXS2 := Lib.hid (show xsOf (sends l (pre ++ [m]) rm) = (xsOf (sends l pre rm)).set i (ax + rm) from HXS.out)
                clear hrv hrm2
                go_wp2_with (fail)
                obtain ⟨we, hwe⟩ : ∃ Z, Z = wd.setCell ⟨g, i, none⟩ (.int .i64 (ax + rm)) := ⟨_, rfl⟩
                have HS5 := Lib.hid (show NumAt we g (xsOf (sends l (pre ++ [m]) rm)) by rw [hwe, HXS2.out]; exact hS4.out.set i _)
                have HT5 := Lib.hid (show StpAt we gb B by rw [hwe]; exact (Below.heap_setCell _ ⟨g, i, none⟩ _ gb hw2).trans hT4.out)
                have HB5 := Lib.hid (show Below W.heap.size W we by rw [hwe]; exact hB4.out.setCell (p := ⟨g, i, none⟩) hgW _)
                rw [← hwe]
                go_roundg (gk - 1)
                case measure => exact HRL.out.2
                case rel => exact ⟨pre ++ [m], rest, u, HRL.out.1, rfl, HPR, HNX, HS5, HT5, HB5⟩
              · have hwr : IntKind.i64.wrap (ax - rm) = ax - rm := by rw [if_pos rfl] at hrv; have := HRM.out.2.1; have := HRM.out.1; simp [IntKind.wrap, IntKind.bits, IntKind.signed]; omega
                have HXS2 := Lib.hid (show xsOf (sends l (pre ++ [m]) rm) = (xsOf (sends l pre rm)).set i (ax - rm) from HXS.out)
                clear hrv hrm2
                go_wp2_with (fail)
                obtain ⟨we, hwe⟩ : ∃ Z, Z = wd.setCell ⟨g, i, none⟩ (.int .i64 (ax - rm)) := ⟨_, rfl⟩
                have HS5 := Lib.hid (show NumAt we g (xsOf (sends l (pre ++ [m]) rm)) by rw [hwe, HXS2.out]; exact hS4.out.set i _)
                have HT5 := Lib.hid (show StpAt we gb B by rw [hwe]; exact (Below.heap_setCell _ ⟨g, i, none⟩ _ gb hw2).trans hT4.out)
                have HB5 := Lib.hid (show Below W.heap.size W we by rw [hwe]; exact hB4.out.setCell (p := ⟨g, i, none⟩) hgW _)
                rw [← hwe]
                go_roundg (gk - 1)
                case measure => exact HRL.out.2
                case rel => exact ⟨pre ++ [m], rest, u, HRL.out.1, rfl, HPR, HNX, HS5, HT5, HB5⟩
        · obtain ⟨hvs, hvN, i, u, b, ⟨au, av, ac, ax⟩, pp, hBv, hm, hil, hpp, hla, hpe, hx0, hx1, hx2, hr0, hrv, hnx⟩ := hI.out.step HOK.out HR.out.len hpa.out
          obtain ⟨c0, c1, c2, -⟩ := hT3.out.cells hBv
          have f0 : wc.cell? ⟨g, i, none⟩ = some (.int .i64 ax) := hS3.out.cell (by unfold xsOf; rw [List.getElem?_map, hla]; rfl)
          have hnn : ((v : Int) == (s : Int)) = false := by rw [beq_eq_false_iff_ne]; omega
          have hvc : (v : Int) < (N : Int) := by omega
          have hvi : ((v : Nat) : Int).toNat = v := by omega
          have hic : (i : Int) < (ar.length : Int) := by omega
          have hii : ((i : Nat) : Int).toNat = i := by omega
          simp only at hx0 hx1 hx2 hrv
          have HNX := Lib.hid hnx
          have HPR := Lib.hid (show (pre ++ [m]) ++ rest = ms by rw [List.append_assoc]; exact hpr.out)
          have HRL := Lib.hid (show rest.length = gk - 1 ∧ gk - 1 < gk by rw [List.length_cons] at hrl; omega)
          have HX := Lib.hid (And.intro hx0 (And.intro hx1 hx2))
          have HRV := Lib.hid (And.intro hr0 hrv)
          have HM := Lib.hid hm
          clear hBv hnx hpr hpa hrl hm hr0 hrv hla hvs
          cases b
          · obtain ⟨⟨x0, x1⟩, pt⟩ := HF.out wc hB3.out
            obtain ⟨rb, ro, rc, e, hrb, -, -, z0, z1, z2⟩ := pt.at_ hpp
            injection e with e1 hle e2
            clear hle
            subst hpe e1 e2
            simp only at z0 z1 z2
            have hwr : IntKind.i64.wrap (ac - ax) = ac - ax := by simp [IntKind.wrap, IntKind.bits, IntKind.signed]; omega
            clear pt hpp
            have HRW := Lib.hid (show mvRoom l m = ac - ax by have h := HRV.out.2; rw [if_neg (by decide)] at h; exact h)
            rcases Int.lt_or_le (ac - ax) rm with hcm | hcm

            · have HRN := Lib.hid (room_step (m := m) hrm.out (d := ac - ax) (by have h := HRV.out.1; rw [HRW.out] at h; exact h) (by omega) (by rw [HRW.out]; omega))
              go_wp2_with (fail)
              go_quiet (fail)
              obtain ⟨wd, hwd⟩ : ∃ Z, Z = wc.drewN nq := ⟨_, rfl⟩
              have HS4 := Lib.hid (show NumAt wd g (xsOf l) by rw [hwd]; exact hS3.out)
              have HT4 := Lib.hid (show StpAt wd gb B by rw [hwd]; exact hT3.out)
              have HB4 := Lib.hid (show Below W.heap.size W wd by rw [hwd]; exact below_drewN hB3.out)
              have c1' : wd.cell? ⟨gb, v * 4 + 1, none⟩ = some (.int .i64 (u : Int)) := by rw [hwd]; exact c1
              rw [← hwd]
              clear hwd c0 c1 c2 f0 x0 x1 z0 z1 z2
              go_wp2_with (fail)
              go_roundg (gk - 1)
              case measure => exact HRL.out.2
              case rel => exact ⟨pre ++ [m], rest, u, ac - ax, HRL.out.1, rfl, rfl, HPR, HNX, HRN, HS4, HT4, HB4⟩
            · have HRN := Lib.hid (room_step (m := m) hrm.out (d := rm) hrm.out.1 (by omega) (by rw [HRW.out]; omega))
              go_wp2_with (fail)
              go_quiet (fail)
              obtain ⟨wd, hwd⟩ : ∃ Z, Z = wc.drewN nq := ⟨_, rfl⟩
              have HS4 := Lib.hid (show NumAt wd g (xsOf l) by rw [hwd]; exact hS3.out)
              have HT4 := Lib.hid (show StpAt wd gb B by rw [hwd]; exact hT3.out)
              have HB4 := Lib.hid (show Below W.heap.size W wd by rw [hwd]; exact below_drewN hB3.out)
              have c1' : wd.cell? ⟨gb, v * 4 + 1, none⟩ = some (.int .i64 (u : Int)) := by rw [hwd]; exact c1
              rw [← hwd]
              clear hwd c0 c1 c2 f0 x0 x1 z0 z1 z2
              go_wp2_with (fail)
              go_roundg (gk - 1)
              case measure => exact HRL.out.2
              case rel => exact ⟨pre ++ [m], rest, u, rm, HRL.out.1, rfl, rfl, HPR, HNX, HRN, HS4, HT4, HB4⟩
          · clear hpp hpe
            rcases Int.lt_or_le ax rm with hcm | hcm
            · have HRN := Lib.hid (room_step (m := m) hrm.out (d := ax) (by have h := HRV.out; rw [if_pos rfl] at h; omega) (by omega) (by have h := HRV.out; rw [if_pos rfl] at h; omega))
              go_wp2_with (fail)
              go_roundg (gk - 1)
              case measure => exact HRL.out.2
              case rel => exact ⟨pre ++ [m], rest, u, ax, HRL.out.1, rfl, rfl, HPR, HNX, HRN, hS3, hT3, hB3⟩
            · have HRN := Lib.hid (room_step (m := m) hrm.out (d := rm) hrm.out.1 (by omega) (by have h := HRV.out; rw [if_pos rfl] at h; omega))
              go_wp2_with (fail)
              go_roundg (gk - 1)
              case measure => exact HRL.out.2
              case rel => exact ⟨pre ++ [m], rest, u, rm, HRL.out.1, rfl, rfl, HPR, HNX, HRN, hS3, hT3, hB3⟩
end Go.Proofs.YtidpiokkfnhobaaGreat.v5

namespace Go.Proofs.YtidpiokkfnhobaaGreat.v5
open Go.RowKit Go.Shelf
set_option maxRecDepth 100000
set_option linter.unusedSimpArgs false
set_option linter.unusedVariables false

theorem nfault_ok {N s t : Nat} {L : List (Int × Int × Int)} (hok : ntOk (N : Int) L = true) (hs : s < N) (ht : t < N) (hst : s ≠ t) : nfault (N : Int) L (s : Int) (t : Int) = 0 := by
  unfold nfault
  rw [if_pos hok, show ndOk (N : Int) (s : Int) = true from ndOk_iff.2 (by omega), show ndOk (N : Int) (t : Int) = true from ndOk_iff.2 (by omega)]
  have : ((s : Int) == (t : Int)) = false := by rw [beq_eq_false_iff_ne]; omega
  rw [this]; rfl
/-- A greatest flow passes the check, with its value. -/
theorem chk_best {N s t : Nat} {L : List (Int × Int × Int)} {lf : List Ar} {v : Int} (h : Best N s t L lf v) (hok : ntOk (N : Int) L = true) (hs : s < N) (ht : t < N) (hst : s ≠ t) : chkV (N : Int) L (s : Int) (t : Int) (xsOf lf) = (v, 0) := by
  obtain ⟨b1, b2⟩ := best_fit h hok
  have hf : fitB L (xsOf lf) = true := fitB_iff.2 ⟨b1, fun i hi => ⟨(b2 i hi).1, (b2 i hi).2.1⟩⟩
  have hz : zipX L (xsOf lf) = lf := zip_self h.ends_
  have he : (List.range (N : Int).toNat).all (evenAt lf (s : Int) (t : Int)) = true := by
    rw [List.all_eq_true]
    intro n hn
    have hn := List.mem_range.1 hn
    unfold evenAt
    by_cases e1 : n = s
    · subst e1; simp
    · by_cases e2 : n = t
      · subst e2; simp
      · rw [h.flow.even n (by omega) e1 e2]; rfl
  unfold chkV
  rw [if_pos (nfault_ok hok hs ht hst), if_pos hf, hz, if_pos he, Int.toNat_natCast, h.value]
/-- What the reference's Max returns for a net and two nodes. -/
def RmPost (N s t : Nat) (l : List (Int × Int × Int)) (w : World) (e : Ending) (w' : World) : Prop :=
  ∃ (lf : List Ar) (val : Int) (v : Value), e = .returned (.tuple #[.int .i64 val, v, .int .i64 0]) ∧ Best N s t l lf val ∧ IntSl w' v (xsOf lf) ∧ Below w.heap.size w w'
set_option maxHeartbeats 8000000 in
theorem d_Max0 (N s t : Nat) (L : Value) (l : List (Int × Int × Int)) (hs : s < N) (ht : t < N) (hst : s ≠ t) (w : World) (hL : PtSl w L l) (hok : ntOk (N : Int) l = true) :
    Calls Tryz.prog 39 #[ntV (N : Int) L, .int .i64 (s : Int), .int .i64 (t : Int)] w (RmPost N s t l w) := by
  obtain ⟨A, c, rfl, hc1, hc2⟩ := hL.shape
  obtain ⟨W, hW⟩ : ∃ W, W = w.alloc (.cells #[.int .i64 (N : Int), .slice A l.length c] 44) := ⟨_, rfl⟩
  have B0 : Below w.heap.size w W := by subst hW; exact (Below.refl _ _).alloc (Nat.le_refl _) _
  have HB0 := Lib.hid B0
  have HX := Lib.hid (show W.heap[w.heap.size]? = some (.cells #[.int .i64 (N : Int), .slice A l.length c] 44 (0, 0)) by subst hW; exact heap_alloc_new _ _)
  have HP := Lib.hid (fun (X : World) (hX : Below W.heap.size W X) => (⟨⟨cell_of ((hX.block _ (at_lt HX.out)).trans HX.out) rfl, cell_of ((hX.block _ (at_lt HX.out)).trans HX.out) rfl⟩, (hL.on B0 (Nat.le_refl _)).on hX (Nat.le_refl _)⟩ : (X.cell? ⟨w.heap.size, 0, none⟩ = some (.int .i64 (N : Int)) ∧ X.cell? ⟨w.heap.size, 1, none⟩ = some (.slice A l.length c)) ∧ PtSl X (.slice A l.length c) l))
  have HF := Lib.hid (fun (X : World) (hX : PtSl X (.slice A l.length c) l) => d_asked (N : Int) (.slice A l.length c) l (s : Int) (t : Int) X hX 0 (nfault_ok hok hs ht hst))
  have HG := Lib.hid (fun (X : World) (hX : PtSl X (.slice A l.length c) l) => d_greatest N s t (.slice A l.length c) l hs ht hst X hX hok)
  have HC := Lib.hid (fun (lf : List Ar) (v : Int) (h : Best N s t l lf v) (F : Value) (X : World) (hX : PtSl X (.slice A l.length c) l) (hF : IntSl X F (xsOf lf)) => d_Check (N : Int) (.slice A l.length c) F l (s : Int) (t : Int) (xsOf lf) X hX hF v 0 (chk_best h hok hs ht hst))
  obtain ⟨⟨x0, x1⟩, pt⟩ := HP.out W (Below.refl _ _)
  have HF1 := Lib.hid (HF.out W pt)
  unfold ntV at HF1 HG HC ⊢
  clear B0 hL hok hst pt HF
  rw [hW] at x0 x1
  go_enter Tryz.func39, Tryz.ntmps39
  go_wp2_with (fail)
  rw [← hW]
  clear hW x0 x1
  go_at_call 58
  refine HF1.out.mono ?_
  rintro e w1 ⟨rfl, hb⟩
  obtain ⟨⟨x0, x1⟩, pt⟩ := HP.out w1 hb
  have HB1 := Lib.hid hb
  have HG1 := Lib.hid (HG.out w1 pt)
  clear hb pt
  go_wp2_with (fail)
  clear x0 x1
  go_at_call 59
  refine HG1.out.mono ?_
  rintro e w2 ⟨lf, F, rfl, hbest, hF, hb⟩
  have HB2 := Lib.hid (below_join HB1.out hb HB1.out.size)
  obtain ⟨⟨x0, x1⟩, pt⟩ := HP.out w2 HB2.out
  have HBE := Lib.hid hbest
  have HI := Lib.hid hF
  have HC1 := Lib.hid (HC.out lf _ hbest F w2 pt hF)
  obtain ⟨val, hval⟩ : ∃ v, v = gain lf s := ⟨_, rfl⟩
  rw [← hval] at HC1 HBE
  clear hb pt hbest hF hval
  go_wp2_with (fail)
  clear x0 x1
  go_at_call 60
  refine HC1.out.mono ?_
  rintro e w3 ⟨rfl, hb⟩
  have HB3 := Lib.hid (below_join HB2.out hb HB2.out.size)
  have HI3 := Lib.hid (HI.out.on hb (Nat.le_refl _))
  clear hb
  go_wp2_with (fail)
  exact retTTT rfl rfl rfl rfl rfl ⟨lf, val, F, rfl, HBE.out, HI3.out, below_join HB0.out HB3.out HB0.out.size⟩
end Go.Proofs.YtidpiokkfnhobaaGreat.v5

namespace Go.Proofs.YtidpiokkfnhobaaGreat.v5
open Go.RowKit Go.Shelf
set_option maxRecDepth 100000

theorem pt_fields : Tryz.prog.underlying 67 = some (.struct (Tryz.prog.fieldsOf 67)) := by kernel_rfl
theorem pt_list : (Tryz.prog.fieldsOf 67).toList.map (fun f => (f.name, f.type, f.offset)) = [("From", 3, 0), ("To", 3, 1), ("Cap", 3, 2)] := by kernel_rfl
theorem pt_stood : Tryz.prog.stoodInHeld 67 = false := by kernel_rfl
theorem pt_guard : Tryz.prog.eqGuardType Tryz.prog.depth 67 = false := by kernel_rfl
theorem guardPt (op : BinOp) (x y : Operand) (xs ys : Array Value) (w : World) : (eqGuard op 67 x y (.agg xs) (.agg ys)).run Tryz.prog w = .ok () w := run_eqGuard_agg w op _ x y xs ys pt_guard
theorem eqFieldsPt (a b c d e f : Int) (w : World) : (Op.eqFields 9999 #[.int .i64 a, .int .i64 c, .int .i64 e] #[.int .i64 b, .int .i64 d, .int .i64 f] (Tryz.prog.fieldsOf 67).toList).run Tryz.prog w = .ok ((a == b) && ((c == d) && (e == f))) w := by
  obtain ⟨f1, f2, f3, he, h1, h2, h3⟩ : ∃ f1 f2 f3 : Field, (Tryz.prog.fieldsOf 67).toList = [f1, f2, f3] ∧ (f1.name, f1.type, f1.offset) = ("From", 3, 0) ∧ (f2.name, f2.type, f2.offset) = ("To", 3, 1) ∧ (f3.name, f3.type, f3.offset) = ("Cap", 3, 2) := by
    have := pt_list
    match h : (Tryz.prog.fieldsOf 67).toList with
    | [f1, f2, f3] => rw [h] at this; simp only [List.map_cons, List.map_nil, List.cons.injEq] at this; exact ⟨f1, f2, f3, rfl, this.1, this.2.1, this.2.2.1⟩
    | [] => rw [h] at this; cases this
    | [f] => rw [h] at this; simp at this
    | [f, g] => rw [h] at this; simp at this
    | f :: g :: i :: j :: r => rw [h] at this; simp at this
  rw [he]
  obtain ⟨fn, ft, fo⟩ : f1.name = "From" ∧ f1.type = 3 ∧ f1.offset = 0 := by simpa using h1
  obtain ⟨gn, gt, go⟩ : f2.name = "To" ∧ f2.type = 3 ∧ f2.offset = 1 := by simpa using h2
  obtain ⟨kn, kt, ko⟩ : f3.name = "Cap" ∧ f3.type = 3 ∧ f3.offset = 2 := by simpa using h3
  simp only [Op.eqFields, fn, ft, fo, gn, gt, go, kn, kt, ko]
  cases hab : (a == b) <;> cases hcd : (c == d) <;> cases hef : (e == f) <;> simp [go_sem, hab, hcd, hef]
theorem neqPt (a b c d e f : Int) (w : World) : (binOp .neq 67 (.agg #[.int .i64 a, .int .i64 c, .int .i64 e]) (.agg #[.int .i64 b, .int .i64 d, .int .i64 f])).run Tryz.prog w = .ok (.bool (!((a == b) && ((c == d) && (e == f))))) w := by
  rw [run_neq_struct, run_equalIn_agg w 9999 _ _ _ pt_fields pt_stood, eqFieldsPt]
  rfl
end Go.Proofs.YtidpiokkfnhobaaGreat.v5
