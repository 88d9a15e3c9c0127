/-
  DERIVED. leaving: an iterator over the moves of a node that have room (stage 5).
-/
import Derived.Test.YtglpaihadongkaaBA
import Derived.Test.YtglpaihadongkaaAG
namespace Go.Proofs.Ytglpaihadongkaa
open Go.RowKit Go.Shelf
attribute [local go_sem] Oper.semAt_some
set_option maxRecDepth 100000

/-- One move is yielded. -/
def okN (v : Array Value) (x : Nat) : Prop := v = #[.int .i64 (x : Int)]
/-- A move has room, or none: R lies at ⟨b, o⟩. -/
def opR (b o : Nat) (X : World) (t : Nat) : Prop := ∃ x : Int, 0 < x ∧ X.cell? ⟨b, o + t, none⟩ = some (.int .i64 x)
def clR (b o : Nat) (X : World) (t : Nat) : Prop := ∃ x : Int, x ≤ 0 ∧ X.cell? ⟨b, o + t, none⟩ = some (.int .i64 x)
theorem cell_block {X : World} {b o : Nat} {v : Value} (h : X.cell? ⟨b, o, none⟩ = some v) : ∃ cs t fr, X.heap[b]? = some (.cells cs t fr) := by
  obtain ⟨ob, hob, hcl⟩ := cells_of_cell h
  cases ob with
  | cells cs t fr => exact ⟨cs, t, fr, hob⟩
  | _ => cases hcl
theorem opR.below {b o t : Nat} {X Y : World} (h : opR b o X t) (hb : Below X.heap.size X Y) : opR b o Y t := by
  obtain ⟨x, h0, h1⟩ := h
  obtain ⟨cs, T, fr, hc⟩ := cell_block h1
  exact ⟨x, h0, (hb.cell (p := ⟨b, o + t, none⟩) (at_lt hc)).trans h1⟩
theorem opR.put {b o t : Nat} {X : World} {l : Nat} {ob ob' : Obj} (h : opR b o X t) (hl : X.heap[l]? = some ob) (hc : ob.isCells = false) : opR b o (X.putObj l ob') t := by
  obtain ⟨x, h0, h1⟩ := h
  obtain ⟨cs, T, fr, hb⟩ := cell_block h1
  refine ⟨x, h0, ?_⟩
  rw [← h1]
  exact World.cell?_of_block ((put_cells hb hl hc).trans hb.symm)
theorem take_snoc {α : Type} {l : List α} {k : Nat} {x : α} (h : l[k]? = some x) : l.take (k + 1) = l.take k ++ [x] := by
  obtain ⟨hk, e⟩ := List.getElem?_eq_some_iff.1 h
  rw [List.take_succ_eq_append_getElem hk, e]
def nats (l : List Nat) : List Int := List.map (fun k : Nat => (k : Int)) l
theorem nats_get {l : List Nat} {k : Nat} {x : Nat} (h : l[k]? = some x) : (nats l)[k]? = some (x : Int) := by simp [nats, h]
theorem nats_len (l : List Nat) : (nats l).length = l.length := by simp [nats]
set_option maxHeartbeats 4000000 in
theorem c_leaving (E R M : Value) (n : Int) (w : World) :
    Calls Try.prog 45 #[.agg #[E, R, M], .int .i64 n] w fun e w' => e = .returned (.func (.func 49) #[] #[.pointer (some ⟨w.heap.size, 0, none⟩), .pointer (some ⟨w.heap.size + 1, 0, none⟩)]) ∧
      w' = (w.alloc (.cells #[E, R, M] 64)).alloc (.cells #[.int .i64 n] 3) := by
  go_enter Try.func45, Try.ntmps45
  go_wp2_with (fail)
  exact bodyPost_ret (by simp [results, go_sem]) rfl ⟨rfl, rfl⟩
/-- Between two rounds of leaving. -/
def LeI (Gd : Nat → Prop) (w : World) (S n : Nat) (ts : List Nat) (J : List Nat → World → Prop) (i : Value) (wr : World) : Prop :=
  ∃ (k : Nat) (pre : List Nat), i = .int .i64 (k : Int) ∧ k ≤ n ∧ Hid (pre = ts.take k) ∧ Hid (KpG Gd w wr) ∧ S ≤ wr.heap.size ∧ J pre wr
set_option maxHeartbeats 4000000 in
theorem c_leaving1 (d : Nat) (hd : 1 ≤ d) (Gd : Nat → Prop) (br bn bR oR nR cR bM oM nM cM : Nat) (E : Value) (p : Nat) (A : Option Addr) (c : Nat) (ts : List Nat) (RV : Value) (hn : ts.length ≤ 100000) (hp : p < nM ∧ nM ≤ cM ∧ cM ≤ maxLen) (hR : ∀ t ∈ ts, t < nR) (hRc : 0 < ts.length → RV = .slice (some ⟨bR, oR, none⟩) nR cR ∧ nR ≤ cR ∧ cR ≤ maxLen)
    (w : World) (gr : Gd br) (gn : Gd bn) (h1 : w.heap[br]? = some (.cells #[E, RV, .slice (some ⟨bM, oM, none⟩) nM cM] 64 (0, 0))) (h2 : Boxed w bn 3 (.int .i64 (p : Int)))
    (hM : ∀ X, KpG Gd w X → X.cell? ⟨bM, oM + p, none⟩ = some (.slice A ts.length c) ∧ IntSl X (.slice A ts.length c) (nats ts)) :
    SeqIt d Try.prog 49 #[.pointer (some ⟨br, 0, none⟩), .pointer (some ⟨bn, 0, none⟩)] 0 Gd okN (opR bR oR) (clR bR oR) ts w := by
  intro lp J Jx W hKW hlp hJE _ hrd hsk hY h0
  have hinit : LeI Gd w W.heap.size ts.length ts J (.int .i64 0) W := ⟨0, [], rfl, Nat.zero_le _, Lib.hid rfl, Lib.hid hKW, Nat.le_refl _, h0⟩
  have HY := Lib.hid hY
  have HJ := Lib.hid hJE
  have HRD := Lib.hid hrd
  have HSK := Lib.hid hsk
  have HI := Lib.hid hinit
  have HRC := Lib.hid hRc
  have HRL := Lib.hid hR
  have HX := Lib.hid (fun (X : World) (hX : KpG Gd w X) => (⟨cell_of (hX.same _ _ _ _ gr h1) rfl, (hM X hX).2⟩ : X.cell? ⟨br, 1, none⟩ = some RV ∧ IntSl X (.slice A ts.length c) (nats ts)))
  have x0 : W.cell? ⟨br, 2, none⟩ = some (.slice (some ⟨bM, oM, none⟩) nM cM) := cell_of (hKW.same _ _ _ _ gr h1) rfl
  have x1 : W.cell? ⟨bn, 0, none⟩ = some (.int .i64 (p : Int)) := (show Boxed W bn 3 (.int .i64 (p : Int)) from hKW.same _ _ _ _ gn h2).cell
  have x2 := (hM W hKW).1
  have hsh : ts.length ≤ c ∧ c ≤ maxLen := by
    obtain ⟨A', c', e, g1, g2⟩ := (hM W hKW).2.shape
    injection e with e1 e2 e3
    subst e3
    rw [nats_len] at g1
    exact ⟨g1, g2⟩
  unfold maxLen at hp hsh
  have hpl' : (p : Int) < (nM : Int) := by omega
  clear hinit hY hJE h0 hrd hsk hR hRc h1 h2 hKW hM
  refine callsIn_of_wp Try.func49 rfl trivial ?_ rfl
  simp only [Try.ntmps49, List.size_toArray, List.length_cons, List.length_nil, Nat.reduceAdd, Nat.reduceSub, Array.replicate_succ, Array.replicate_zero, List.push_toArray, List.append_toArray, List.nil_append, List.cons_append]
  gi_wp2_with (fail)
  gi_loopw [12] (fun i wr => LeI Gd w W.heap.size ts.length ts J i wr) (fun i wr => ts.length - (intOf i).toNat)
  case atStart => exact HI.out
  case round =>
    obtain ⟨k, pre, rfl, hk, hpre, hK, hsz, hj⟩ := hrel
    have HJr := Lib.hid hj
    have hki : ((k : Nat) : Int).toNat = k := by omega
    by_cases hlt : k < ts.length
    · obtain ⟨z, hz⟩ : ∃ z, ts[k]? = some z := ⟨_, List.getElem?_eq_getElem hlt⟩
      obtain ⟨y0, hI⟩ := HX.out wr hK.out
      obtain ⟨hrv, hr1, hr2⟩ := HRC.out (by omega)
      rw [hrv] at y0
      unfold maxLen at hr2
      clear hrv
      obtain ⟨b, o, c', e, hb, -, -, hcell⟩ := hI.at_ (nats_get hz)
      injection e with e1 hle e2
      clear hle
      subst e1 e2
      have hkl : (k : Int) < (ts.length : Int) := by omega
      have hzr : (z : Int) < (nR : Int) := by have := HRL.out z (List.mem_of_getElem? hz); omega
      have HPR := Lib.hid (show pre ++ [z] = ts.take (k + 1) by rw [hpre.out, take_snoc hz])
      have HPF := Lib.hid (show pre ++ [z] <+: ts by rw [HPR.out]; exact List.take_prefix _ _)
      rcases HRD.out pre z wr HJr.out HPF.out with ⟨x, hx, hcx⟩ | ⟨x, hx, hcx⟩
      · obtain ⟨fn, tmps, assign, body, hy, hR⟩ := HY.out pre #[.int .i64 z] z wr HJr.out hsz rfl ⟨x, hx, hcx⟩ HPF.out
        clear hj hz x0 x1 x2 hI
        have hgt : decide (0 < x) = true := decide_eq_true hx
        gi_wp2_with (fail)
        refine hR.mono ?_
        rintro e W3 (⟨rfl, hJ3, hk3⟩ | ⟨rfl, hJx3, -⟩)
        · have HJ3 := Lib.hid hJ3
          have HK3 := Lib.hid (hK.out.trans hk3.good)
          have hz3 := Nat.le_trans hsz hk3.size
          clear hJ3 hy hk3 hcx y0 hcell
          gi_wp2_with (fail)
          refine ⟨⟨k + 1, pre ++ [z], by go_num, by omega, HPR, HK3, hz3, HJ3.out⟩, ?_⟩
          simp only [intOf]; omega
        · have Hx := Lib.hid hJx3
          clear hJx3 hy hcx y0 hcell
          gi_wp2_with (fail)
          refine bodyPost_ret (results_none rfl _ _ _) rfl ?_
          exact ⟨⟨_, rfl⟩, .inr ⟨_, HPF.out, Hx.out⟩⟩
      · have HJS := Lib.hid (HSK.out pre z wr HJr.out HPF.out ⟨x, hx, hcx⟩)
        clear hj hz x0 x1 x2 hI
        have hgt : decide (0 < x) = false := decide_eq_false (by omega)
        gi_wp2_with (fail)
        refine ⟨fun f hf => (by cases hf), ?_⟩
        gi_wp2_with (fail)
        refine ⟨⟨k + 1, pre ++ [z], by go_num, by omega, HPR, hK, hsz, HJS.out⟩, ?_⟩
        simp only [intOf]; omega
    · obtain rfl : k = ts.length := by omega
      have HTE := Lib.hid (show ts = pre by rw [hpre.out, List.take_of_length_le (by omega)])
      clear hj
      gi_wp2_with (fail)
      refine bodyPost_end (results_none rfl _ _ _) rfl ?_
      exact ⟨⟨_, rfl⟩, .inl (by rw [HTE.out]; exact HJr.out)⟩
end Go.Proofs.Ytglpaihadongkaa
