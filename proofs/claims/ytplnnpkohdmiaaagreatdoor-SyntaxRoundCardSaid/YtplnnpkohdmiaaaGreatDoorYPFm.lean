/-
  DERIVED. Several texts in one.
-/
import Derived.Test.YtplnnpkohdmiaaaGreatDoorYPDm
import Derived.Deep.DeepMust
import Derived.Test.YtplnnpkohdmiaaaGreatDoorYFm
set_option linter.unusedVariables false
set_option linter.unusedSimpArgs false

/- DERIVED. The landed parser's clause at the clauses, and text. -/
namespace Go.Proofs.YtplnnpkohdmiaaaGreatDoor
open Go.RowKit
set_option maxRecDepth 100000

theorem cp_clause (pb mb : Nat) (l : List Tok) (hl : l.length ≤ 5000) (en : Int) (w : World) (h : PSt w pb l en) (hm : MapIs w mb clauseFns) (hne : mb ≠ pb) :
    Calls Tryz.prog 50 #[.pointer (some ⟨pb, 0, none⟩), .map (some mb)] w (RdPost pb en w (ClV w.heap.size) (pClause clauseTab l)) := by
  have hfit : (fun t : Tok => (assocB t.text clauseTab).isSome) = fun t => (assocB t.text clauseFns).isSome := by
    funext t
    rcases clause_cases t.text with ⟨e1, e2⟩ | ⟨e1, e2⟩ | ⟨e1, e2⟩ | ⟨e1, e2⟩ | ⟨e1, e2⟩ | ⟨e1, e2⟩ <;> rw [e1, e2] <;> rfl
  unfold pClause
  rw [hfit]
  cases hq1 : pNext (fun t => (assocB t.text clauseFns).isSome) l with
  | error r1 => exact cl_none pb mb clauseFns clauseFns_ok (by simp [assocB, clauseFns, go_sem]) l r1 en w h hm hne hq1 _
  | ok y =>
    obtain ⟨t, r1⟩ := y
    have hr1 := takes_next _ l t r1 hq1
    simp only [bindR]
    rcases clause_cases t.text with ⟨e1, e2⟩ | ⟨e1, e2⟩ | ⟨e1, e2⟩ | ⟨e1, e2⟩ | ⟨e1, e2⟩ | ⟨e1, e2⟩
    · exfalso
      cases l with
      | nil => cases hq1
      | cons a l =>
        simp only [pNext] at hq1
        split at hq1
        · rename_i hs
          cases hq1
          rw [e1] at hs
          cases hs
        · cases hq1
    · rw [e2]; exact cl_service pb mb clauseFns clauseFns_ok (by simp [assocB, clauseFns, go_sem]) l r1 t en w h hm hne hq1 e1 _ (fun w1 P => cp_service pb r1 (by omega) en w1 P)
    · rw [e2]; exact cl_window pb mb clauseFns clauseFns_ok (by simp [assocB, clauseFns, go_sem]) l r1 t en w h hm hne hq1 e1 _ (fun w1 P => cp_window pb r1 en w1 P)
    · rw [e2]; exact cl_approve pb mb clauseFns clauseFns_ok (by simp [assocB, clauseFns, go_sem]) l r1 t en w h hm hne hq1 e1 _ (fun w1 P => cp_approve pb r1 en w1 P)
    · rw [e2]; exact cl_blast pb mb clauseFns clauseFns_ok (by simp [assocB, clauseFns, go_sem]) l r1 t en w h hm hne hq1 e1 _ (fun w1 P => cp_blast pb r1 en w1 P)
    · rw [e2]; exact cl_cap pb mb clauseFns clauseFns_ok (by simp [assocB, clauseFns, go_sem]) l r1 t en w h hm hne hq1 e1 _ (fun w1 P => cp_limit pb r1 en w1 P)

theorem bindR_id {α : Type} (x : Rd (List α)) : (bindR x fun cs r => .ok ([] ++ cs, r)) = x := by
  cases x with
  | error r => rfl
  | ok y => obtain ⟨a, r⟩ := y; rfl
/-- Between two rounds of the loop of text. -/
def TxRel (w : World) (pb : Nat) (en : Int) (R0 : Rd (List Cl)) (v : Value) (wr : World) : Prop :=
  ∃ (acc : List Cl) (rest : List Tok), R0 = (bindR (pMany List.isEmpty (pClause clauseTab) rest) fun cs r => .ok (acc ++ cs, r)) ∧ PSt wr pb rest en ∧ KB w.heap.size pb w wr ∧
    MapIs wr w.heap.size clauseFns ∧ OwnCl wr (w.heap.size + 1) v acc ∧ acc.length + rest.length ≤ 5000

set_option maxHeartbeats 20000000 in
theorem cp_text (pb : Nat) (l : List Tok) (hl : l.length ≤ 5000) (en : Int) (w : World) (h : PSt w pb l en) :
    Calls Tryz.prog 31 #[.pointer (some ⟨pb, 0, none⟩)] w (RdPost pb en w (fun cs w' v => ClSl w' (Btw w.heap.size w'.heap.size) v cs) (pText l)) := by
  have hlt := h.lt
  have HP0 := Lib.hid h
  obtain ⟨i0, hi, hz0, hz1, hz2⟩ := info_parts infoCl
  clear h
  unfold pText
  obtain ⟨R0, hR0⟩ : ∃ R0, R0 = (pMany List.isEmpty (pClause clauseTab) l) := ⟨_, rfl⟩
  rw [← hR0]
  have HR0 := Lib.hid (hR0.trans (bindR_id _).symm)
  clear hR0
  go_enter Tryz.func31, Tryz.ntmps31
  go_wp2_with (go_at_call 49; refine (c_clauseReaders w).mono ?_; rintro e w1 ⟨rfl, hm1, b1⟩; have HP1 := Lib.hid (HP0.out.below b1); have Hm1 := Lib.hid hm1; have HK1 := Lib.hid (KB.of_below (pb := pb) b1); clear hm1 b1)
  go_loopw [4] (fun v wr => TxRel w pb en R0 v wr) (fun _ wr => leftOf wr pb)
  case atStart =>
    exact ⟨[], l, HR0.out, HP1.out, HK1.out, Hm1.out, OwnCl.nil _ _, by simp; omega⟩
  case round =>
    obtain ⟨acc, rest, hR, P, K, hm, hown, hln⟩ := hrel
    have hms := P.left
    have hmr := hm.lt
    have hpc := P.lt
    have hkz := K.size
    obtain ⟨pA, pc, hp0, -, -, -, -, -⟩ := P.cell
    have HP := Lib.hid P
    have HK := Lib.hid K
    have Hm := Lib.hid hm
    have HRR := Lib.hid hR
    have Hms := Lib.hid hms
    obtain ⟨us, hus, hag⟩ := hown
    obtain ⟨vA, vn, vc, rfl⟩ := ownsRow_slice hus
    have Hus := Lib.hid hus
    have Hag := Lib.hid hag
    cases rest with
    | nil =>
      have hst : R0 = .ok (acc, []) := by
        rw [HRR.out, pMany_eq takes_cl]
        simp [bindR]
      have Hst := Lib.hid hst
      clear P K hm hR hms hus hag hst
      go_wp2_with (fail)
      go_ret
      rw [Hst.out]
      exact ⟨HK.out, HP.out, _, rfl, (OwnCl.sl ⟨us, Hus.out, Hag.out⟩).stand fun b hb => ⟨⟨by have := hb.1; omega, hb.2⟩, rfl⟩⟩
    | cons t rest =>
      have hst : R0 = bindR (pClause clauseTab (t :: rest)) fun c r => bindR (pMany List.isEmpty (pClause clauseTab) r) fun its r => .ok ((acc ++ [c]) ++ its, r) := by
        rw [HRR.out, pMany_eq takes_cl]
        simp only [List.isEmpty, Bool.false_eq_true, if_false, bindR]
        cases pClause clauseTab (t :: rest) with
        | error r => rfl
        | ok y =>
          obtain ⟨n, r⟩ := y
          simp only
          cases pMany List.isEmpty (pClause clauseTab) r with
          | error r => rfl
          | ok y =>
            obtain ⟨ns, r⟩ := y
            simp
      rw [List.length_cons] at hp0 hln hms
      have hgt : (0 : Int) < (rest.length : Int) + 1 := by omega
      have Hst := Lib.hid hst
      clear P K hm hR hms hus hag hst
      cases hqn : pClause clauseTab (t :: rest) with
      | error r5 =>
        have HR2 := Lib.hid (show R0 = .error r5 from by rw [Hst.out, hqn]; rfl)
        have Hqn := Lib.hid hqn
        clear hqn
        go_wp2_with (fail)
        go_at_call 50
        refine (cp_clause pb w.heap.size (t :: rest) (by simp; omega) en _ HP.out Hm.out (by omega)).mono ?_
        rw [Hqn.out]
        rintro e w5 h
        obtain ⟨k, P, rfl⟩ := h.error
        go_wp2_with (fail)
        exact And.intro rfl (RdPost.of_error HR2.out (HK.out.trans (k.mono (by omega))) P)
      | ok y =>
        obtain ⟨c, r5⟩ := y
        have hlr5 := takes_cl (t :: rest) c r5 hqn
        rw [List.length_cons] at hlr5
        have HR2 := Lib.hid (show R0 = bindR (pMany List.isEmpty (pClause clauseTab) r5) fun its r => .ok ((acc ++ [c]) ++ its, r) from by rw [Hst.out, hqn]; rfl)
        have Hqn := Lib.hid hqn
        clear hqn
        go_wp2_with (fail)
        go_at_call 50
        refine (cp_clause pb w.heap.size (t :: rest) (by simp; omega) en _ HP.out Hm.out (by omega)).mono ?_
        rw [Hqn.out]
        rintro e w5 h
        obtain ⟨k, P, v5, rfl, yn, yi, rfl, hsn, hsi⟩ := h.ok
        obtain ⟨A1, m1, p1, rfl⟩ := hsn.shape
        obtain ⟨A2, m2, p2, rfl⟩ := hsi.shape
        have hzz5 := k.size
        have K5 := Lib.hid (HK.out.trans (k.mono (by omega)))
        have HP5 := Lib.hid P
        have Hm5 := Lib.hid (Hm.out.keep (k.block _ (by omega) (by omega)))
        have Hus5 := Lib.hid (Hus.out.kept (k.grown (Nat.le_refl _)) (.inr fun e => by have := (Hus.out.lt pb e).1; omega))
        have Hag5 := Lib.hid (aggs_stand (w' := w5) (ok' := Off (w.heap.size + 1) w5.heap.size (.slice vA vn vc)) (fun b hb => ⟨⟨hb.1, Nat.lt_of_lt_of_le hb.2.1 k.size, hb.2.2⟩, k.block b hb.2.1 (by have := hb.1; omega)⟩) acc us Hag.out)
        have Hsn := Lib.hid hsn
        have Hsi := Lib.hid hsi
        clear k P h hsn hsi
        go_wp2_with (at_builtin; go_must (refine wpList_append_lies _ rfl (.tmp 12) (.tmp 16) 22 rfl (w.heap.size + 1) 36 i0 (.agg #[.int .u8 0, .slice none 0 0, .int .u8 0, .int .i64 0, .int .i64 0, .int .i64 0, .slice none 0 0, .int .i64 0]) 8 96 Tryz.underlying22 hi hz0 hz1 hz2 rfl (by decide) (.slice vA vn vc) acc.length us rfl (Hus5.out.alloc _) ⟨w5.heap.size, 0, none⟩ 1 1 [.int .u8 c.kind, .slice A1 m1 p1, .int .u8 c.dom, .int .i64 c.idx, .int .i64 c.a, .int .i64 c.b, .slice A2 m2 p2, .int .i64 c.off] rfl rfl (World.news_of_block (row_new _ _ _ rfl)) (by intro u hu; simp at hu; rcases hu with rfl | rfl | rfl | rfl | rfl | rfl | rfl | rfl <;> rfl) (by omega) (by simp only [maxLen]; omega) (by omega) (by (try simp) <;> omega) _ rfl ?_; intro g cap w6 hown6 hgrow hat hlt6; have Hown6 := Lib.hid hown6; have Hgrow := Lib.hid hgrow; have Hat := Lib.hid hat; clear hown6 hgrow hat))
        have hgrow := Hgrow.out
        have hat := Hat.out
        have hrow : ∀ k, (Value.slice vA vn vc).ownBlock = some k → w.heap.size + 1 ≤ k := fun k e => (Hus5.out.lt k e).1
        have hP6 := (HP5.out.kept (World.grownBy_alloc w5 (.cells #[.int .u8 c.kind, .slice A1 m1 p1, .int .u8 c.dom, .int .i64 c.idx, .int .i64 c.a, .int .i64 c.b, .slice A2 m2 p2, .int .i64 c.off] 36) none) (by simp)).kept hgrow (fun b e => by have := hrow b e; omega)
        have hlowb : ∀ b, b < w.heap.size + 1 → b < w5.heap.size → w6.heap[b]? = w5.heap[b]? := fun b hb hb5 => (hgrow.block b (by (try simp) <;> omega) (fun e => by have := hrow b e.symm; omega)).trans (row_alloc_eq _ _ hb5)
        have hcag : Cl.agg w5 (Off (w.heap.size + 1) w5.heap.size (.slice vA vn vc)) c [.int .u8 c.kind, .slice A1 m1 p1, .int .u8 c.dom, .int .i64 c.idx, .int .i64 c.a, .int .i64 c.b, .slice A2 m2 p2, .int .i64 c.off] := by
          have hok : ∀ b, Btw wr.heap.size w5.heap.size b → Off (w.heap.size + 1) w5.heap.size (.slice vA vn vc) b := fun b hb => by
            have h1 : wr.heap.size ≤ b := hb.1
            refine ⟨by omega, hb.2, fun e => ?_⟩
            have := (Hus.out.lt b e).2
            omega
          exact (Cl.agg_iff _ _ _ _).2 ⟨_, _, rfl, Hsn.out.stand (fun b hb => ⟨hok b hb, rfl⟩), Hsi.out.stand (fun b hb => ⟨hok b hb, rfl⟩)⟩
        have hup : Stand (Off (w.heap.size + 1) w5.heap.size (.slice vA vn vc)) (Off (w.heap.size + 1) (w5.alloc (.cells #[.int .u8 c.kind, .slice A1 m1 p1, .int .u8 c.dom, .int .i64 c.idx, .int .i64 c.a, .int .i64 c.b, .slice A2 m2 p2, .int .i64 c.off] 36)).heap.size (.slice vA vn vc)) w5 (w5.alloc (.cells #[.int .u8 c.kind, .slice A1 m1 p1, .int .u8 c.dom, .int .i64 c.idx, .int .i64 c.a, .int .i64 c.b, .slice A2 m2 p2, .int .i64 c.off] 36)) := fun b hb => ⟨⟨hb.1, by have := hb.2.1; simp; omega, hb.2.2⟩, row_alloc_eq _ _ hb.2.1⟩
        have hO6 := OwnCl.appended (aggs_stand hup acc us Hag5.out) (Cl.agg_stand hup c _ hcag) Hown6.out hgrow hat
        refine ⟨⟨acc ++ [c], r5, HR2.out, hP6, ?_, ?_, hO6, ?_⟩, ?_⟩
        · exact (K5.out.alloc _ (by omega)).grownStep hgrow (by (try simp) <;> omega) (fun k e => by have := hrow k e; omega)
        · exact Hm5.out.keep (hlowb _ (by omega) (by omega))
        · rw [List.length_append]; simp; omega
        · rw [hP6.left, Hms.out]; omega
end Go.Proofs.YtplnnpkohdmiaaaGreatDoor

/- DERIVED. syntax.Parse. -/
namespace Go.Proofs.YtplnnpkohdmiaaaGreatDoor
open Go.RowKit
set_option maxRecDepth 100000

theorem box4 {W : World} {b : Nat} {x : Value} {T : TypeId} (h : W.heap[b]? = some (.cells #[x] T (0, 0))) : W.cell? ⟨b, 0, none⟩ = some x ∧ W.frozen? ⟨b, 0, none⟩ = false := ⟨one_cell h, one_frozen h⟩

theorem parse1_idle (a b c d : Nat) (w : World) :
    CallsD Tryz.prog 29 #[.pointer (some ⟨a, 0, none⟩), .pointer (some ⟨b, 0, none⟩), .pointer (some ⟨c, 0, none⟩), .pointer (some ⟨d, 0, none⟩)] .returning w fun e u' w' => e = .returned (.tuple #[]) ∧ u' = .returning ∧ w' = w := by
  refine callsD_of_wpS Tryz.func29 rfl fun c₀ cs hu => ?_
  apply wpS_seq
  apply wpS_region
  simp [wpOpsS, go_sem, recoverD, hu, Tryz.ntmps29, Exit.thenS]
  refine wpS_cond (t := false) (by simp [Act.eval, Array.replicate]) ?_
  simp only [Bool.false_eq_true, if_false]
  refine wpS_of_wp (wp_skip ?_)
  cases c₀
  simp_all [bodyPostS, results, Tryz.results29]
theorem frontTok_off (en : Int) (l : List Tok) : (frontTok en l).off = offOf en l := by cases l <;> rfl

theorem parse1_panic (pv lb ab eb pb : Nat) (r : List Tok) (en : Int) (x y z : Value) (T : TypeId) (v : Value) (older : List PanicEntry) (w : World) (h : PSt w pb r en)
    (h0 : w.heap[pv]? = some (.cells #[.pointer (some ⟨pb, 0, none⟩)] 57 (0, 0))) (h1 : w.heap[lb]? = some (.cells #[x] 22 (0, 0))) (h2 : w.heap[ab]? = some (.cells #[y] 3 (0, 0))) (h3 : w.heap[eb]? = some (.cells #[z] 25 (0, 0)))
    (n12 : lb < ab) (n23 : ab < eb) :
    CallsD Tryz.prog 29 #[.pointer (some ⟨pv, 0, none⟩), .pointer (some ⟨lb, 0, none⟩), .pointer (some ⟨ab, 0, none⟩), .pointer (some ⟨eb, 0, none⟩)] (.panicking ({ v := .iface T v, recovered := false } :: older)) w fun e u' w' =>
      e = .returned (.tuple #[]) ∧ u' = .panicking ({ v := .iface T v, recovered := true } :: older) ∧ w'.heap[lb]? = some (.cells #[.slice none 0 0] 22 (0, 0)) ∧
      w'.heap[ab]? = some (.cells #[.int .i64 (offOf en r)] 3 (0, 0)) ∧ w'.heap[eb]? = some (.cells #[.int .i64 4] 25 (0, 0)) ∧ Below lb w w' := by
  have hfr := c_front pb r en w h
  have hof := frontTok_off en r
  obtain ⟨t0, ht0⟩ : ∃ t0, t0 = frontTok en r := ⟨_, rfl⟩
  rw [← ht0] at hfr hof
  obtain ⟨kd, tx, nm, off⟩ := t0
  have hof' : offOf en r = off := hof.symm
  rw [hof']
  have hfd := tok_field3 kd tx nm off
  have Hfr := Lib.hid hfr
  have c0 := one_cell h0
  have l1 := cell_lt' (one_cell h1)
  have l2 := cell_lt' (one_cell h2)
  have l3 := cell_lt' (one_cell h3)
  have H1 := Lib.hid h1
  have H2 := Lib.hid h2
  have H3 := Lib.hid h3
  clear h hfr hof hof' ht0 h0 h1 h2 h3
  refine callsD_of_wpS Tryz.func29 rfl fun c₀ cs hu => ?_
  apply wpS_seq
  apply wpS_region
  simp [wpOpsS, go_sem, recoverD, hu, Tryz.ntmps29, Exit.thenS]
  refine wpS_cond (t := true) (by simp [Act.eval, Array.replicate]) ?_
  simp only [if_true]
  refine wpS_of_wp ?_
  go_wp2_with (go_at_call 30; refine Hfr.out.mono ?_; rintro e w1 ⟨rfl, b1⟩; have hk1 := (b1.block _ l1).trans H1.out; have hk2 := (b1.block _ l2).trans H2.out; have hk3 := (b1.block _ l3).trans H3.out; have c1 := one_cell hk1; have c2 := one_cell hk2; have c3 := one_cell hk3; have f1 := one_frozen hk1; have f2 := one_frozen hk2; have f3 := one_frozen hk3; have K1 := Lib.hid hk1; have K2 := Lib.hid hk2; have K3 := Lib.hid hk3; have B1 := Lib.hid b1; clear hk1 hk2 hk3 b1; unfold Tok.val)
  all_goals simp only [bodyPostS]
  all_goals refine ⟨by simp, _, rfl, .tuple #[], by simp [results, Tryz.results29], rfl, rfl, ?_, ?_, ?_, ?_⟩
  all_goals first
    | exact (heap_setCell_ne _ _ (by omega)).trans ((heap_setCell_ne _ _ (by omega)).trans (one_set K1.out _))
    | exact (heap_setCell_ne _ _ (by omega)).trans (one_set ((heap_setCell_ne _ _ (by omega)).trans K2.out) _)
    | exact one_set ((heap_setCell_ne _ _ (by omega)).trans ((heap_setCell_ne _ _ (by omega)).trans K3.out)) _
    | exact (((B1.out.mono (Nat.le_of_lt l1)).setCell (p := ⟨lb, 0, none⟩) (Nat.le_refl _) _).setCell (p := ⟨ab, 0, none⟩) (Nat.le_of_lt n12) _).setCell (p := ⟨eb, 0, none⟩) (by show lb ≤ eb; omega) _
end Go.Proofs.YtplnnpkohdmiaaaGreatDoor

/- DERIVED. syntax.Parse: its contract. -/
namespace Go.Proofs.YtplnnpkohdmiaaaGreatDoor
open Go.RowKit
set_option maxRecDepth 100000

theorem toksOf_len (s : ByteArray) : (toksOf s).1.length ≤ 5000 := by
  unfold toksOf
  split
  · simp
  · rename_i h
    split
    · simp
    · simp only [List.length_map]
      have := seqF_len s (s.size + 1) (sk false (bt s))
      unfold seqOf
      omega
def parseOf (s : ByteArray) : List Cl × Int × Int := if (toksOf s).2.2 = 0 then parseL s.size (toksOf s).1 else ([], (toksOf s).2.1, (toksOf s).2.2)
theorem toksOf_nil (s : ByteArray) (h : (toksOf s).2.2 ≠ 0) : (toksOf s).1 = [] := by
  unfold toksOf at h ⊢
  split
  · rfl
  · rename_i hs
    rw [if_neg hs] at h
    split
    · rfl
    · rename_i hf
      rw [hf] at h
      exact absurd rfl h
/-- What Parse leaves. -/
def ParsePost (r : List Cl × Int × Int) (w : World) (e : Ending) (w' : World) : Prop :=
  ∃ v, e = .returned (.tuple #[v, .int .i64 r.2.1, .int .i64 r.2.2]) ∧ ClSl w' (Btw w.heap.size w'.heap.size) v r.1 ∧ Below w.heap.size w w'

theorem row_drew {W : World} {b : Nat} {o : Obj} (h : W.heap[b]? = some o) : W.drew.heap[b]? = some o := h
theorem resParse {tmps : Array Value} {l a e m p : Nat} {A : Option Addr} {x y : Int} {W : World} (h2 : tmps[2]?.getD undef = .pointer (some ⟨l, 0, none⟩)) (h3 : tmps[3]?.getD undef = .pointer (some ⟨a, 0, none⟩)) (h4 : tmps[4]?.getD undef = .pointer (some ⟨e, 0, none⟩))
    (r0 : W.heap[l]? = some (.cells #[.slice A m p] 22 (0, 0))) (r1 : W.heap[a]? = some (.cells #[.int .i64 x] 3 (0, 0))) (r2 : W.heap[e]? = some (.cells #[.int .i64 y] 25 (0, 0))) :
    (results Tryz.f13 tmps).run Tryz.prog W = .ok (.tuple #[.slice A m p, .int .i64 x, .int .i64 y]) W := by
  have c0 := one_cell r0
  have c1 := one_cell r1
  have c2 := one_cell r2
  simp [results, Tryz.results13, go_sem, h2, h3, h4, c0, c1, c2]

set_option maxHeartbeats 20000000 in
theorem c_Parse (s : ByteArray) (hs : s.size ≤ maxLen) (w : World) :
    Calls Tryz.prog 13 #[.string s] w (ParsePost (parseOf s) w) := by
  have hmf : ∀ (fn : Fn) (first cap : Array Value) (w : World), (Instr.makeFunc fn first cap).run Tryz.prog w = .ok (.func fn first cap) w := fun _ _ _ _ => rfl
  have hT := c_Tokens s hs
  have HT := Lib.hid hT
  clear hT
  have hln := toksOf_len s
  have hnil := toksOf_nil s
  unfold parseOf
  obtain ⟨r, hr⟩ : ∃ r, r = toksOf s := ⟨_, rfl⟩
  rw [← hr] at HT hln hnil ⊢
  clear hr
  obtain ⟨toks, at_, er⟩ := r
  dsimp only at hln hnil ⊢
  by_cases her : er = 0
  · subst her
    rw [if_pos rfl]
    clear hnil
    cases hp : pText toks with
    | error rr =>
      have hpl : parseL s.size toks = ([], offOf s.size rr, 4) := by unfold parseL; rw [hp]
      rw [hpl]
      have Hp := Lib.hid hp
      clear hp hpl
      go_enter_defers Tryz.func13, Tryz.ntmps13
      go_wp2_with (go_at_call 28; refine (HT.out _).mono ?_; rintro e w1 ⟨v, rfl, hown, b1⟩; obtain ⟨vA, vn, vc, rfl⟩ := ownsRow_slice hown; have hzz := b1.size; simp at hzz; have k0 := (b1.block w.heap.size (by (try simp) <;> omega)).trans (row_alloc (row_alloc (row_new _ _ _ rfl) _) _); have k1 := (b1.block (w.heap.size + 1) (by (try simp) <;> omega)).trans (row_alloc (row_new _ _ _ (by simp)) _); have k2 := (b1.block (w.heap.size + 1 + 1) (by (try simp) <;> omega)).trans (row_new _ _ _ (by simp)); have c0 := one_cell k0; have c1 := one_cell k1; have c2 := one_cell k2; have f0 := one_frozen k0; have f1 := one_frozen k1; have f2 := one_frozen k2; have K0 := Lib.hid k0; have K1 := Lib.hid k1; have K2 := Lib.hid k2; have B1 := Lib.hid b1; have Hown := Lib.hid hown; have HB := Lib.hid ((((Below.refl w.heap.size w).alloc (Nat.le_refl _) _).alloc (by (try simp) <;> omega) _).alloc (by (try simp) <;> omega) _ |>.trans (b1.mono (by (try simp) <;> omega))); clear k0 k1 k2 b1 hown)
      have hP : PSt ((((w1.setCell ⟨w.heap.size + 1, 0, none⟩ (.int .i64 at_)).setCell ⟨w.heap.size + 1 + 1, 0, none⟩ (.int .i64 0)).alloc (.cells #[.slice vA vn vc, .int .i64 s.size] 59)).alloc (.cells #[.pointer (some ⟨w1.heap.size, 0, none⟩)] 57)) w1.heap.size toks s.size := by
        refine ⟨.slice vA vn vc, row_alloc (row_new _ _ _ (by simp)) _, ?_⟩
        have ho : ((w1.setCell ⟨w.heap.size + 1, 0, none⟩ (.int .i64 at_)).setCell ⟨w.heap.size + 1 + 1, 0, none⟩ (.int .i64 0)).ownsRow _ _ _ _ _ _ := ownsRow_move Hown.out fun g hg => by
          have := (Hown.out.lt g hg).1
          simp at this
          exact (heap_setCell_ne _ _ (by omega)).trans (heap_setCell_ne _ _ (by omega))
        have ht := TokSl.of_own ho
        have hsz : ((w1.setCell ⟨w.heap.size + 1, 0, none⟩ (.int .i64 at_)).setCell ⟨w.heap.size + 1 + 1, 0, none⟩ (.int .i64 0)).heap.size = w1.heap.size := by simp
        rw [hsz] at ht
        exact ht.stands fun b hb => (row_alloc_eq _ _ (by (try simp) <;> omega)).trans (row_alloc_eq _ _ (by (try simp) <;> omega))
      have HP := Lib.hid hP
      clear hP
      go_at_call 31
      refine (cp_text w1.heap.size toks hln s.size _ HP.out).mono ?_
      rw [Hp.out]
      rintro e w2 h
      obtain ⟨k, P, rfl⟩ := h.error
      have hzz2 := k.size
      simp at hzz2
      have hk := Lib.hid k
      have j0 := ObjRow.keep k (row_alloc (row_alloc (row_other (row_other K0.out (by omega) _) (by omega) _) _) _) (by (try simp) <;> omega) (by omega)
      have j1 := ObjRow.keep k (row_alloc (row_alloc (row_other (one_set K1.out _) (by omega) _) _) _) (by (try simp) <;> omega) (by omega)
      have j2 := ObjRow.keep k (row_alloc (row_alloc (one_set (row_other K2.out (by omega) _) _) _) _) (by (try simp) <;> omega) (by omega)
      have j3 : w2.heap[w1.heap.size + 1]? = some (.cells #[.pointer (some ⟨w1.heap.size, 0, none⟩)] 57 (0, 0)) := ObjRow.keep k (row_new _ _ _ (by simp)) (by (try simp) <;> omega) (by omega)
      have J0 := Lib.hid j0
      have J1 := Lib.hid j1
      have J2 := Lib.hid j2
      have J3 := Lib.hid j3
      have HP2 := Lib.hid P
      clear j0 j1 j2 j3 k P h
      go_wp2_with (fail)
      refine leaves_cons (f := 29) (args := #[.pointer (some ⟨w1.heap.size + 1, 0, none⟩), .pointer (some ⟨w.heap.size, 0, none⟩), .pointer (some ⟨w.heap.size + 1, 0, none⟩), .pointer (some ⟨w.heap.size + 1 + 1, 0, none⟩)]) (by simp) (by simp [go_sem]) ?_
      refine (parse1_panic _ _ _ _ w1.heap.size rr s.size _ _ _ _ _ [] _ HP2.out J3.out J0.out J1.out J2.out (by omega) (by omega)).mono ?_
      rintro e u' w3 ⟨rfl, rfl, h0, h1, h2, hb3⟩
      have d0 := one_cell h0
      have d1 := one_cell h1
      have d2 := one_cell h2
      have hfin : ParsePost ([], offOf s.size rr, 4) w (.returned (.tuple #[.slice none 0 0, .int .i64 (offOf s.size rr), .int .i64 4])) w3 := by
        refine ⟨_, rfl, ClSl.nil _ _, ?_⟩
        refine Below.trans ?_ hb3
        refine Below.trans ?_ ((hk.out.mono (m := w.heap.size) (by (try simp) <;> omega)).below (by omega))
        repeat (first | with_reducible exact HB.out | with_reducible refine Below.alloc ?_ (by (try simp) <;> omega) _ | with_reducible refine Below.setCell ?_ (by (try simp) <;> omega) _)
      simp [Leaves, settle, results, Tryz.results13, go_sem, d0, d1, d2]
      exact hfin
    | ok y =>
      obtain ⟨cs, rr⟩ := y
      have hpl : parseL s.size toks = (cs, 0, 0) := by unfold parseL; rw [hp]
      rw [hpl]
      have Hp := Lib.hid hp
      clear hp hpl
      go_enter_defers Tryz.func13, Tryz.ntmps13
      go_wp2_with (go_at_call 28; refine (HT.out _).mono ?_; rintro e w1 ⟨v, rfl, hown, b1⟩; obtain ⟨vA, vn, vc, rfl⟩ := ownsRow_slice hown; have hzz := b1.size; simp at hzz; have k0 := (b1.block w.heap.size (by (try simp) <;> omega)).trans (row_alloc (row_alloc (row_new _ _ _ rfl) _) _); have k1 := (b1.block (w.heap.size + 1) (by (try simp) <;> omega)).trans (row_alloc (row_new _ _ _ (by simp)) _); have k2 := (b1.block (w.heap.size + 1 + 1) (by (try simp) <;> omega)).trans (row_new _ _ _ (by simp)); have c0 := one_cell k0; have c1 := one_cell k1; have c2 := one_cell k2; have f0 := one_frozen k0; have f1 := one_frozen k1; have f2 := one_frozen k2; have K0 := Lib.hid k0; have K1 := Lib.hid k1; have K2 := Lib.hid k2; have B1 := Lib.hid b1; have Hown := Lib.hid hown; have HB := Lib.hid ((((Below.refl w.heap.size w).alloc (Nat.le_refl _) _).alloc (by (try simp) <;> omega) _).alloc (by (try simp) <;> omega) _ |>.trans (b1.mono (by (try simp) <;> omega))); clear k0 k1 k2 b1 hown)
      have hP : PSt ((((w1.setCell ⟨w.heap.size + 1, 0, none⟩ (.int .i64 at_)).setCell ⟨w.heap.size + 1 + 1, 0, none⟩ (.int .i64 0)).alloc (.cells #[.slice vA vn vc, .int .i64 s.size] 59)).alloc (.cells #[.pointer (some ⟨w1.heap.size, 0, none⟩)] 57)) w1.heap.size toks s.size := by
        refine ⟨.slice vA vn vc, row_alloc (row_new _ _ _ (by simp)) _, ?_⟩
        have ho : ((w1.setCell ⟨w.heap.size + 1, 0, none⟩ (.int .i64 at_)).setCell ⟨w.heap.size + 1 + 1, 0, none⟩ (.int .i64 0)).ownsRow _ _ _ _ _ _ := ownsRow_move Hown.out fun g hg => by
          have := (Hown.out.lt g hg).1
          simp at this
          exact (heap_setCell_ne _ _ (by omega)).trans (heap_setCell_ne _ _ (by omega))
        have ht := TokSl.of_own ho
        have hsz : ((w1.setCell ⟨w.heap.size + 1, 0, none⟩ (.int .i64 at_)).setCell ⟨w.heap.size + 1 + 1, 0, none⟩ (.int .i64 0)).heap.size = w1.heap.size := by simp
        rw [hsz] at ht
        exact ht.stands fun b hb => (row_alloc_eq _ _ (by (try simp) <;> omega)).trans (row_alloc_eq _ _ (by (try simp) <;> omega))
      have HP := Lib.hid hP
      clear hP
      go_at_call 31
      refine (cp_text w1.heap.size toks hln s.size _ HP.out).mono ?_
      rw [Hp.out]
      rintro e w2 h
      obtain ⟨k, P, v2, rfl, hcl⟩ := h.ok
      have hzz2 := k.size
      simp at hzz2
      have hk := Lib.hid k
      have j0 := ObjRow.keep k (row_alloc (row_alloc (row_other (row_other K0.out (by omega) _) (by omega) _) _) _) (by (try simp) <;> omega) (by omega)
      have j1 := ObjRow.keep k (row_alloc (row_alloc (row_other (one_set K1.out _) (by omega) _) _) _) (by (try simp) <;> omega) (by omega)
      have j2 := ObjRow.keep k (row_alloc (row_alloc (one_set (row_other K2.out (by omega) _) _) _) _) (by (try simp) <;> omega) (by omega)
      obtain ⟨A2, m2, p2, rfl⟩ := hcl.shape
      have d0 := one_cell j0
      have d1 := one_cell j1
      have d2 := one_cell j2
      have g0 := one_frozen j0
      have g1 := one_frozen j1
      have g2 := one_frozen j2
      have Hcl := Lib.hid hcl
      clear j0 j1 j2 k P h hcl
      go_wp2_with (fail)
      refine leaves_cons (f := 29) (args := #[.pointer (some ⟨w1.heap.size + 1, 0, none⟩), .pointer (some ⟨w.heap.size, 0, none⟩), .pointer (some ⟨w.heap.size + 1, 0, none⟩), .pointer (some ⟨w.heap.size + 1 + 1, 0, none⟩)]) (by simp) (by simp [go_sem]) ?_
      refine (parse1_idle _ _ _ _ _).mono ?_
      rintro e u' w3 ⟨rfl, rfl, rfl⟩
      have hfin : ParsePost (cs, 0, 0) w (.returned (.tuple #[.slice A2 m2 p2, .int .i64 0, .int .i64 0])) (((w2.setCell ⟨w.heap.size, 0, none⟩ (.slice A2 m2 p2)).setCell ⟨w.heap.size + 1, 0, none⟩ (.int .i64 0)).setCell ⟨w.heap.size + 1 + 1, 0, none⟩ (.int .i64 0)) := by
        refine ⟨_, rfl, Hcl.out.stand fun b hb => ⟨⟨?_, by simpa using hb.2⟩, ?_⟩, ?_⟩
        · have := hb.1; simp at this; omega
        · have := hb.1
          simp at this
          exact (heap_setCell_ne _ _ (by omega)).trans ((heap_setCell_ne _ _ (by omega)).trans (heap_setCell_ne _ _ (by omega)))
        · refine Below.setCell (Below.setCell (Below.setCell (Below.trans ?_ ((hk.out.mono (m := w.heap.size) (by (try simp) <;> omega)).below (by omega))) (by (try simp) <;> omega) _) (by (try simp) <;> omega) _) (by (try simp) <;> omega) _
          repeat (first | with_reducible exact HB.out | with_reducible refine Below.alloc ?_ (by (try simp) <;> omega) _ | with_reducible refine Below.setCell ?_ (by (try simp) <;> omega) _)
      simp [Leaves, settle, results, Tryz.results13, go_sem, d0, d1, d2]
      exact hfin
  · rw [if_neg her]
    have hb : (er != 0) = true := by rw [bne_iff_ne]; exact her
    clear her hnil
    go_enter_defers Tryz.func13, Tryz.ntmps13
    go_wp2_with (go_at_call 28; refine (HT.out _).mono ?_; rintro e w1 ⟨v, rfl, hown, b1⟩; obtain ⟨vA, vn, vc, rfl⟩ := ownsRow_slice hown; have hzz := b1.size; simp at hzz; have k0 := (b1.block w.heap.size (by (try simp) <;> omega)).trans (row_alloc (row_alloc (row_new _ _ _ rfl) _) _); have k1 := (b1.block (w.heap.size + 1) (by (try simp) <;> omega)).trans (row_alloc (row_new _ _ _ (by simp)) _); have k2 := (b1.block (w.heap.size + 1 + 1) (by (try simp) <;> omega)).trans (row_new _ _ _ (by simp)); have c0 := one_cell k0; have c1 := one_cell k1; have c2 := one_cell k2; have f0 := one_frozen k0; have f1 := one_frozen k1; have f2 := one_frozen k2; have K0 := Lib.hid k0; have K1 := Lib.hid k1; have K2 := Lib.hid k2; have B1 := Lib.hid b1; have HB := Lib.hid ((((Below.refl w.heap.size w).alloc (Nat.le_refl _) _).alloc (by (try simp) <;> omega) _).alloc (by (try simp) <;> omega) _ |>.trans (b1.mono (by (try simp) <;> omega))); clear k0 k1 k2 b1 hown)
    have hfm : Tryz.prog.follows Departure.mixedOrders = true := by kernel_rfl
    go_region
    all_goals go_wp2
    all_goals refine ⟨.tuple #[.slice none 0 0, .int .i64 at_, .int .i64 er], resParse (l := w.heap.size) (a := w.heap.size + 1) (e := w.heap.size + 1 + 1) rfl rfl rfl ?_ ?_ ?_, _, rfl, ClSl.nil _ _, ?_⟩
    all_goals repeat (first | with_reducible exact HB.out | with_reducible exact K0.out | with_reducible exact K1.out | with_reducible exact K2.out | with_reducible refine row_drew ?_ | with_reducible refine row_other ?_ (by omega) _ | with_reducible apply one_set | with_reducible refine Below.drew ?_ | with_reducible refine Below.setCell ?_ (by (try simp) <;> omega) _)
end Go.Proofs.YtplnnpkohdmiaaaGreatDoor
