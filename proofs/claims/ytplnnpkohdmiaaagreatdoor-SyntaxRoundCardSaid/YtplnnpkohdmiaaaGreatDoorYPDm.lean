/-
  DERIVED. Several texts in one.
-/
import Derived.Test.YtplnnpkohdmiaaaGreatDoorYPC1m
import Derived.Test.YtplnnpkohdmiaaaGreatDoorYPPm
set_option linter.unusedVariables false
set_option linter.unusedSimpArgs false

/- DERIVED. The landed parser's clause at the items. -/
namespace Go.Proofs.YtplnnpkohdmiaaaGreatDoor
open Go.RowKit
set_option maxRecDepth 100000

theorem cp_item (pb mb : Nat) (l : List Tok) (hl : l.length ≤ 5000) (en : Int) (w : World) (h : PSt w pb l en) (hm : MapIs w mb itemFns) (hne : mb ≠ pb) :
    Calls Tryz.prog 50 #[.pointer (some ⟨pb, 0, none⟩), .map (some mb)] w (RdPost pb en w (ClV w.heap.size) (pClause itemTab l)) := by
  have hfit : (fun t : Tok => (assocB t.text itemTab).isSome) = fun t => (assocB t.text itemFns).isSome := by
    funext t
    rcases item_cases t.text with ⟨e1, e2⟩ | ⟨e1, e2⟩ | ⟨e1, e2⟩ | ⟨e1, e2⟩ | ⟨e1, e2⟩ | ⟨e1, e2⟩ | ⟨e1, e2⟩ | ⟨e1, e2⟩ <;> rw [e1, e2] <;> rfl
  unfold pClause
  rw [hfit]
  cases hq1 : pNext (fun t => (assocB t.text itemFns).isSome) l with
  | error r1 => exact cl_none pb mb itemFns itemFns_ok (by simp [assocB, itemFns, go_sem]) l r1 en w h hm hne hq1 _
  | ok y =>
    obtain ⟨t, r1⟩ := y
    have hr1 := takes_next _ l t r1 hq1
    simp only [bindR]
    rcases item_cases t.text with ⟨e1, e2⟩ | ⟨e1, e2⟩ | ⟨e1, e2⟩ | ⟨e1, e2⟩ | ⟨e1, e2⟩ | ⟨e1, e2⟩ | ⟨e1, e2⟩ | ⟨e1, e2⟩
    · exfalso
      cases l with
      | nil => cases hq1
      | cons a l =>
        simp only [pNext] at hq1
        split at hq1
        · rename_i hs
          cases hq1
          rw [e1] at hs
          cases hs
        · cases hq1
    · rw [e2]; exact cl_cores pb mb itemFns itemFns_ok (by simp [assocB, itemFns, go_sem]) l r1 t en w h hm hne hq1 e1 _ (fun w1 P => cp_cores pb r1 en w1 P)
    · rw [e2]; exact cl_replicas pb mb itemFns itemFns_ok (by simp [assocB, itemFns, go_sem]) l r1 t en w h hm hne hq1 e1 _ (fun w1 P => cp_replicas pb r1 en w1 P)
    · rw [e2]; exact cl_least pb mb itemFns itemFns_ok (by simp [assocB, itemFns, go_sem]) l r1 t en w h hm hne hq1 e1 _ (fun w1 P => cp_least pb r1 en w1 P)
    · rw [e2]; exact cl_spread pb mb itemFns itemFns_ok (by simp [assocB, itemFns, go_sem]) l r1 t en w h hm hne hq1 e1 _ (fun w1 P => cp_spread pb r1 en w1 P)
    · rw [e2]; exact cl_apart pb mb itemFns itemFns_ok (by simp [assocB, itemFns, go_sem]) l r1 t en w h hm hne hq1 e1 _ (fun w1 P => cp_apart pb r1 (by omega) en w1 P)
    · rw [e2]; exact cl_near pb mb itemFns itemFns_ok (by simp [assocB, itemFns, go_sem]) l r1 t en w h hm hne hq1 e1 _ (fun w1 P => cp_near pb r1 en w1 P)
    · rw [e2]; exact cl_firmware pb mb itemFns itemFns_ok (by simp [assocB, itemFns, go_sem]) l r1 t en w h hm hne hq1 e1 _ (fun w1 P => cp_firmware pb r1 en w1 P)
end Go.Proofs.YtplnnpkohdmiaaaGreatDoor

/- DERIVED. The landed parser's service: a loop that appends items. -/
namespace Go.Proofs.YtplnnpkohdmiaaaGreatDoor
open Go.RowKit
set_option maxRecDepth 100000

theorem infoCl : (Tryz.prog.info? 36).map (fun i => (i.zero, i.size, i.bytes)) = some (some (.agg #[.int .u8 0, .slice none 0 0, .int .u8 0, .int .i64 0, .int .i64 0, .int .i64 0, .slice none 0 0, .int .i64 0]), 8, 96) := by kernel_rfl

def svEnd (n : ByteArray) (its : List Cl) (l : List Tok) : Rd Cl := bindR (pLit ⟨#[125]⟩ l) fun _ r => .ok (.mk 1 [n] 0 0 0 0 its 0, r)
theorem pService_eq (l : List Tok) : pService l = bindR (pName l) fun n r => bindR (pLit ⟨#[123]⟩ r) fun _ r => bindR (pMany (frontIs ⟨#[125]⟩) pItem r) fun its r => svEnd n ([] ++ its) r := rfl

/-- Between two rounds of the loop of service. -/
def SvRel (w : World) (pb nb mb : Nat) (en : Int) (n1 : ByteArray) (R0 : Rd Cl) (wr : World) : Prop :=
  ∃ (acc : List Cl) (rest : List Tok) (v : Value), R0 = (bindR (pMany (frontIs ⟨#[125]⟩) pItem rest) fun its r => svEnd n1 (acc ++ its) r) ∧ PSt wr pb rest en ∧ KB w.heap.size pb w wr ∧
    wr.heap[w.heap.size]? = some (.cells #[.int .u8 0, .slice none 0 0, .int .u8 0, .int .i64 0, .int .i64 0, .int .i64 0, .slice none 0 0, .int .i64 0] 36 (0, 0)) ∧
    wr.heap[nb + 1]? = some (.cells #[.int .u8 1, .slice (some ⟨nb, 0, none⟩) 1 1, .int .u8 0, .int .i64 0, .int .i64 0, .int .i64 0, v, .int .i64 0] 36 (0, 0)) ∧
    wr.heap[nb]? = some (.cells #[.string n1] 9 (0, 0)) ∧ MapIs wr mb itemFns ∧ OwnCl wr (mb + 1) v acc ∧ acc.length + rest.length ≤ 5000

theorem ownsRow_nd {w : World} {base : Nat} {e : TypeId} {size : Nat} {v : Value} {n : Nat} {xs : List Value} (h : w.ownsRow base e size v n xs) (b : Nat) (hb : b < base) : v.ownBlock ≠ some b := fun e => by have := (h.lt b e).1; omega

theorem pLit_is {s : ByteArray} {l : List Tok} (h : frontIs s l = true) : ∃ t r, l = t :: r ∧ pLit s l = .ok ((), r) := by
  cases l with
  | nil => cases h
  | cons t r =>
    have h' : fitLit s t = true := h
    exact ⟨t, r, rfl, by simp [pLit, pNext, h', bindR]⟩

set_option maxHeartbeats 20000000 in
theorem cp_service (pb : Nat) (l : List Tok) (hl : l.length ≤ 5000) (en : Int) (w : World) (h : PSt w pb l en) :
    Calls Tryz.prog 64 #[.pointer (some ⟨pb, 0, none⟩)] w (RdPost pb en w (ClV w.heap.size) (pService l)) := by
  have hlt := h.lt
  have HP0 := Lib.hid h
  have HK0 := Lib.hid (KB.refl w.heap.size pb w)
  obtain ⟨i0, hi, hz0, hz1, hz2⟩ := info_parts infoCl
  clear h
  rw [pService_eq]
  cases hq1 : pName l with
  | error r1 =>
    go_enter Tryz.func64, Tryz.ntmps64
    go_wp2_with (fail)
    go_at_call 84
    refine (cp_name pb l en _ (by repeat (first | with_reducible exact HP0.out | with_reducible refine PSt.setNew ?_ (by omega) _ | with_reducible refine PSt.kept ?_ (World.grownBy_alloc _ _ none) (by simp)))).mono ?_
    rw [hq1]
    rintro e w1 h
    obtain ⟨k, P, rfl⟩ := h.error
    have kk : KB w.heap.size pb w w1 := by refine KB.trans ?_ (k.mono (by (try simp) <;> omega)); (repeat (first | with_reducible exact HK0.out | with_reducible refine KB.setNew ?_ (by omega) _ | with_reducible refine KB.alloc ?_ _ (by (try simp) <;> omega)))
    go_wp2_with (fail)
    exact ⟨rfl, kk, P, rfl⟩
  | ok y =>
    obtain ⟨n1, r1⟩ := y
    have hr1 := falls_name l n1 r1 hq1
    simp only [bindR]
    cases hq2 : pLit ⟨#[123]⟩ r1 with
    | error r2 =>
      go_enter Tryz.func64, Tryz.ntmps64
      go_wp2_with (fail)
      go_at_call 84
      refine (cp_name pb l en _ (by repeat (first | with_reducible exact HP0.out | with_reducible refine PSt.setNew ?_ (by omega) _ | with_reducible refine PSt.kept ?_ (World.grownBy_alloc _ _ none) (by simp)))).mono ?_
      rw [hq1]
      rintro e w1 h
      obtain ⟨k, P, v, rfl, rfl⟩ := h.ok
      have hz1' := k.size
      try simp at hz1'
      have kk : KB w.heap.size pb w w1 := by refine KB.trans ?_ (k.mono (by (try simp) <;> omega)); (repeat (first | with_reducible exact HK0.out | with_reducible refine KB.setNew ?_ (by omega) _ | with_reducible refine KB.alloc ?_ _ (by (try simp) <;> omega)))
      have hr : w1.heap[w.heap.size]? = some (.cells #[.int .u8 0, .slice none 0 0, .int .u8 0, .int .i64 0, .int .i64 0, .int .i64 0, .slice none 0 0, .int .i64 0] 36 (0, 0)) := ObjRow.keep k (row_new _ _ _ rfl) (by simp) (by omega)
      have Hhr := Lib.hid hr
      have HK1 := Lib.hid kk
      have HP1 := Lib.hid P
      clear k P h kk hr
      go_wp2_with (fail)
      go_at_call 85
      refine (cp_lit pb ⟨#[123]⟩ (by simp [go_sem]) r1 en _ (by repeat (first | with_reducible exact HP1.out | with_reducible refine PSt.setNew ?_ (by omega) _ | with_reducible refine PSt.kept ?_ (World.grownBy_alloc _ _ none) (by simp)))).mono ?_
      rw [hq2]
      rintro e w2 h
      obtain ⟨k, P, rfl⟩ := h.error
      have kk : KB w.heap.size pb w w2 := by refine KB.trans ?_ (k.mono (by (try simp) <;> omega)); (repeat (first | with_reducible exact HK1.out | with_reducible refine KB.setNew ?_ (by omega) _ | with_reducible refine KB.alloc ?_ _ (by (try simp) <;> omega)))
      go_wp2_with (fail)
      exact ⟨rfl, kk, P, rfl⟩
    | ok y =>
      obtain ⟨_, r2⟩ := y
      have hr2 := falls_lit _ r1 _ r2 hq2
      simp only [bindR]
      obtain ⟨R0, hR0⟩ : ∃ R0, R0 = (bindR (pMany (frontIs ⟨#[125]⟩) pItem r2) fun its r => svEnd n1 ([] ++ its) r) := ⟨_, rfl⟩
      have hR0' := hR0
      unfold bindR at hR0'
      rw [← hR0']
      clear hR0'
      have HR0 := Lib.hid hR0
      clear hR0
      go_enter Tryz.func64, Tryz.ntmps64
      go_wp2_with (fail)
      go_at_call 84
      refine (cp_name pb l en _ (by repeat (first | with_reducible exact HP0.out | with_reducible refine PSt.setNew ?_ (by omega) _ | with_reducible refine PSt.kept ?_ (World.grownBy_alloc _ _ none) (by simp)))).mono ?_
      rw [hq1]
      rintro e w1 h
      obtain ⟨k, P, v, rfl, rfl⟩ := h.ok
      have hz1' := k.size
      try simp at hz1'
      have kk : KB w.heap.size pb w w1 := by refine KB.trans ?_ (k.mono (by (try simp) <;> omega)); (repeat (first | with_reducible exact HK0.out | with_reducible refine KB.setNew ?_ (by omega) _ | with_reducible refine KB.alloc ?_ _ (by (try simp) <;> omega)))
      have hr : w1.heap[w.heap.size]? = some (.cells #[.int .u8 0, .slice none 0 0, .int .u8 0, .int .i64 0, .int .i64 0, .int .i64 0, .slice none 0 0, .int .i64 0] 36 (0, 0)) := ObjRow.keep k (row_new _ _ _ rfl) (by simp) (by omega)
      have Hhr := Lib.hid hr
      have HK1 := Lib.hid kk
      have HP1 := Lib.hid P
      clear k P h kk hr
      go_wp2_with (fail)
      go_at_call 85
      refine (cp_lit pb ⟨#[123]⟩ (by simp [go_sem]) r1 en _ (by repeat (first | with_reducible exact HP1.out | with_reducible refine PSt.setNew ?_ (by omega) _ | with_reducible refine PSt.kept ?_ (World.grownBy_alloc _ _ none) (by simp)))).mono ?_
      rw [hq2]
      rintro e w2 h
      obtain ⟨k, P, v, rfl, rfl⟩ := h.ok
      have hzz2 := k.size
      try simp at hzz2
      have kk : KB w.heap.size pb w w2 := by refine KB.trans ?_ (k.mono (by (try simp) <;> omega)); (repeat (first | with_reducible exact HK1.out | with_reducible refine KB.setNew ?_ (by omega) _ | with_reducible refine KB.alloc ?_ _ (by (try simp) <;> omega)))
      have hr := ObjRow.keep k (row_alloc (row_alloc Hhr.out (.cells #[.string n1] 9)) (.cells #[.int .u8 1, .slice (some ⟨w1.heap.size, 0, none⟩) 1 1, .int .u8 0, .int .i64 0, .int .i64 0, .int .i64 0, .slice none 0 0, .int .i64 0] 36)) (by (try simp) <;> omega) (by omega)
      have hs : w2.heap[w1.heap.size]? = some (.cells #[.string n1] 9 (0, 0)) := ObjRow.keep k (row_alloc (row_new _ _ _ rfl) _) (by (try simp) <;> omega) (by omega)
      have hc : w2.heap[w1.heap.size + 1]? = some (.cells #[.int .u8 1, .slice (some ⟨w1.heap.size, 0, none⟩) 1 1, .int .u8 0, .int .i64 0, .int .i64 0, .int .i64 0, .slice none 0 0, .int .i64 0] 36 (0, 0)) := ObjRow.keep k (row_new _ _ _ (by simp)) (by simp) (by omega)
      have Hhr2 := Lib.hid hr
      have Hhs2 := Lib.hid hs
      have Hhc2 := Lib.hid hc
      have HK2 := Lib.hid kk
      have HP2 := Lib.hid P
      clear k P h kk hr hs hc
      go_wp2_with (fail)
      go_at_call 86
      refine (c_itemReaders w2).mono ?_
      rintro e w3 ⟨rfl, hm3, b3⟩
      have hzz3 := hm3.lt
      have Hhr3 := Lib.hid ((b3.block _ (by omega)).trans Hhr2.out)
      have Hhs3 := Lib.hid ((b3.block _ (by omega)).trans Hhs2.out)
      have Hhc3 := Lib.hid ((b3.block _ (by omega)).trans Hhc2.out)
      have HK3 := Lib.hid (HK2.out.trans (KB.of_below (b3.mono (by omega))))
      have HP3 := Lib.hid (HP2.out.below b3)
      have Hm3 := Lib.hid hm3
      clear hm3 b3
      go_wp2_with (fail)
      go_loopw [15] (fun _ wr => SvRel w pb w1.heap.size w2.heap.size en n1 R0 wr) (fun _ wr => leftOf wr pb)
      case atStart =>
        exact ⟨[], r2, .slice none 0 0, HR0.out, HP3.out, HK3.out, Hhr3.out, Hhc3.out, Hhs3.out, Hm3.out, OwnCl.nil _ _, by simp; omega⟩
      case round =>
        obtain ⟨acc, rest, v, hR, P, K, hr, hc, hs, hm, hown, hln⟩ := hrel
        obtain ⟨vA, vn, vc, rfl⟩ := (show ∃ A n c, v = .slice A n c from by obtain ⟨us, ho, _⟩ := hown; exact ownsRow_slice ho)
        have hms := P.left
        have hfr := c_front pb rest en wr P
        have hfi := front_is ⟨#[125]⟩ [125] (by simp [go_sem]) (by decide) rest en
        obtain ⟨t0, ht0⟩ : ∃ t0, t0 = frontTok en rest := ⟨_, rfl⟩
        rw [← ht0] at hfr hfi
        have hmr := hm.lt
        have Hms := Lib.hid hms
        have Hfr := Lib.hid hfr
        have HP := Lib.hid P
        have HK := Lib.hid K
        have Hhr' := Lib.hid hr
        have Hhc' := Lib.hid hc
        have Hhs' := Lib.hid hs
        have Hm' := Lib.hid hm
        have Hown := Lib.hid hown
        have HRR := Lib.hid hR
        have hzr := K.size
        have hcl : w1.heap.size + 1 < wr.heap.size := (Array.getElem?_eq_some_iff.1 hc).1
        have hpc : pb < wr.heap.size := P.lt
        obtain ⟨kd, tx, nm, off⟩ := t0
        dsimp only at hfi
        have hfd := tok_field1 kd tx nm off
        clear hms hfr P K hr hc hs hm hown hR ht0
        cases hf : frontIs ⟨#[125]⟩ rest with
        | true =>
          rw [hf] at hfi
          have hfi' : (tx.toList != [125]) = false := by rw [bne, hfi]; rfl
          obtain ⟨t, rest', hrest, hq⟩ := pLit_is hf
          have hst : R0 = .ok (.mk 1 [n1] 0 0 0 0 acc 0, rest') := by
            rw [HRR.out, pMany_eq takes_item, hf]
            simp [bindR, svEnd, hq]
          have Hst := Lib.hid hst
          have Hq := Lib.hid hq
          clear hst hrest hq
          go_wp2_with (go_at_call 30; refine Hfr.out.mono ?_; rintro e w4 ⟨rfl, b4⟩; have B4 := Lib.hid b4; have hzz4 := b4.size; clear b4; unfold Tok.val)
          have HP4 := Lib.hid (HP.out.below B4.out)
          have HK4 := Lib.hid (HK.out.trans (KB.of_below (B4.out.mono HK.out.size)))
          have Hhr4 := Lib.hid ((B4.out.block _ (by omega)).trans Hhr'.out)
          have Hhs4 := Lib.hid ((B4.out.block _ (by omega)).trans Hhs'.out)
          have Hhc4 := Lib.hid ((B4.out.block _ hcl).trans Hhc'.out)
          have Hown4 := Lib.hid (Hown.out.kept (fun b _ hb => B4.out.block b hb) B4.out.size)
          go_at_call 85
          refine (cp_lit pb ⟨#[125]⟩ (by simp [go_sem]) rest en _ HP4.out).mono ?_
          rw [Hq.out]
          rintro e w5 h
          obtain ⟨k, P, v5, rfl, rfl⟩ := h.ok
          have hzz5 := k.size
          have kk : KB w.heap.size pb w w5 := HK4.out.trans (k.mono (by omega))
          have hr := ObjRow.keep k Hhr4.out (by omega) (by omega)
          have hs := ObjRow.keep k Hhs4.out (by omega) (by omega)
          have hc := ObjRow.keep k Hhc4.out (by omega) (by omega)
          have hown5 := Hown4.out.kept (fun b hb1 hb => k.block b hb (by omega)) k.size
          obtain ⟨c0, c1, c2, c3, c4, c5, c6, c7⟩ := eight_cells hc
          obtain ⟨f0, f1, f2, f3, f4, f5, f6, f7⟩ := eight_frozen hc
          obtain ⟨z0, z1, z2, z3, z4, z5, z6, z7⟩ := eight_cells hr
          obtain ⟨g0, g1, g2, g3, g4, g5, g6, g7⟩ := eight_frozen hr
          have Hhr5 := Lib.hid hr
          have Hhs5 := Lib.hid hs
          have HP5 := Lib.hid P
          have HK5 := Lib.hid kk
          have Hown5 := Lib.hid hown5
          clear k P kk hr hs hc h hown5
          go_wp2_with (fail)
          rw [Hst.out]
          refine ret8 (i := 2) (b := w.heap.size) rfl rfl rfl (row_store8 Hhr5.out (.int .u8 1) (.slice (some ⟨w1.heap.size, 0, none⟩) 1 1) (.int .u8 0) (.int .i64 0) (.int .i64 0) (.int .i64 0) (.slice vA vn vc) (.int .i64 0)) ⟨?_, ?_, _, rfl, _, _, rfl, ?_, ?_⟩
          · repeat (first | with_reducible exact HK5.out | with_reducible refine KB.setNew ?_ (by omega) _)
          · repeat (first | with_reducible exact HP5.out | with_reducible refine PSt.setNew ?_ (by omega) _)
          · refine StrSl.one (b := w1.heap.size) ?_ (by omega)
            have hne : w1.heap.size ≠ w.heap.size := by omega
            simp only [heap_setCell_ne _ _ hne]
            exact Hhs5.out
          · refine (Hown5.out.kept (w' := _) (fun b hb1 hb2 => ?_) (by simp)).sl.stand (fun b hb => ⟨⟨by have := hb.1; omega, hb.2⟩, rfl⟩)
            have hne : b ≠ w.heap.size := by omega
            simp only [heap_setCell_ne _ _ hne]
        | false =>
          rw [hf] at hfi
          have hfi' : (tx.toList != [125]) = true := by rw [bne, hfi]; rfl
          have hst : R0 = bindR (pItem rest) fun c r => bindR (pMany (frontIs ⟨#[125]⟩) pItem r) fun its r => svEnd n1 ((acc ++ [c]) ++ its) r := by
            rw [HRR.out, pMany_eq takes_item, hf]
            simp only [Bool.false_eq_true, if_false, bindR]
            cases pItem rest with
            | error r => rfl
            | ok y =>
              obtain ⟨n, r⟩ := y
              simp only
              cases pMany (frontIs ⟨#[125]⟩) pItem r with
              | error r => rfl
              | ok y =>
                obtain ⟨ns, r⟩ := y
                simp
          have Hst := Lib.hid hst
          clear hst
          go_wp2_with (go_at_call 30; refine Hfr.out.mono ?_; rintro e w4 ⟨rfl, b4⟩; have B4 := Lib.hid b4; have hzz4 := b4.size; clear b4; unfold Tok.val)
          have HP4 := Lib.hid (HP.out.below B4.out)
          have HK4 := Lib.hid (HK.out.trans (KB.of_below (B4.out.mono HK.out.size)))
          have Hhr4 := Lib.hid ((B4.out.block _ (by omega)).trans Hhr'.out)
          have Hhs4 := Lib.hid ((B4.out.block _ (by omega)).trans Hhs'.out)
          have hc4 := (B4.out.block _ hcl).trans Hhc'.out
          have Hhc4 := Lib.hid hc4
          have Hm4 := Lib.hid (Hm'.out.keep (B4.out.block _ hmr))
          have Hown4 := Lib.hid (Hown.out.kept (fun b _ hb => B4.out.block b hb) B4.out.size)
          obtain ⟨c0, c1, c2, c3, c4, c5, c6, c7⟩ := eight_cells hc4
          clear hc4
          have hfm : Tryz.prog.follows Departure.mixedOrders = true := by kernel_rfl
          cases hqn : pItem rest with
          | error r5 =>
            have HR2 := Lib.hid (show R0 = .error r5 from by rw [Hst.out, hqn]; rfl)
            have Hqn := Lib.hid hqn
            clear hqn
            refine wp_region_any (by kernel_rfl) ?_
            change wpAny _ _ _ _ _ _ _ (World.drew _)
            refine wpAny_take (i := 0) (v := ?_) rfl (by kernel_rfl) (by kernel_rfl) (by kernel_rfl) (fun _ _ _ h => h) (Or.inl ⟨by rfl, ?_⟩) ?_
            rotate_left
            · intro w
              go_simp
              try (with_reducible rfl)
            refine wpAny_take (i := 2) (v := ?_) rfl (by kernel_rfl) (by kernel_rfl) (by kernel_rfl) (fun _ _ _ h => h) (Or.inl ⟨by rfl, ?_⟩) ?_
            rotate_left
            · intro w
              go_simp
              try (with_reducible rfl)
            refine wpAny_take (i := 3) (v := ?_) rfl (by kernel_rfl) (by kernel_rfl) (by kernel_rfl) (fun _ _ _ h => h) (Or.inl ⟨by rfl, ?_⟩) ?_
            rotate_left
            · intro w
              go_simp
              try (with_reducible rfl)
            refine wpAny_ready (rs := [1, 4]) (by kernel_rfl) (by simp) ?_
            refine AllReady.cons rfl (fun K hK => ?_) (AllReady.cons rfl (fun K hK => ?_) AllReady.nil)
            · go_simp
              refine hK _ _ ?_
              clear hK K
              refine wpAny_ready (rs := [4]) (by kernel_rfl) (by simp) ?_
              refine AllReady.cons rfl (fun K hK => ?_) AllReady.nil
              go_simp
              go_at_call 50
              refine (cp_item pb w2.heap.size rest (by omega) en _ HP4.out.drew Hm4.out (by omega)).mono ?_
              rw [show pClause itemTab rest = .error r5 from Hqn.out]
              rintro e w5 h
              obtain ⟨k, P, rfl⟩ := h.error
              exact And.intro rfl (RdPost.of_error HR2.out (HK4.out.trans ((KB.undrew k).mono (by omega))) P)
            · go_simp
              go_at_call 50
              refine (cp_item pb w2.heap.size rest (by omega) en _ HP4.out.drew Hm4.out (by omega)).mono ?_
              rw [show pClause itemTab rest = .error r5 from Hqn.out]
              rintro e w5 h
              obtain ⟨k, P, rfl⟩ := h.error
              exact And.intro rfl (RdPost.of_error HR2.out (HK4.out.trans ((KB.undrew k).mono (by omega))) P)
          | ok y =>
            obtain ⟨c, r5⟩ := y
            have hlr5 := takes_item rest c r5 hqn
            have HR2 := Lib.hid (show R0 = bindR (pMany (frontIs ⟨#[125]⟩) pItem r5) fun its r => svEnd n1 ((acc ++ [c]) ++ its) r from by rw [Hst.out, hqn]; rfl)
            have Hqn := Lib.hid hqn
            obtain ⟨us, hus, hag⟩ := Hown4.out
            have Hus := Lib.hid hus
            have Hag := Lib.hid hag
            clear hqn hus hag
            go_region_law (first
              | (go_simp; go_at_call 50; refine (cp_item pb w2.heap.size rest (by omega) en _ HP4.out.drew Hm4.out (by omega)).mono ?_; rw [show pClause itemTab rest = .ok (c, r5) from Hqn.out]; rintro e w5 h; obtain ⟨k', P, v5, rfl, yn, yi, rfl, hsn, hsi⟩ := h.ok; obtain ⟨A1, m1, p1, rfl⟩ := hsn.shape; obtain ⟨A2, m2, p2, rfl⟩ := hsi.shape; have k := KB.undrew k'; have hzz5 := k.size; have hcl5 : w1.heap.size + 1 < w5.heap.size := (by omega); have K5 := Lib.hid (HK4.out.trans (k.mono (by omega))); have HP5 := Lib.hid P; have hc5 := ObjRow.keep k Hhc4.out (by omega) (by omega); have Hhr5 := Lib.hid (ObjRow.keep k Hhr4.out (by omega) (by omega)); have Hhs5 := Lib.hid (ObjRow.keep k Hhs4.out (by omega) (by omega)); have Hm5 := Lib.hid (Hm4.out.keep (k.block _ (by omega) (by omega))); have Hus5 := Lib.hid (Hus.out.kept (k.grown (Nat.le_refl _)) (.inr fun e => by have := (Hus.out.lt pb e).1; omega)); have Hag5 := Lib.hid (aggs_stand (w' := w5) (ok' := Off (w2.heap.size + 1) w5.heap.size (.slice vA vn vc)) (fun b hb => ⟨⟨hb.1, Nat.lt_of_lt_of_le hb.2.1 k.size, hb.2.2⟩, k.block b hb.2.1 (by have := hb.1; omega)⟩) acc us Hag.out); have Hsn := Lib.hid hsn; have Hsi := Lib.hid hsi; have Hhc5 := Lib.hid hc5; obtain ⟨d0, d1, d2, d3, d4, d5, d6, d7⟩ := eight_cells hc5; clear k k' P h hc5 hsn hsi)
              | (refine step_append_lies _ rfl (.tmp 17) (.tmp 21) 22 rfl (w2.heap.size + 1) 36 i0 (.agg #[.int .u8 0, .slice none 0 0, .int .u8 0, .int .i64 0, .int .i64 0, .int .i64 0, .slice none 0 0, .int .i64 0]) 8 96 Tryz.underlying22 hi hz0 hz1 hz2 rfl (by decide) (.slice vA vn vc) acc.length us (by simp [Act.eval, Act.put]) (Hus5.out.alloc _) ⟨w5.heap.size, 0, none⟩ 1 1 [.int .u8 c.kind, .slice A1 m1 p1, .int .u8 c.dom, .int .i64 c.idx, .int .i64 c.a, .int .i64 c.b, .slice A2 m2 p2, .int .i64 c.off] (by simp [Act.eval, Act.put]) rfl (World.news_of_block (row_new _ _ _ rfl)) (by intro u hu; simp at hu; rcases hu with rfl | rfl | rfl | rfl | rfl | rfl | rfl | rfl <;> rfl) (by omega) (by simp only [maxLen]; omega) (by omega) (by (try simp) <;> omega) _ rfl ?_; intro g cap w6 hown6 hgrow hat hlt6; have hvc := ownsRow_nd Hus5.out (w1.heap.size + 1) (by omega); have hc6 := (hgrow.block (w1.heap.size + 1) (by (try simp) <;> omega) (fun e => hvc e.symm)).trans (row_alloc Hhc5.out _); obtain ⟨e0, e1, e2, e3, e4, e5, e6, e7⟩ := eight_cells hc6; obtain ⟨g0, g1, g2, g3, g4, g5, g6, g7⟩ := eight_frozen hc6; have Hhc6 := Lib.hid hc6; clear hc6))
            all_goals go_wp2_with (fail)
            all_goals (
              have hrow : ∀ k, (Value.slice vA vn vc).ownBlock = some k → w2.heap.size + 1 ≤ k := fun k e => (Hus5.out.lt k e).1
              have hP6 := (HP5.out.kept (World.grownBy_alloc w5 (.cells #[.int .u8 c.kind, .slice A1 m1 p1, .int .u8 c.dom, .int .i64 c.idx, .int .i64 c.a, .int .i64 c.b, .slice A2 m2 p2, .int .i64 c.off] 36) none) (by simp)).kept hgrow (fun b e => by have := hrow b e; omega)
              have hP7 := hP6.setNew (j := 6) (B := w1.heap.size + 1) (by omega) (.slice (some ⟨g, 0, none⟩) (acc.length + 1) cap)
              have hlowb : ∀ b, b < w2.heap.size + 1 → b < w5.heap.size → w6.heap[b]? = w5.heap[b]? := fun b hb hb5 => (hgrow.block b (by (try simp) <;> omega) (fun e => by have := hrow b e.symm; omega)).trans (row_alloc_eq _ _ hb5)
              have hcag : Cl.agg w5 (Off (w2.heap.size + 1) w5.heap.size (.slice vA vn vc)) c [.int .u8 c.kind, .slice A1 m1 p1, .int .u8 c.dom, .int .i64 c.idx, .int .i64 c.a, .int .i64 c.b, .slice A2 m2 p2, .int .i64 c.off] := by
                have hok : ∀ b, Btw w4.drew.heap.size w5.heap.size b → Off (w2.heap.size + 1) w5.heap.size (.slice vA vn vc) b := fun b hb => by
                  have h1 : w4.heap.size ≤ b := hb.1
                  refine ⟨by omega, hb.2, fun e => ?_⟩
                  have := (Hus.out.lt b e).2
                  omega
                exact (Cl.agg_iff _ _ _ _).2 ⟨_, _, rfl, Hsn.out.stand (fun b hb => ⟨hok b hb, rfl⟩), Hsi.out.stand (fun b hb => ⟨hok b hb, rfl⟩)⟩
              have hup : Stand (Off (w2.heap.size + 1) w5.heap.size (.slice vA vn vc)) (Off (w2.heap.size + 1) (w5.alloc (.cells #[.int .u8 c.kind, .slice A1 m1 p1, .int .u8 c.dom, .int .i64 c.idx, .int .i64 c.a, .int .i64 c.b, .slice A2 m2 p2, .int .i64 c.off] 36)).heap.size (.slice vA vn vc)) w5 (w5.alloc (.cells #[.int .u8 c.kind, .slice A1 m1 p1, .int .u8 c.dom, .int .i64 c.idx, .int .i64 c.a, .int .i64 c.b, .slice A2 m2 p2, .int .i64 c.off] 36)) := fun b hb => ⟨⟨hb.1, by have := hb.2.1; simp; omega, hb.2.2⟩, row_alloc_eq _ _ hb.2.1⟩
              have hO6 := OwnCl.appended (aggs_stand hup acc us Hag5.out) (Cl.agg_stand hup c _ hcag) hown6 hgrow hat
              refine ⟨⟨acc ++ [c], r5, .slice (some ⟨g, 0, none⟩) (acc.length + 1) cap, HR2.out, hP7, ?_, ?_, ?_, ?_, ?_, ?_, ?_⟩, ?_⟩
              · exact ((K5.out.alloc _ (by omega)).grownStep hgrow (by (try simp) <;> omega) (fun k e => by have := hrow k e; omega)).setNew (by omega) _
              · exact row_other ((hlowb _ (by omega) (by omega)).trans Hhr5.out) (by omega) _
              · exact row8_6 Hhc6.out _
              · exact row_other ((hlowb _ (by omega) (by omega)).trans Hhs5.out) (by omega) _
              · exact Hm5.out.keep ((heap_setCell_ne _ _ (by omega)).trans (hlowb _ (by omega) (by omega)))
              · exact hO6.kept (fun b hb _ => heap_setCell_ne _ _ (by omega)) (by simp)
              · rw [List.length_append]; simp; omega
              · rw [hP7.left, Hms.out]; omega)
end Go.Proofs.YtplnnpkohdmiaaaGreatDoor
