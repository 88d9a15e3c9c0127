/-
  DERIVED. Several texts in one.
-/
import Derived.Test.YtplnnpkohdmiaaaGreatDoorYPIm
import Derived.Deep.AppendLies
import Derived.Deep.RegionLaw
import Derived.Maps.AppendAt
import Derived.Lib.Hide
set_option linter.unusedVariables false
set_option linter.unusedSimpArgs false

/- DERIVED. The landed parser's apart: a loop that appends names. -/
namespace Go.Proofs.YtplnnpkohdmiaaaGreatDoor
open Go.RowKit
set_option maxRecDepth 100000

theorem KB.grown {n pb : Nat} {W W' : World} (h : KB n pb W W') (hn : W.heap.size ≤ n) : W.grownBy W' (some pb) :=
  ⟨h.os, h.tape, h.output, h.size, fun k hk hne => h.block k (by omega) (fun e => hne (by rw [e]))⟩
theorem KB.undrew {pb : Nat} {a b : World} (h : KB a.drew.heap.size pb a.drew b) : KB a.heap.size pb a b := ⟨h.os, h.tape, h.output, h.size, h.block⟩
theorem PSt.drew {w : World} {pb : Nat} {l : List Tok} {en : Int} (h : PSt w pb l en) : PSt w.drew pb l en := h
theorem RdPost.of_error {α : Type} {pb : Nat} {en : Int} {w w' : World} {val : α → World → Value → Prop} {R : Rd α} {l : List Tok} (hR : R = .error l) (hk : KB w.heap.size pb w w') (hP : PSt w' pb l en) :
    RdPost pb en w val R (.panicked [{ v := .iface 25 (.int .i64 4), recovered := false }]) w' := by subst hR; exact ⟨hk, hP, rfl⟩
theorem KB.grownStep {n pb : Nat} {a b c : World} {row : Option Nat} (h : KB n pb a b) (hg : b.grownBy c row) (hn : n ≤ b.heap.size) (hr : ∀ k, row = some k → n ≤ k) : KB n pb a c :=
  ⟨hg.os.trans h.os, hg.tape.trans h.tape, hg.output.trans h.output, Nat.le_trans h.size hg.size, fun k hk hp => (hg.block k (by omega) (fun e => by have := hr k e.symm; omega)).trans (h.block k hk hp)⟩
theorem below_grown {n : Nat} {W W' : World} (h : Below n W W') (hn : W.heap.size ≤ n) (row : Option Nat) : W.grownBy W' row :=
  ⟨h.os, h.tape, h.output, h.size, fun k hk _ => h.block k (by omega)⟩
theorem ownsRow_move {w w' : World} {base : Nat} {e : TypeId} {size : Nat} {v : Value} {n : Nat} {xs : List Value} (h : w.ownsRow base e size v n xs) (H : ∀ g, v.ownBlock = some g → w'.heap[g]? = w.heap[g]?) : w'.ownsRow base e size v n xs := by
  obtain ⟨h1, h2 | ⟨g, cap, cur, rfl, hb, hg, hn, hm, hs⟩⟩ := h
  · exact ⟨h1, .inl h2⟩
  · exact ⟨h1, .inr ⟨g, cap, cur, rfl, hb, (H g rfl).trans hg, hn, hm, hs⟩⟩
theorem ownsRow_typ {w : World} {base : Nat} {e : TypeId} {size : Nat} {v : Value} {n : Nat} {xs : List Value} (h : w.ownsRow base e size v n xs) {b : Nat} {cs : Array Value} {T : TypeId} {fr : Nat × Nat} (hb : w.heap[b]? = some (.cells cs T fr)) (hT : T ≠ e) : v.ownBlock ≠ some b := by
  intro hv
  obtain ⟨h1, ⟨rfl, _⟩ | ⟨g, cap, cur, rfl, _, hg, _⟩⟩ := h
  · simp [Value.ownBlock] at hv
  · simp [Value.ownBlock] at hv
    subst hv
    rw [hg] at hb
    injection hb with hb
    injection hb with _ hb _
    exact hT hb.symm
theorem StrSl.of_own {w : World} {base lo : Nat} {v : Value} {l : List ByteArray} (h : w.ownsRow base 9 1 v l.length (l.map .string)) (hb : lo ≤ base) : StrSl w (Btw lo w.heap.size) v l := by
  have hlt := h.lt
  have hc := fun g (hg : v.ownBlock = some g) => h.cells hg
  rcases h.2 with ⟨rfl, h0⟩ | ⟨g, cap, cur, rfl, hbg, hg, hn, hm, _⟩
  · rw [List.eq_nil_of_length_eq_zero h0]; exact StrSl.nil _ _
  · refine ⟨_, cap, rfl, hn, hm, fun _ => ⟨g, 0, rfl, ⟨by omega, (hlt g rfl).2⟩, fun j s hj => ?_⟩⟩
    have := hc g rfl j (.string s) (by simp [hj])
    rw [add0] at this
    rwa [Nat.zero_add]
theorem StrSl.up {w : World} {lo hi hi' : Nat} {v : Value} {l : List ByteArray} (h : StrSl w (Btw lo hi) v l) (hh : hi ≤ hi') : StrSl w (Btw lo hi') v l :=
  h.stand fun b hb => ⟨⟨hb.1, by have := hb.2; omega⟩, rfl⟩

/-- How many tokens the parser has left. -/
def leftOf (w : World) (pb : Nat) : Nat := match w.cell? ⟨pb, 0, none⟩ with | some (.slice _ n _) => n | _ => 0
theorem PSt.left {w : World} {pb : Nat} {l : List Tok} {en : Int} (h : PSt w pb l en) : leftOf w pb = l.length := by
  obtain ⟨A, c, hc, _⟩ := h.cell
  simp [leftOf, hc]

theorem front_is (s : ByteArray) (L : List UInt8) (hs : s.toList = L) (hL : L ≠ []) (l : List Tok) (en : Int) : ((frontTok en l).text.toList == L) = frontIs s l := by
  cases l with
  | nil =>
    unfold frontTok frontIs
    rw [beq_eq_false_iff_ne]
    intro h
    apply hL
    rw [← h]
    simp [go_sem]
  | cons t l => unfold frontTok frontIs fitLit; rw [hs]

def apEnd (ns : List ByteArray) (l : List Tok) : Rd Cl := bindR (pLit ⟨#[59]⟩ l) fun _ r => .ok (.mk 10 ns 0 0 0 0 [] 0, r)
theorem pApart_eq (l : List Tok) : pApart l = bindR (pName l) fun n r => bindR (pMany (fun l => !frontIs ⟨#[44]⟩ l) pOther r) fun ns r => apEnd ([n] ++ ns) r := rfl

/-- Between two rounds of the loop of apart. -/
def ApRel (w : World) (pb cb : Nat) (en : Int) (R0 : Rd Cl) (wr : World) : Prop :=
  ∃ (acc : List ByteArray) (rest : List Tok) (v : Value), R0 = (bindR (pMany (fun l => !frontIs ⟨#[44]⟩ l) pOther rest) fun ns r => apEnd (acc ++ ns) r) ∧ PSt wr pb rest en ∧ KB w.heap.size pb w wr ∧
    wr.heap[w.heap.size]? = some (.cells #[.int .u8 0, .slice none 0 0, .int .u8 0, .int .i64 0, .int .i64 0, .int .i64 0, .slice none 0 0, .int .i64 0] 36 (0, 0)) ∧
    wr.heap[cb]? = some (.cells #[.int .u8 10, v, .int .u8 0, .int .i64 0, .int .i64 0, .int .i64 0, .slice none 0 0, .int .i64 0] 36 (0, 0)) ∧
    wr.ownsRow w.heap.size 9 1 v acc.length (acc.map .string) ∧ acc.length + rest.length ≤ 5001

theorem infoStr : (Tryz.prog.info? 9).map (fun i => (i.zero, i.size, i.bytes)) = some (some (.string ⟨#[]⟩), 1, 16) := by kernel_rfl

set_option maxHeartbeats 20000000 in
theorem cp_apart (pb : Nat) (l : List Tok) (hl : l.length ≤ 5000) (en : Int) (w : World) (h : PSt w pb l en) :
    Calls Tryz.prog 104 #[.pointer (some ⟨pb, 0, none⟩)] w (RdPost pb en w (ClV w.heap.size) (pApart l)) := by
  have hlt := h.lt
  have HP0 := Lib.hid h
  have HK0 := Lib.hid (KB.refl w.heap.size pb w)
  obtain ⟨i0, hi, hz0, hz1, hz2⟩ := info_parts infoStr
  clear h
  rw [pApart_eq]
  cases hq1 : pName l with
  | error r1 =>
    go_enter Tryz.func104, Tryz.ntmps104
    go_wp2_with (fail)
    go_at_call 84
    refine (cp_name pb l en _ (by repeat (first | with_reducible exact HP0.out | with_reducible refine PSt.kept ?_ (World.grownBy_alloc _ _ none) (by simp)))).mono ?_
    rw [hq1]
    rintro e w1 h
    obtain ⟨k, P, rfl⟩ := h.error
    have kk : KB w.heap.size pb w w1 := by refine KB.trans ?_ (k.mono (by (try simp) <;> omega)); (repeat (first | with_reducible exact HK0.out | with_reducible refine KB.alloc ?_ _ (by (try simp) <;> omega)))
    go_wp2_with (fail)
    exact ⟨rfl, kk, P, rfl⟩
  | ok y =>
    obtain ⟨n1, r1⟩ := y
    have hr1 := falls_name l n1 r1 hq1
    simp only [bindR]
    obtain ⟨R0, hR0⟩ : ∃ R0, R0 = (bindR (pMany (fun l => !frontIs ⟨#[44]⟩ l) pOther r1) fun ns r => apEnd ([n1] ++ ns) r) := ⟨_, rfl⟩
    have hR0' := hR0
    unfold bindR at hR0'
    rw [← hR0']
    clear hR0'
    have HR0 := Lib.hid hR0
    clear hR0
    go_enter Tryz.func104, Tryz.ntmps104
    go_wp2_with (fail)
    go_at_call 84
    refine (cp_name pb l en _ (by repeat (first | with_reducible exact HP0.out | with_reducible refine PSt.kept ?_ (World.grownBy_alloc _ _ none) (by simp)))).mono ?_
    rw [hq1]
    rintro e w1 h
    obtain ⟨k, P, v, rfl, rfl⟩ := h.ok
    have hz1' := k.size
    try simp at hz1'
    have kk : KB w.heap.size pb w w1 := by refine KB.trans ?_ (k.mono (by (try simp) <;> omega)); (repeat (first | with_reducible exact HK0.out | with_reducible refine KB.alloc ?_ _ (by (try simp) <;> omega)))
    have hr : w1.heap[w.heap.size]? = some (.cells #[.int .u8 0, .slice none 0 0, .int .u8 0, .int .i64 0, .int .i64 0, .int .i64 0, .slice none 0 0, .int .i64 0] 36 (0, 0)) := ObjRow.keep k (row_new _ _ _ rfl) (by simp) (by omega)
    have Hhr := Lib.hid hr
    have HK1 := Lib.hid kk
    have HP1 := Lib.hid P
    clear k P h kk hr
    go_wp2_with (fail)
    go_loopw [11] (fun _ wr => ApRel w pb (w1.heap.size + 1) en R0 wr) (fun _ wr => leftOf wr pb)
    case atStart =>
      refine ⟨[n1], r1, .slice (some ⟨w1.heap.size, 0, none⟩) 1 1, HR0.out, ?_, ?_, ?_, ?_, ?_, ?_⟩
      · repeat (first | with_reducible exact HP1.out | with_reducible refine PSt.kept ?_ (World.grownBy_alloc _ _ none) (by simp))
      · repeat (first | with_reducible exact HK1.out | with_reducible refine KB.alloc ?_ _ (by (try simp) <;> omega))
      · exact row_alloc (row_alloc Hhr.out _) _
      · exact row_new _ _ _ (by simp)
      · exact ⟨by simp, .inr ⟨w1.heap.size, 1, _, rfl, by omega, row_alloc (row_new _ _ _ rfl) _, by simp, by decide, rfl, rfl⟩⟩
      · simp; omega
    case round =>
      obtain ⟨acc, rest, v, hR, P, K, hr, hc, hown, hln⟩ := hrel
      obtain ⟨vA, vn, vc, rfl⟩ := ownsRow_slice hown
      have hms := P.left
      have hfr := c_front pb rest en wr P
      have hfi := front_is ⟨#[44]⟩ [44] (by simp [go_sem]) (by decide) rest en
      obtain ⟨t0, ht0⟩ : ∃ t0, t0 = frontTok en rest := ⟨_, rfl⟩
      rw [← ht0] at hfr hfi
      have Hms := Lib.hid hms
      have Hfr := Lib.hid hfr
      have HP := Lib.hid P
      have HK := Lib.hid K
      have Hhr' := Lib.hid hr
      have Hhc' := Lib.hid hc
      have Hown := Lib.hid hown
      have HRR := Lib.hid hR
      have hzr := K.size
      have hcl : w1.heap.size + 1 < wr.heap.size := (Array.getElem?_eq_some_iff.1 hc).1
      have hpc : pb < wr.heap.size := P.lt
      obtain ⟨kd, tx, nm, off⟩ := t0
      dsimp only at hfi
      have hfd := tok_field1 kd tx nm off
      clear hms hfr P K hr hc hown hR ht0
      cases hf : frontIs ⟨#[44]⟩ rest with
      | false =>
        rw [hf] at hfi
        have hst : R0 = apEnd acc rest := by
          rw [HRR.out, pMany_eq takes_other, hf]
          simp [bindR]
        have Hst := Lib.hid hst
        clear hst
        go_wp2_with (go_at_call 30; refine Hfr.out.mono ?_; rintro e w2 ⟨rfl, b2⟩; have B2 := Lib.hid b2; have hzz2 := b2.size; clear b2; unfold Tok.val)
        have hP2 := HP.out.below B2.out
        have kk2 := HK.out.trans (KB.of_below (B2.out.mono HK.out.size))
        have hr2 := (B2.out.block _ (by omega)).trans Hhr'.out
        have hc2 := (B2.out.block _ hcl).trans Hhc'.out
        have HP2 := Lib.hid hP2
        have HK2 := Lib.hid kk2
        have Hhr2 := Lib.hid hr2
        have Hhc2 := Lib.hid hc2
        clear hP2 kk2 hr2 hc2
        go_at_call 85
        refine (cp_lit pb ⟨#[59]⟩ (by simp [go_sem]) rest en _ HP2.out).mono ?_
        cases hq : pLit ⟨#[59]⟩ rest with
        | error r2 =>
          rintro e w3 h
          obtain ⟨k, P, rfl⟩ := h.error
          have hR2 : R0 = .error r2 := by rw [Hst.out, apEnd, hq]; rfl
          have HR2 := Lib.hid hR2
          clear hR2
          go_wp2_with (fail)
          rw [HR2.out]
          exact ⟨rfl, HK2.out.trans (k.mono (by omega)), P, rfl⟩
        | ok y =>
          obtain ⟨_, r2⟩ := y
          rintro e w3 h
          obtain ⟨k, P, v3, rfl, rfl⟩ := h.ok
          have hR2 : R0 = .ok (.mk 10 acc 0 0 0 0 [] 0, r2) := by rw [Hst.out, apEnd, hq]; rfl
          have kk : KB w.heap.size pb w w3 := HK2.out.trans (k.mono (by omega))
          have hr := ObjRow.keep k Hhr2.out (by omega) (by omega)
          have hc := ObjRow.keep k Hhc2.out (by omega) (by omega)
          have hown2 := Hown.out.kept (below_grown B2.out (Nat.le_refl _) none) (Classical.em _)
          have hown3 := hown2.kept (k.grown (Nat.le_refl _)) (.inr fun e => by have := (hown2.lt pb e).1; omega)
          have hnr := ownsRow_typ hown3 hr (by decide)
          obtain ⟨c0, c1, c2, c3, c4, c5, c6, c7⟩ := eight_cells hc
          obtain ⟨f0, f1, f2, f3, f4, f5, f6, f7⟩ := eight_frozen hc
          obtain ⟨z0, z1, z2, z3, z4, z5, z6, z7⟩ := eight_cells hr
          obtain ⟨g0, g1, g2, g3, g4, g5, g6, g7⟩ := eight_frozen hr
          have Hhr3 := Lib.hid hr
          have HR2 := Lib.hid hR2
          have HP3 := Lib.hid P
          have HK3 := Lib.hid kk
          have Hown3 := Lib.hid hown3
          have Hnr := Lib.hid hnr
          clear k P kk hr hc hR2 h hown2 hown3 hnr
          go_wp2_with (fail)
          rw [HR2.out]
          refine ret8 (i := 2) (b := w.heap.size) rfl rfl rfl (row_store8 Hhr3.out (.int .u8 10) (.slice vA vn vc) (.int .u8 0) (.int .i64 0) (.int .i64 0) (.int .i64 0) (.slice none 0 0) (.int .i64 0)) ⟨?_, ?_, _, rfl, _, _, rfl, ?_, ClSl.nil _ _⟩
          · repeat (first | with_reducible exact HK3.out | with_reducible refine KB.setNew ?_ (by omega) _)
          · repeat (first | with_reducible exact HP3.out | with_reducible refine PSt.setNew ?_ (by omega) _)
          · refine StrSl.of_own (ownsRow_move Hown3.out fun g hg => ?_) (Nat.le_refl _)
            have hgn : g ≠ w.heap.size := fun e => Hnr.out (by rw [← e]; exact hg)
            simp only [heap_setCell_ne _ _ hgn]
      | true =>
        rw [hf] at hfi
        obtain ⟨t, rest', hrest, hft⟩ : ∃ t rest', rest = t :: rest' ∧ fitLit ⟨#[44]⟩ t = true := by
          cases rest with
          | nil => cases hf
          | cons t l => exact ⟨t, l, rfl, hf⟩
        have hq : pLit ⟨#[44]⟩ rest = .ok ((), rest') := by
          rw [hrest]; simp [pLit, pNext, hft, bindR]
        have hst : R0 = bindR (pName rest') fun n r => bindR (pMany (fun l => !frontIs ⟨#[44]⟩ l) pOther r) fun ns r => apEnd ((acc ++ [n]) ++ ns) r := by
          rw [HRR.out, pMany_eq takes_other, hf]
          simp only [Bool.not_true, Bool.false_eq_true, if_false, pOther, hq, bindR]
          cases pName rest' with
          | error r => rfl
          | ok y =>
            obtain ⟨n, r⟩ := y
            simp only
            cases pMany (fun l => !frontIs ⟨#[44]⟩ l) pOther r with
            | error r => rfl
            | ok y =>
              obtain ⟨ns, r⟩ := y
              simp
        have hlr : rest.length = rest'.length + 1 := by rw [hrest]; rfl
        have Hst := Lib.hid hst
        clear hst hrest hft
        go_wp2_with (go_at_call 30; refine Hfr.out.mono ?_; rintro e w2 ⟨rfl, b2⟩; have B2 := Lib.hid b2; have hzz2 := b2.size; clear b2; unfold Tok.val)
        have hP2 := HP.out.below B2.out
        have kk2 := HK.out.trans (KB.of_below (B2.out.mono HK.out.size))
        have hr2 := (B2.out.block _ (by omega)).trans Hhr'.out
        have hc2 := (B2.out.block _ hcl).trans Hhc'.out
        have HP2 := Lib.hid hP2
        have HK2 := Lib.hid kk2
        have Hhr2 := Lib.hid hr2
        have Hhc2 := Lib.hid hc2
        clear hP2 kk2 hr2 hc2
        go_at_call 85
        refine (cp_lit pb ⟨#[44]⟩ (by simp [go_sem]) rest en _ HP2.out).mono ?_
        rw [hq]
        rintro e w3 h
        obtain ⟨k, P, v3, rfl, rfl⟩ := h.ok
        have kk : KB w.heap.size pb w w3 := HK2.out.trans (k.mono (by omega))
        have hr := ObjRow.keep k Hhr2.out (by omega) (by omega)
        have hc := ObjRow.keep k Hhc2.out (by omega) (by omega)
        have hown2 := Hown.out.kept (below_grown B2.out (Nat.le_refl _) none) (Classical.em _)
        have hown3 := hown2.kept (k.grown (Nat.le_refl _)) (.inr fun e => by have := (hown2.lt pb e).1; omega)
        have hz3 := k.size
        obtain ⟨c0, c1, c2, c3, c4, c5, c6, c7⟩ := eight_cells hc
        obtain ⟨f0, f1, f2, f3, f4, f5, f6, f7⟩ := eight_frozen hc
        have Hhr3 := Lib.hid hr
        have Hhc3 := Lib.hid hc
        have HP3 := Lib.hid P
        have HK3 := Lib.hid kk
        have Hown3 := Lib.hid hown3
        clear k P kk hr hc h hown2 hown3 hq
        have hN := cp_name pb rest' en w3 HP3.out
        have hfm : Tryz.prog.follows Departure.mixedOrders = true := by kernel_rfl
        cases hqn : pName rest' with
        | error r4 =>
          clear hN
          have hR2 : R0 = .error r4 := by rw [Hst.out, hqn]; rfl
          have HR2 := Lib.hid hR2
          have Hqn := Lib.hid hqn
          clear hR2 hqn
          go_wp2_with (fail)
          refine wp_region_any (by kernel_rfl) ?_
          change wpAny _ _ _ _ _ _ _ (World.drew _)
          refine wpAny_take (i := 0) (v := ?_) rfl (by kernel_rfl) (by kernel_rfl) (by kernel_rfl) (fun _ _ _ h => h) (Or.inl ⟨by rfl, ?_⟩) ?_
          rotate_left
          · intro w
            go_simp
            try (with_reducible rfl)
          refine wpAny_take (i := 2) (v := ?_) rfl (by kernel_rfl) (by kernel_rfl) (by kernel_rfl) (fun _ _ _ h => h) (Or.inl ⟨by rfl, ?_⟩) ?_
          rotate_left
          · intro w
            go_simp
            try (with_reducible rfl)
          refine wpAny_ready (rs := [1, 3]) (by kernel_rfl) (by simp) ?_
          refine AllReady.cons rfl (fun K hK => ?_) (AllReady.cons rfl (fun K hK => ?_) AllReady.nil)
          · go_simp
            refine hK _ _ ?_
            clear hK K
            refine wpAny_ready (rs := [3]) (by kernel_rfl) (by simp) ?_
            refine AllReady.cons rfl (fun K hK => ?_) AllReady.nil
            go_simp
            go_at_call 84
            refine (cp_name pb rest' en _ HP3.out.drew).mono ?_
            rw [Hqn.out]
            rintro e w4 h
            obtain ⟨k, P, rfl⟩ := h.error
            exact And.intro rfl (RdPost.of_error HR2.out (HK3.out.trans ((KB.undrew k).mono (by omega))) P)
          · go_simp
            go_at_call 84
            refine (cp_name pb rest' en _ HP3.out.drew).mono ?_
            rw [Hqn.out]
            rintro e w4 h
            obtain ⟨k, P, rfl⟩ := h.error
            exact And.intro rfl (RdPost.of_error HR2.out (HK3.out.trans ((KB.undrew k).mono (by omega))) P)
        | ok y =>
          obtain ⟨n4, r4⟩ := y
          clear hN
          have hlr4 := falls_name rest' n4 r4 hqn
          have hR2 : R0 = bindR (pMany (fun l => !frontIs ⟨#[44]⟩ l) pOther r4) fun ns r => apEnd ((acc ++ [n4]) ++ ns) r := by rw [Hst.out, hqn]; rfl
          have HR2 := Lib.hid hR2
          have Hqn := Lib.hid hqn
          have hvc := Lib.hid (ownsRow_typ Hown3.out Hhc3.out (by decide))
          clear hR2 hqn
          go_wp2_with (fail)
          go_region_law (first
            | (go_simp; go_at_call 84; refine (cp_name pb rest' en _ HP3.out.drew).mono ?_; rw [Hqn.out]; rintro e w4 h; obtain ⟨k', P, v4, rfl, rfl⟩ := h.ok; have k := KB.undrew k'; have hz4 := k.size; have hcl4 : w1.heap.size + 1 < w4.heap.size := (by omega); have K4 := Lib.hid (HK3.out.trans (k.mono (by omega))); have HP4 := Lib.hid P; have hc4 := ObjRow.keep k Hhc3.out (by omega) (by omega); have Hhr4 := Lib.hid (ObjRow.keep k Hhr3.out (by omega) (by omega)); have Hown4 := Lib.hid (Hown3.out.kept (k.grown (Nat.le_refl _)) (.inr fun e => by have := (Hown3.out.lt pb e).1; omega)); have Hhc4 := Lib.hid hc4; obtain ⟨d0, d1, d2, d3, d4, d5, d6, d7⟩ := eight_cells hc4; clear k k' P h hc4)
            | (refine step_append_lies _ rfl (.tmp 15) (.tmp 18) 33 rfl w.heap.size 9 i0 (.string ⟨#[]⟩) 1 16 Tryz.underlying33 hi hz0 hz1 hz2 rfl (by decide) (.slice vA vn vc) acc.length (acc.map .string) (by simp [Act.eval, Act.put]) (Hown4.out.alloc _) ⟨w4.heap.size, 0, none⟩ 1 1 [.string n4] (by simp [Act.eval, Act.put]) rfl (cell_one_new _ _ _) (by intro u hu; simp at hu; subst hu; rfl) (by omega) (by simp only [maxLen]; omega) (by omega) (by (try simp) <;> omega) _ rfl ?_; intro g cap w5 hown5 hgrow hat hlt5; have hc5 := (hgrow.block (w1.heap.size + 1) (by (try simp) <;> omega) (fun e => hvc.out e.symm)).trans (row_alloc Hhc4.out _); obtain ⟨e0, e1, e2, e3, e4, e5, e6, e7⟩ := eight_cells hc5; obtain ⟨g0, g1, g2, g3, g4, g5, g6, g7⟩ := eight_frozen hc5; have Hhc5 := Lib.hid hc5; clear hc5))
          all_goals go_wp2_with (fail)
          all_goals (
            have hrow : ∀ k, (Value.slice vA vn vc).ownBlock = some k → w.heap.size ≤ k := fun k e => (Hown4.out.lt k e).1
            have hP5 := (HP4.out.kept (World.grownBy_alloc w4 (.cells #[.string n4] 9) none) (by simp)).kept hgrow (fun b e => by have := hrow b e; omega)
            have hP6 := hP5.setNew (j := 1) (B := w1.heap.size + 1) (by omega) (.slice (some ⟨g, 0, none⟩) (acc.length + 1) cap)
            refine ⟨⟨acc ++ [n4], r4, .slice (some ⟨g, 0, none⟩) (acc.length + 1) cap, HR2.out, hP6, ?_, ?_, ?_, ?_, ?_⟩, ?_⟩
            · exact ((K4.out.alloc _ (by omega)).grownStep hgrow (by (try simp) <;> omega) hrow).setNew (by omega) _
            · refine row_other ((hgrow.block w.heap.size (by (try simp) <;> omega) (fun e => ?_)).trans (row_alloc Hhr4.out _)) (by omega) _
              exact ownsRow_typ Hown4.out Hhr4.out (by decide) e.symm
            · exact row8_1 Hhc5.out _
            · rw [List.length_append, List.map_append]
              refine ownsRow_move hown5 fun g' hg' => heap_setCell_ne _ _ ?_
              intro e
              subst e
              exact ownsRow_typ hown5 Hhc5.out (by decide) hg'
            · rw [List.length_append]; simp; omega
            · rw [hP6.left, Hms.out]; omega)
end Go.Proofs.YtplnnpkohdmiaaaGreatDoor

/- DERIVED. A slice of clauses that a call builds by append. -/
namespace Go.Proofs.YtplnnpkohdmiaaaGreatDoor
open Go.RowKit
set_option maxRecDepth 100000

def aggs (w : World) (ok : Nat → Prop) : List Cl → List Value → Prop
  | [], us => us = []
  | c :: l, us => ∃ a b, us = a ++ b ∧ c.agg w ok a ∧ aggs w ok l b
theorem Cl.agg_len {w : World} {ok : Nat → Prop} {c : Cl} {a : List Value} (h : c.agg w ok a) : a.length = 8 := by
  obtain ⟨vn, vi, rfl, _⟩ := (Cl.agg_iff _ _ _ _).1 h; rfl
theorem aggs_stand {w w' : World} {ok ok' : Nat → Prop} (H : Stand ok ok' w w') : ∀ (l : List Cl) (us : List Value), aggs w ok l us → aggs w' ok' l us
  | [], us, h => h
  | c :: l, us, h => by
    obtain ⟨a, b, rfl, h1, h2⟩ := h
    exact ⟨a, b, rfl, Cl.agg_stand H c a h1, aggs_stand H l b h2⟩
theorem aggs_snoc {w : World} {ok : Nat → Prop} {c : Cl} {a : List Value} (hc : c.agg w ok a) : ∀ (l : List Cl) (us : List Value), aggs w ok l us → aggs w ok (l ++ [c]) (us ++ a)
  | [], us, h => by
    have : us = [] := h
    subst this
    exact ⟨a, [], by simp, hc, rfl⟩
  | c' :: l, us, h => by
    obtain ⟨x, y, rfl, h1, h2⟩ := h
    exact ⟨x, y ++ a, by simp, h1, aggs_snoc hc l y h2⟩
theorem aggs_len {w : World} {ok : Nat → Prop} : ∀ (l : List Cl) (us : List Value), aggs w ok l us → us.length = l.length * 8
  | [], us, h => by
    have : us = [] := h
    subst this; rfl
  | c :: l, us, h => by
    obtain ⟨a, b, rfl, h1, h2⟩ := h
    rw [List.length_append, Cl.agg_len h1, aggs_len l b h2, List.length_cons]; omega
theorem reps_of_aggs {w : World} {ok : Nat → Prop} {b : Nat} : ∀ (l : List Cl) (us : List Value) (o : Nat), aggs w ok l us → (∀ j u, us[j]? = some u → w.cell? ⟨b, o + j, none⟩ = some u) → reps w ok l b o
  | [], _, _, _, _ => by simp only [reps]
  | c :: l, us, o, h, hc => by
    obtain ⟨a, bs, rfl, h1, h2⟩ := h
    simp only [reps]
    have ha := Cl.agg_len h1
    refine ⟨⟨a, h1, fun j u hj => hc j u ?_⟩, reps_of_aggs l bs (o + 8) h2 fun j u hj => ?_⟩
    · rw [List.getElem?_append_left (List.getElem?_eq_some_iff.1 hj).1]; exact hj
    · have := hc (j + 8) u (by rw [List.getElem?_append_right (by omega)]; rwa [show j + 8 - a.length = j from by omega])
      rwa [show o + 8 + j = o + (j + 8) from by omega]

/-- Blocks from lo on that are not v's own row. -/
def Off (lo hi : Nat) (v : Value) (b : Nat) : Prop := lo ≤ b ∧ b < hi ∧ v.ownBlock ≠ some b
/-- The call owns the slice v, which reads as the clauses. -/
def OwnCl (w : World) (lo : Nat) (v : Value) (l : List Cl) : Prop := ∃ us, w.ownsRow lo 36 8 v l.length us ∧ aggs w (Off lo w.heap.size v) l us
theorem OwnCl.nil (w : World) (lo : Nat) : OwnCl w lo (.slice none 0 0) [] := ⟨[], World.ownsRow_nil _ _ _ _, rfl⟩
theorem OwnCl.sl {w : World} {lo : Nat} {v : Value} {l : List Cl} (h : OwnCl w lo v l) : ClSl w (Btw lo w.heap.size) v l := by
  obtain ⟨us, ho, ha⟩ := h
  have hlt := ho.lt
  have hc := fun g (hg : v.ownBlock = some g) => ho.cells hg
  rcases ho.2 with ⟨rfl, h0⟩ | ⟨g, cap, cur, rfl, hbg, hg, hn, hm, _⟩
  · rw [List.eq_nil_of_length_eq_zero h0]; exact ClSl.nil _ _
  · refine ⟨_, cap, rfl, hn, hm, fun _ => ⟨g, 0, rfl, ⟨hbg, (hlt g rfl).2⟩, ?_⟩⟩
    refine reps_of_aggs l us 0 (aggs_stand (fun b hb => ⟨⟨hb.1, hb.2.1⟩, rfl⟩) l us ha) fun j u hj => ?_
    have := hc g rfl j u hj
    rw [add0] at this
    rwa [Nat.zero_add]
theorem OwnCl.kept {w w' : World} {lo : Nat} {v : Value} {l : List Cl} (h : OwnCl w lo v l) (H : ∀ b, lo ≤ b → b < w.heap.size → w'.heap[b]? = w.heap[b]?) (hs : w.heap.size ≤ w'.heap.size) : OwnCl w' lo v l := by
  obtain ⟨us, ho, ha⟩ := h
  exact ⟨us, ownsRow_move ho fun g hg => H g (ho.lt g hg).1 (ho.lt g hg).2, aggs_stand (fun b hb => ⟨⟨hb.1, by have := hb.2.1; omega, hb.2.2⟩, H b hb.1 hb.2.1⟩) l us ha⟩
theorem OwnCl.appended {W W5 : World} {lo n g cap : Nat} {v : Value} {l : List Cl} {us a : List Value} {c : Cl} (ha : aggs W (Off lo W.heap.size v) l us) (hc : c.agg W (Off lo W.heap.size v) a)
    (hown : W5.ownsRow lo 36 8 (.slice (some ⟨g, 0, none⟩) n cap) (l.length + 1) (us ++ a)) (hgrow : W.grownBy W5 v.ownBlock) (hat : v.ownBlock = some g ∨ g = W.heap.size) :
    OwnCl W5 lo (.slice (some ⟨g, 0, none⟩) n cap) (l ++ [c]) := by
  have hS : Stand (Off lo W.heap.size v) (Off lo W5.heap.size (.slice (some ⟨g, 0, none⟩) n cap)) W W5 := fun b hb => by
    refine ⟨⟨hb.1, Nat.lt_of_lt_of_le hb.2.1 hgrow.size, fun e => ?_⟩, hgrow.block b hb.2.1 (fun e => hb.2.2 e.symm)⟩
    simp only [Value.ownBlock, Option.some.injEq] at e
    rcases hat with h | h
    · exact hb.2.2 (by rw [h, e])
    · have := hb.2.1; omega
  refine ⟨us ++ a, by rw [List.length_append]; exact hown, aggs_snoc (Cl.agg_stand hS c a hc) l us (aggs_stand hS l us ha)⟩
end Go.Proofs.YtplnnpkohdmiaaaGreatDoor
