/-
  DERIVED. Several texts in one.
-/
import Derived.Test.YtfpcdgmdangmaaaGreatDoorYQFm
import Derived.Test.YtfpcdgmdangmaaaGreatDoorYQE4m
set_option linter.unusedVariables false
set_option linter.unusedSimpArgs false

/- DERIVED. The reference's parser: service, a loop that appends items. -/
namespace Go.Proofs.YtfpcdgmdangmaaaGreatDoor
open Go.RowKit
set_option maxRecDepth 100000

theorem sim_fuel {L : List Tok} {en : Int} {p : List Tok → Rd Cl} {q : QS → Cl × QS} (hq : Sim L en p q) (ht : Takes p) {n : Nat} {s : QS} (h : s.e = 0) (hf : Fuel L (n + 1) s) : Fuel L n (q s).2 ∧ leftS L (q s).2 < leftS L s := by
  obtain ⟨h2, h3⟩ := hf
  obtain ⟨h3, h4⟩ := h3 h
  have h1 := hq.2 s h h3
  unfold leftS Fuel
  rw [if_pos h]
  cases e : p (L.drop s.at_) with
  | error r =>
    rw [e] at h1
    rw [if_neg (by rw [h1.1]; decide)]
    exact ⟨⟨by omega, fun c => absurd (h1.1.symm.trans c) (by decide)⟩, by omega⟩
  | ok x =>
    obtain ⟨x, r⟩ := x
    rw [e] at h1
    obtain ⟨_, h5, h6, h7⟩ := h1
    have h8 := ht _ _ _ e
    rw [← h7] at h8
    simp only [List.length_drop] at h8
    rw [if_pos h5]
    exact ⟨⟨by omega, fun _ => ⟨h6, by omega⟩⟩, by omega⟩
theorem ownsRow_nd2 {w : World} {base : Nat} {e : TypeId} {size : Nat} {v : Value} {n : Nat} {xs : List Value} (h : w.ownsRow base e size v n xs) (b : Nat) (hb : b < base) : v.ownBlock ≠ some b := fun e => by have := (h.lt b e).1; omega
theorem infoCl2 : (Tryz.prog.info? 43).map (fun i => (i.zero, i.size, i.bytes)) = some (some (.agg #[.int .u8 0, .slice none 0 0, .int .u8 0, .int .i64 0, .int .i64 0, .int .i64 0, .slice none 0 0, .int .i64 0]), 8, 96) := by kernel_rfl

/-- Between two rounds of the loop of service. -/
def QSvRel (w : World) (rb nb lo : Nat) (L : List Tok) (en o : Int) (n1 : ByteArray) (R0 : List Cl × QS) (wr : World) : Prop :=
  ∃ (n : Nat) (acc : List Cl) (s : QS) (v : Value), R0 = qLoop (fun s => s.e != 0 || qIs L (fitLit ⟨#[125]⟩) s) (qItem L en) n acc s ∧ Fuel L n s ∧ acc.length + n ≤ 5010 ∧ RSt wr rb L en s ∧ KB w.heap.size rb w wr ∧
    wr.heap[w.heap.size + 1]? = some (.cells #[.int .u8 0, .slice none 0 0, .int .u8 0, .int .i64 0, .int .i64 0, .int .i64 0, .slice none 0 0, .int .i64 0] 43 (0, 0)) ∧ wr.heap[w.heap.size]? = some (.cells #[.int .u8 1, .slice (some ⟨nb, 0, none⟩) 1 1, .int .u8 0, .int .i64 0, .int .i64 0, .int .i64 0, v, .int .i64 o] 43 (0, 0)) ∧
    wr.heap[nb]? = some (.cells #[.string n1] 9 (0, 0)) ∧ OwnCl wr lo v acc ∧ lo ≤ wr.heap.size

set_option maxHeartbeats 40000000 in
theorem q_service (rb : Nat) (L : List Tok) (hL : L.length ≤ 5000) (en o : Int) (s : QS) (hs : s.e = 0 → s.at_ ≤ L.length) (w : World) (h : RSt w rb L en s) :
    Calls Tryz.prog 45 #[.pointer (some ⟨rb, 0, none⟩), .agg #[.int .u8 0, .slice none 0 0, .int .u8 0, .int .i64 0, .int .i64 0, .int .i64 0, .slice none 0 0, .int .i64 o]] w (CMoved (qService L en o s) rb L en w) := by
  have hfm : Tryz.prog.follows Departure.mixedOrders = true := by kernel_rfl
  obtain ⟨i0', hi, hz0, hz1', hz2⟩ := info_parts infoCl2
  have hrl := h.lt
  have H := Lib.hid h
  obtain ⟨n1, hn1⟩ : ∃ n1, n1 = (qName L en s).1 := ⟨_, rfl⟩
  obtain ⟨s1, hs1⟩ : ∃ s1, s1 = (qName L en s).2 := ⟨_, rfl⟩
  obtain ⟨s2, hs2⟩ : ∃ s2, s2 = qTake L en ⟨#[123]⟩ s1 := ⟨_, rfl⟩
  obtain ⟨R0, hR0⟩ : ∃ R0, R0 = qItems L en s2 := ⟨_, rfl⟩
  have hfu : Fuel L (L.length + 3) s2 := by
    refine ⟨by omega, fun he => ?_⟩
    have hS := sim_bind (sim_name L en) fun _ => sim_take L en ⟨#[123]⟩
    by_cases hse : s.e = 0
    · have h1 := hS.2 s hse (hs hse)
      simp only at h1
      rw [← hs1, ← hs2] at h1
      cases e : (bindR (pName (L.drop s.at_)) fun _ => pLit ⟨#[123]⟩) with
      | error r => rw [e] at h1; exact absurd (h1.1.symm.trans he) (by decide)
      | ok x => obtain ⟨x, r⟩ := x; rw [e] at h1; exact ⟨h1.2.2.1, by omega⟩
    · have h1 := hS.1 s hse
      simp only at h1
      rw [← hs1, ← hs2] at h1
      exact absurd (h1.1.symm.trans he) hse
  unfold qService
  rw [← hn1, ← hs1, ← hs2, ← hR0]
  have hN := q_name rb L hL en s
  rw [← hn1, ← hs1] at hN
  have HN := Lib.hid hN
  have hT := fun W => q_take rb ⟨#[123]⟩ L hL en s1 W
  rw [← hs2] at hT
  have HTK := Lib.hid hT
  have HR0 := Lib.hid hR0
  have HFU := Lib.hid hfu
  clear h hN hT hn1 hs1 hs2 hR0 hfu hs
  go_enter Tryz.func45, Tryz.ntmps45
  go_wp2_with (fail)
  go_at_call 82
  refine (HN.out _ (by repeat (first | with_reducible exact H.out | with_reducible refine RSt.new ?_ _ | with_reducible refine RSt.setNew ?_ (by omega) _))).mono ?_
  rintro e w1 ⟨rfl, P, k⟩
  have hz1 := k.size
  try simp at hz1
  have HK0 := Lib.hid (KB.refl w.heap.size rb w)
  have kk : KB w.heap.size rb w w1 := by refine KB.trans ?_ (k.mono (by (try simp) <;> omega)); (repeat (first | with_reducible exact HK0.out | with_reducible refine KB.drewN ?_ _ | with_reducible refine KB.setP ?_ _ | with_reducible refine KB.setNew ?_ (by omega) _ | with_reducible refine KB.alloc ?_ _ (by (try simp) <;> omega)))
  have hc := (ObjRow.keep k (by repeat (first | with_reducible exact HNONE.out | with_reducible refine row_drewN ?_ _ | with_reducible apply row8_0 | with_reducible apply row8_1 | with_reducible apply row8_2 | with_reducible apply row8_3 | with_reducible apply row8_4 | with_reducible apply row8_5 | with_reducible apply row8_6 | with_reducible apply row8_7 | with_reducible exact row_new _ _ _ (by simp) | with_reducible refine row_alloc ?_ _ | with_reducible refine row_other ?_ (by omega) _)) (by (try simp) <;> omega) (by omega) : w1.heap[w.heap.size]? = some (.cells #[.int .u8 1, .slice none 0 0, .int .u8 0, .int .i64 0, .int .i64 0, .int .i64 0, .slice none 0 0, .int .i64 o] 43 (0, 0)))
  have hr := (ObjRow.keep k (by repeat (first | with_reducible exact HNONE.out | with_reducible refine row_drewN ?_ _ | with_reducible apply row8_0 | with_reducible apply row8_1 | with_reducible apply row8_2 | with_reducible apply row8_3 | with_reducible apply row8_4 | with_reducible apply row8_5 | with_reducible apply row8_6 | with_reducible apply row8_7 | with_reducible exact row_new _ _ _ (by simp) | with_reducible refine row_alloc ?_ _ | with_reducible refine row_other ?_ (by omega) _)) (by (try simp) <;> omega) (by omega) : w1.heap[w.heap.size + 1]? = some (.cells #[.int .u8 0, .slice none 0 0, .int .u8 0, .int .i64 0, .int .i64 0, .int .i64 0, .slice none 0 0, .int .i64 0] 43 (0, 0)))
  obtain ⟨c0, c1, c2, c3, c4, c5, c6, c7⟩ := eight_cells hc
  obtain ⟨f0, f1, f2, f3, f4, f5, f6, f7⟩ := eight_frozen hc
  have c1a := fun ob => (cell_alloc w1 ob (show w.heap.size < w1.heap.size by omega)).trans c1
  have e1a := fun ob => (frozen_alloc w1 ob (show w.heap.size < w1.heap.size by omega)).trans f1
  have Hhr := Lib.hid hr
  have Hhc := Lib.hid hc
  have HR1 := Lib.hid P
  have HK1 := Lib.hid kk
  have hrl1 : rb < w1.heap.size := P.lt
  clear P k kk hc hr
  go_wp2_with (fail)
  go_at_call 48
  refine (HTK.out _ (by repeat (first | with_reducible exact HR1.out | with_reducible refine RSt.new ?_ _ | with_reducible refine RSt.setNew ?_ (by omega) _))).mono ?_
  rintro e w2 ⟨rfl, P, k⟩
  have hz2' := k.size
  try simp at hz2'
  have kk : KB w.heap.size rb w w2 := by refine KB.trans ?_ (k.mono (by (try simp) <;> omega)); (repeat (first | with_reducible exact HK1.out | with_reducible refine KB.drewN ?_ _ | with_reducible refine KB.setP ?_ _ | with_reducible refine KB.setNew ?_ (by omega) _ | with_reducible refine KB.alloc ?_ _ (by (try simp) <;> omega)))
  have hr := (ObjRow.keep k (by repeat (first | with_reducible exact Hhr.out | with_reducible refine row_drewN ?_ _ | with_reducible apply row8_0 | with_reducible apply row8_1 | with_reducible apply row8_2 | with_reducible apply row8_3 | with_reducible apply row8_4 | with_reducible apply row8_5 | with_reducible apply row8_6 | with_reducible apply row8_7 | with_reducible exact row_new _ _ _ (by simp) | with_reducible refine row_alloc ?_ _ | with_reducible refine row_other ?_ (by omega) _)) (by (try simp) <;> omega) (by omega) : w2.heap[w.heap.size + 1]? = some (.cells #[.int .u8 0, .slice none 0 0, .int .u8 0, .int .i64 0, .int .i64 0, .int .i64 0, .slice none 0 0, .int .i64 0] 43 (0, 0)))
  have hc := (ObjRow.keep k (by repeat (first | with_reducible exact Hhc.out | with_reducible refine row_drewN ?_ _ | with_reducible apply row8_0 | with_reducible apply row8_1 | with_reducible apply row8_2 | with_reducible apply row8_3 | with_reducible apply row8_4 | with_reducible apply row8_5 | with_reducible apply row8_6 | with_reducible apply row8_7 | with_reducible exact row_new _ _ _ (by simp) | with_reducible refine row_alloc ?_ _ | with_reducible refine row_other ?_ (by omega) _)) (by (try simp) <;> omega) (by omega) : w2.heap[w.heap.size]? = some (.cells #[.int .u8 1, .slice (some ⟨w1.heap.size, 0, none⟩) 1 1, .int .u8 0, .int .i64 0, .int .i64 0, .int .i64 0, .slice none 0 0, .int .i64 o] 43 (0, 0)))
  have hn := (ObjRow.keep k (by repeat (first | with_reducible exact HNONE.out | with_reducible refine row_drewN ?_ _ | with_reducible apply row8_0 | with_reducible apply row8_1 | with_reducible apply row8_2 | with_reducible apply row8_3 | with_reducible apply row8_4 | with_reducible apply row8_5 | with_reducible apply row8_6 | with_reducible apply row8_7 | with_reducible exact row_new _ _ _ (by simp) | with_reducible refine row_alloc ?_ _ | with_reducible refine row_other ?_ (by omega) _)) (by (try simp) <;> omega) (by omega) : w2.heap[w1.heap.size]? = some (.cells #[.string n1] 9 (0, 0)))
  have HR2 := Lib.hid P
  have HK2 := Lib.hid kk
  have Hhr2 := Lib.hid hr
  have Hhc2 := Lib.hid hc
  have Hhn2 := Lib.hid hn
  clear P k kk hc hr hn c1a e1a HR1 HK1 Hhr Hhc
  go_wp2_with (fail)
  go_loopw [19] (fun _ wr => QSvRel w rb w1.heap.size w2.heap.size L en o n1 R0 wr) (fun _ wr => leftQ wr rb)
  case atStart => exact ⟨L.length + 3, [], s2, .slice none 0 0, HR0.out, HFU.out, by simp; omega, HR2.out, HK2.out, Hhr2.out, Hhc2.out, Hhn2.out, OwnCl.nil _ _, Nat.le_refl _⟩
  case round =>
    obtain ⟨n, acc, s', v, hR, hF, hA, P, K, hr, hc, hn, hO, hlo⟩ := hrel
    obtain ⟨vA, vn, vc, rfl⟩ : ∃ A m p, v = .slice A m p := by obtain ⟨us, hus, -⟩ := hO; exact ownsRow_slice hus
    have hms := P.left
    have hzr := K.size
    have hpc : rb < wr.heap.size := P.lt
    obtain ⟨m, rfl⟩ : ∃ m, n = m + 1 := ⟨n - 1, by have := hF.1; omega⟩
    obtain ⟨_, _, -, -, -, -, k1, -, k3, -⟩ := P.cells
    have HI := Lib.hid (q_is rb ⟨#[125]⟩ L en s' wr P)
    have Hms := Lib.hid hms
    have HP := Lib.hid P
    have HK := Lib.hid K
    have Hhr' := Lib.hid hr
    have Hhc' := Lib.hid hc
    have Hhn' := Lib.hid hn
    have HO := Lib.hid hO
    by_cases he : s'.e = 0
    · have hb : (s'.e == 0) = true := by rw [beq_iff_eq]; exact he
      cases hq : qIs L (fitLit ⟨#[125]⟩) s' with
      | true =>
        have hst : R0 = (acc, s') := by rw [hR]; simp [qLoop, hq]
        have Hst := Lib.hid hst
        have Hq := Lib.hid hq
        clear hms P K hr hc hn hO hR hF hst hq he
        go_wp2_with (go_at_call 83; refine HI.out.mono ?_; rintro e w3 ⟨nq2, rfl, rfl⟩; rw [Hq.out])
        go_at_call 48
        refine (q_take rb ⟨#[125]⟩ L hL en s' _ (by exact HP.out.drewN _)).mono ?_
        rintro e w4 ⟨rfl, P, k⟩
        have kk : KB w.heap.size rb w w4 := (HK.out.drewN _).trans (k.mono (by (try simp) <;> omega))
        have hr4 := ObjRow.keep k (row_drewN Hhr'.out _) (by (try simp) <;> omega) (by omega)
        have hc4 := ObjRow.keep k (row_drewN Hhc'.out _) (by (try simp) <;> omega) (by omega)
        have hn4 := ObjRow.keep k (row_drewN Hhn'.out _) (by (try simp) <;> omega) (by omega)
        have hO4 : OwnCl w4 w2.heap.size (.slice vA vn vc) acc := HO.out.kept (fun b hb hb2 => k.block b (by (try simp) <;> omega) (by omega)) k.size
        obtain ⟨c0, c1, c2, c3, c4, c5, c6, c7⟩ := eight_cells hc4
        obtain ⟨f0, f1, f2, f3, f4, f5, f6, f7⟩ := eight_frozen hc4
        obtain ⟨z0, z1, z2, z3, z4, z5, z6, z7⟩ := eight_cells hr4
        obtain ⟨g0, g1, g2, g3, g4, g5, g6, g7⟩ := eight_frozen hr4
        have Hhr4 := Lib.hid hr4
        have Hhn4 := Lib.hid hn4
        have HP4 := Lib.hid P
        have HK4 := Lib.hid kk
        have HO4 := Lib.hid hO4
        clear k P kk hr4 hc4 hn4 hO4
        go_wp2_with (fail)
        rw [Hst.out]
        refine ret8 (i := 4) (b := w.heap.size + 1) rfl rfl rfl (row_store8 Hhr4.out (.int .u8 1) (.slice (some ⟨w1.heap.size, 0, none⟩) 1 1) (.int .u8 0) (.int .i64 0) (.int .i64 0) (.int .i64 0) (.slice vA vn vc) (.int .i64 o)) ⟨_, rfl, ⟨_, _, rfl, ?_, ?_⟩, ?_, ?_⟩
        · exact StrSl.one (by repeat (first | with_reducible exact Hhn4.out | with_reducible refine row_other ?_ (by omega) _)) (by omega)
        · refine (OwnCl.sl (lo := w2.heap.size) (HO4.out.kept (fun b hb _ => ?_) (by simp))).stand fun b hb => ⟨⟨by have := hb.1; omega, hb.2⟩, rfl⟩
          have hgn : b ≠ w.heap.size + 1 := by omega
          simp only [heap_setCell_ne _ _ hgn]
        · repeat (first | with_reducible exact HP4.out | with_reducible refine RSt.setNew ?_ (by omega) _)
        · repeat (first | with_reducible exact HK4.out | with_reducible refine KB.setNew ?_ (by omega) _)
      | false =>
        have hst : R0 = qLoop (fun s => s.e != 0 || qIs L (fitLit ⟨#[125]⟩) s) (qItem L en) m (acc ++ [(qItem L en s').1]) (qItem L en s').2 := by rw [hR]; simp [qLoop, hq, he]
        obtain ⟨hF2, hlf⟩ := sim_fuel (sim_item L en) takes_item he hF
        have Hst := Lib.hid hst
        have Hq := Lib.hid hq
        have HF2 := Lib.hid hF2
        have Hlf := Lib.hid hlf
        have HIT := Lib.hid (fun W => q_item rb L hL en s' W)
        clear hms P K hr hc hn hO hR hF hst hq hF2 hlf he
        go_wp2_with (go_at_call 83; refine HI.out.mono ?_; rintro e w3 ⟨nq2, rfl, rfl⟩; rw [Hq.out])
        refine gen_world (fun W0 => RSt W0 rb L en s' ∧ KB w.heap.size rb w W0 ∧ W0.heap[w.heap.size + 1]? = some (.cells #[.int .u8 0, .slice none 0 0, .int .u8 0, .int .i64 0, .int .i64 0, .int .i64 0, .slice none 0 0, .int .i64 0] 43 (0, 0)) ∧ W0.heap[w.heap.size]? = some (.cells #[.int .u8 1, .slice (some ⟨w1.heap.size, 0, none⟩) 1 1, .int .u8 0, .int .i64 0, .int .i64 0, .int .i64 0, .slice vA vn vc, .int .i64 o] 43 (0, 0)) ∧ W0.heap[w1.heap.size]? = some (.cells #[.string n1] 9 (0, 0)) ∧ OwnCl W0 w2.heap.size (.slice vA vn vc) acc ∧ w2.heap.size ≤ W0.heap.size) ⟨HP.out.drewN _, HK.out.drewN _, row_drewN Hhr'.out _, row_drewN Hhc'.out _, row_drewN Hhn'.out _, HO.out.kept (fun _ _ _ => rfl) (Nat.le_refl _), hlo⟩ ?_
        rintro W0 ⟨P0, K0, hr0, hc0, hn0, hO0, hlo0⟩
        clear k1 k3 HP HK Hhr' Hhc' Hhn' HO HI
        obtain ⟨c0, c1, c2, c3, c4, c5, c6, c7⟩ := eight_cells hc0
        obtain ⟨f0, f1, f2, f3, f4, f5, f6, f7⟩ := eight_frozen hc0
        obtain ⟨us, hus, hag⟩ := hO0
        have HP0 := Lib.hid P0
        have HK0' := Lib.hid K0
        have Hhr0 := Lib.hid hr0
        have Hhc0 := Lib.hid hc0
        have Hhn0 := Lib.hid hn0
        have Hus := Lib.hid hus
        have Hag := Lib.hid hag
        obtain ⟨c, hcc⟩ : ∃ c, c = (qItem L en s').1 := ⟨_, rfl⟩
        obtain ⟨s3, hs3⟩ : ∃ s3, s3 = (qItem L en s').2 := ⟨_, rfl⟩
        have hIT2 := HIT.out W0.drew P0.drew
        unfold CMoved at hIT2
        rw [← hcc] at hIT2 Hst
        rw [← hs3] at hIT2 Hst HF2 Hlf
        have HIT2 := Lib.hid hIT2
        clear P0 K0 hr0 hc0 hn0 hus hag HIT hIT2 hcc hs3
        go_region_law (first | (go_simp; go_at_call 84; refine HIT2.out.mono ?_; rintro e w5 ⟨v5, rfl, ⟨yn, yi, rfl, hsn, hsi⟩, P, k'⟩; obtain ⟨A1, m1, p1, rfl⟩ := hsn.shape; obtain ⟨A2, m2, p2, rfl⟩ := hsi.shape; have k := KB.undrew k'; have hzz5 := k.size; have hcl5 : w.heap.size + 1 < w5.heap.size := (by omega); have hcl5' : w.heap.size < w5.heap.size := (by omega); have K5 := Lib.hid (HK0'.out.trans (k.mono (by have := HK0'.out.size; omega))); have HP5 := Lib.hid P; have hc5 := ObjRow.keep k Hhc0.out (by omega) (by omega); have Hhr5 := Lib.hid (ObjRow.keep k Hhr0.out (by omega) (by omega)); have Hhn5 := Lib.hid (ObjRow.keep k Hhn0.out (by omega) (by omega)); have Hus5 := Lib.hid (ownsRow_move (w' := w5) Hus.out fun g' hg' => by have := Hus.out.lt g' hg'; exact k.block g' (by omega) (fun e => by omega)); have Hag5 := Lib.hid (aggs_stand (w' := w5) (ok' := Off w2.heap.size w5.heap.size (.slice vA vn vc)) (fun b hb => ⟨⟨hb.1, Nat.lt_of_lt_of_le hb.2.1 k.size, hb.2.2⟩, k.block b hb.2.1 (by have := hb.1; omega)⟩) acc us Hag.out); have Hsn := Lib.hid hsn; have Hsi := Lib.hid hsi; have Hhc5 := Lib.hid hc5; obtain ⟨d0, d1, d2, d3, d4, d5, d6, d7⟩ := eight_cells hc5; have d6a := fun ob => (cell_alloc w5 ob hcl5').trans d6; clear k k' P hc5 hsn hsi) | (refine step_append_lies _ rfl (.tmp 23) (.tmp 26) 22 rfl w2.heap.size 43 i0' (.agg #[.int .u8 0, .slice none 0 0, .int .u8 0, .int .i64 0, .int .i64 0, .int .i64 0, .slice none 0 0, .int .i64 0]) 8 96 Tryz.underlying22 hi hz0 hz1' hz2 rfl (by decide) (.slice vA vn vc) acc.length us (by simp [Act.eval, Act.put]) (Hus5.out.alloc _) ⟨w5.heap.size, 0, none⟩ 1 1 [.int .u8 c.kind, .slice A1 m1 p1, .int .u8 c.dom, .int .i64 c.idx, .int .i64 c.a, .int .i64 c.b, .slice A2 m2 p2, .int .i64 c.off] (by simp [Act.eval, Act.put]) rfl (World.news_of_block (row_new _ _ _ rfl)) (by intro u hu; simp at hu; rcases hu with rfl | rfl | rfl | rfl | rfl | rfl | rfl | rfl <;> rfl) (by omega) (by simp only [maxLen]; omega) (by omega) (by (try simp) <;> omega) _ rfl ?_; intro g cap w6 hown6 hgrow hat hlt6; have hvc := ownsRow_nd2 Hus5.out w.heap.size (by omega); have hc6 := (hgrow.block w.heap.size (by (try simp) <;> omega) (fun e => hvc e.symm)).trans (row_alloc Hhc5.out _); obtain ⟨e0, e1, e2, e3, e4, e5, e6, e7⟩ := eight_cells hc6; obtain ⟨g0, g1, g2, g3, g4, g5, g6, g7⟩ := eight_frozen hc6; have Hhc6 := Lib.hid hc6; clear hc6))
        all_goals go_wp2_with (fail)
        all_goals (
          have hrow : ∀ k, (Value.slice vA vn vc).ownBlock = some k → w2.heap.size ≤ k := fun k e => (Hus5.out.lt k e).1
          have hP6 := (HP5.out.new (.cells #[.int .u8 c.kind, .slice A1 m1 p1, .int .u8 c.dom, .int .i64 c.idx, .int .i64 c.a, .int .i64 c.b, .slice A2 m2 p2, .int .i64 c.off] 43)).grown hgrow (fun b e => by have := hrow b e; omega)
          have hP7 := hP6.setNew (j := 6) (B := w.heap.size) (by omega) (.slice (some ⟨g, 0, none⟩) (acc.length + 1) cap)
          have hlowb : ∀ b, b < w2.heap.size → b < w5.heap.size → w6.heap[b]? = w5.heap[b]? := fun b hb hb5 => (hgrow.block b (by (try simp) <;> omega) (fun e => by have := hrow b e.symm; omega)).trans (row_alloc_eq _ _ hb5)
          have hcag : Cl.agg w5 (Off w2.heap.size w5.heap.size (.slice vA vn vc)) c [.int .u8 c.kind, .slice A1 m1 p1, .int .u8 c.dom, .int .i64 c.idx, .int .i64 c.a, .int .i64 c.b, .slice A2 m2 p2, .int .i64 c.off] := by
            have hok : ∀ b, Btw W0.drew.heap.size w5.heap.size b → Off w2.heap.size w5.heap.size (.slice vA vn vc) b := fun b hb => by
              have h1 : W0.heap.size ≤ b := hb.1
              refine ⟨by omega, hb.2, fun e => ?_⟩
              have := (Hus.out.lt b e).2
              omega
            exact (Cl.agg_iff _ _ _ _).2 ⟨_, _, rfl, Hsn.out.stand (fun b hb => ⟨hok b hb, rfl⟩), Hsi.out.stand (fun b hb => ⟨hok b hb, rfl⟩)⟩
          have hup : Stand (Off w2.heap.size w5.heap.size (.slice vA vn vc)) (Off w2.heap.size (w5.alloc (.cells #[.int .u8 c.kind, .slice A1 m1 p1, .int .u8 c.dom, .int .i64 c.idx, .int .i64 c.a, .int .i64 c.b, .slice A2 m2 p2, .int .i64 c.off] 43)).heap.size (.slice vA vn vc)) w5 (w5.alloc (.cells #[.int .u8 c.kind, .slice A1 m1 p1, .int .u8 c.dom, .int .i64 c.idx, .int .i64 c.a, .int .i64 c.b, .slice A2 m2 p2, .int .i64 c.off] 43)) := fun b hb => ⟨⟨hb.1, by have := hb.2.1; simp; omega, hb.2.2⟩, row_alloc_eq _ _ hb.2.1⟩
          have hO6 := OwnCl.appended (aggs_stand hup acc us Hag5.out) (Cl.agg_stand hup c _ hcag) hown6 hgrow hat
          refine ⟨⟨m, acc ++ [c], s3, .slice (some ⟨g, 0, none⟩) (acc.length + 1) cap, Hst.out, HF2.out, by simp; omega, hP7, ?_, ?_, ?_, ?_, ?_, ?_⟩, ?_⟩
          · exact ((K5.out.alloc _ (by omega)).grownStep hgrow (by (try simp) <;> omega) (fun k e => by have := hrow k e; omega)).setNew (by omega) _
          · exact row_other ((hlowb _ (by omega) (by omega)).trans Hhr5.out) (by omega) _
          · exact row8_6 Hhc6.out _
          · exact row_other ((hlowb _ (by omega) (by omega)).trans Hhn5.out) (by omega) _
          · exact hO6.kept (fun b hb _ => heap_setCell_ne _ _ (by omega)) (by simp)
          · have := hgrow.size; (try simp at this) ; (try simp) ; omega
          · rw [hP7.left, Hms.out]; exact Hlf.out)
    · have hb : (s'.e == 0) = false := by rw [beq_eq_false_iff_ne]; exact he
      have hst : R0 = (acc, s') := by rw [hR]; simp [qLoop, he]
      have Hst := Lib.hid hst
      clear hms P K hr hc hn hO hR hF hst he
      go_wp2_with (fail)
      go_at_call 48
      refine (q_take rb ⟨#[125]⟩ L hL en s' _ (by exact HP.out)).mono ?_
      rintro e w4 ⟨rfl, P, k⟩
      have kk : KB w.heap.size rb w w4 := HK.out.trans (k.mono (by (try simp) <;> omega))
      have hr4 := ObjRow.keep k Hhr'.out (by (try simp) <;> omega) (by omega)
      have hc4 := ObjRow.keep k Hhc'.out (by (try simp) <;> omega) (by omega)
      have hn4 := ObjRow.keep k Hhn'.out (by (try simp) <;> omega) (by omega)
      have hO4 : OwnCl w4 w2.heap.size (.slice vA vn vc) acc := HO.out.kept (fun b hb hb2 => k.block b (by (try simp) <;> omega) (by omega)) k.size
      obtain ⟨c0, c1, c2, c3, c4, c5, c6, c7⟩ := eight_cells hc4
      obtain ⟨f0, f1, f2, f3, f4, f5, f6, f7⟩ := eight_frozen hc4
      obtain ⟨z0, z1, z2, z3, z4, z5, z6, z7⟩ := eight_cells hr4
      obtain ⟨g0, g1, g2, g3, g4, g5, g6, g7⟩ := eight_frozen hr4
      have Hhr4 := Lib.hid hr4
      have Hhn4 := Lib.hid hn4
      have HP4 := Lib.hid P
      have HK4 := Lib.hid kk
      have HO4 := Lib.hid hO4
      clear k P kk hr4 hc4 hn4 hO4
      go_wp2_with (fail)
      rw [Hst.out]
      refine ret8 (i := 4) (b := w.heap.size + 1) rfl rfl rfl (row_store8 Hhr4.out (.int .u8 1) (.slice (some ⟨w1.heap.size, 0, none⟩) 1 1) (.int .u8 0) (.int .i64 0) (.int .i64 0) (.int .i64 0) (.slice vA vn vc) (.int .i64 o)) ⟨_, rfl, ⟨_, _, rfl, ?_, ?_⟩, ?_, ?_⟩
      · exact StrSl.one (by repeat (first | with_reducible exact Hhn4.out | with_reducible refine row_other ?_ (by omega) _)) (by omega)
      · refine (OwnCl.sl (lo := w2.heap.size) (HO4.out.kept (fun b hb _ => ?_) (by simp))).stand fun b hb => ⟨⟨by have := hb.1; omega, hb.2⟩, rfl⟩
        have hgn : b ≠ w.heap.size + 1 := by omega
        simp only [heap_setCell_ne _ _ hgn]
      · repeat (first | with_reducible exact HP4.out | with_reducible refine RSt.setNew ?_ (by omega) _)
      · repeat (first | with_reducible exact HK4.out | with_reducible refine KB.setNew ?_ (by omega) _)
end Go.Proofs.YtfpcdgmdangmaaaGreatDoor

/- DERIVED. The reference's parser: any clause. -/
namespace Go.Proofs.YtfpcdgmdangmaaaGreatDoor
open Go.RowKit
set_option maxRecDepth 100000

set_option maxHeartbeats 40000000 in
theorem q_clause_service (rb : Nat) (L : List Tok) (hL : L.length ≤ 5000) (en : Int) (s : QS) (w : World) (h : RSt w rb L en s) (hlt : s.at_ < L.length) (hx : L[s.at_].text = ⟨#[115, 101, 114, 118, 105, 99, 101]⟩) :
    Calls Tryz.prog 24 #[.pointer (some ⟨rb, 0, none⟩)] w (CMoved (qService L en (offOf en (L.drop s.at_)) ⟨s.at_ + 1, s.e, s.off⟩) rb L en w) := by
  have hfm : Tryz.prog.follows Departure.mixedOrders = true := by kernel_rfl
  have hrl := h.lt
  have H := Lib.hid h
  have i0 : (0 : Int) ≤ (s.at_ : Int) := Int.natCast_nonneg _
  have i1 : (s.at_ : Int) < (L.length : Int) := by omega
  have d1 : decide (s.at_ < L.length) = true := decide_eq_true hlt
  obtain ⟨o, ho⟩ : ∃ o, o = offOf en (L.drop s.at_) := ⟨_, rfl⟩
  rw [← ho]
  clear h
  go_enter Tryz.func24, Tryz.ntmps24
  go_wp2_with (fail)
  go_at_call 44
  refine (q_offset rb L en s _ (by exact H.out.new _)).mono ?_
  rw [← ho]
  clear ho
  rintro e w1 ⟨n, rfl, hw⟩
  have hB : Below w.heap.size w w1 := by rw [hw]; exact below_dN _ ((Below.refl _ _).alloc (Nat.le_refl _) _)
  have hr : w1.heap[w.heap.size]? = some (.cells #[.int .u8 0, .slice none 0 0, .int .u8 0, .int .i64 0, .int .i64 0, .int .i64 0, .slice none 0 0, .int .i64 0] 43 (0, 0)) := by rw [hw]; exact row_new _ _ _ rfl
  have hz1 : w.heap.size < w1.heap.size := by rw [hw]; simp
  clear hw
  have HR1 := Lib.hid (H.out.below hB)
  have HK1 := Lib.hid (KB.of_below (pb := rb) hB)
  obtain ⟨z0, z1, z2, z3, z4, z5, z6, z7⟩ := eight_cells hr
  obtain ⟨g0, g1, g2, g3, g4, g5, g6, g7⟩ := eight_frozen hr
  have Hhr := Lib.hid hr
  obtain ⟨b, bo, bc, hc, hm, hbb, k0', -, q1', -⟩ := HR1.out.tok hlt
  rw [hx] at q1'
  obtain ⟨_, _, -, -, -, -, k1', -, -, -, f1', -⟩ := HR1.out.cells
  have hrl1 : rb < w1.heap.size := by omega
  unfold maxLen at hm
  have k0 := fun ob => (cell_alloc w1 ob hrl1).trans k0'
  have k1 := fun ob => (cell_alloc w1 ob hrl1).trans k1'
  have q1 := fun ob => (cell_alloc w1 ob (show b < w1.heap.size by omega)).trans q1'
  have f1 := fun ob => (frozen_alloc w1 ob hrl1).trans f1'
  have n1 : rb ≠ w1.heap.size := by omega
  have n2 : b ≠ w1.heap.size := by omega
  have n3 : b ≠ rb := by omega
  have n4 : w.heap.size ≠ w1.heap.size := by omega
  have n5 : rb ≠ w.heap.size := by omega
  have HX := Lib.hid hx
  clear hB hr hx k0' k1' q1' f1'
  go_wp2_with (fail)
  go_quiet (fail)
  go_wp2_with (fail)
  go_at_call 45
  refine (q_service rb L hL en o ⟨s.at_ + 1, s.e, s.off⟩ (fun _ => hlt) _ (by repeat (first | with_reducible exact HR1.out | with_reducible refine RSt.setAt1 (s := s) ?_ | with_reducible refine RSt.drewN ?_ _ | with_reducible refine RSt.new ?_ _ | with_reducible refine RSt.setNew ?_ (by omega) _))).mono ?_
  rintro e w2 ⟨v2, rfl, ⟨yn, yi, rfl, hsn, hsi⟩, P, k⟩
  obtain ⟨A1, m1, p1, rfl⟩ := hsn.shape
  obtain ⟨A2, m2, p2, rfl⟩ := hsi.shape
  have hz2 := k.size
  try simp at hz2
  have kk : KB w.heap.size rb w w2 := by refine KB.trans ?_ (k.mono (by (try simp) <;> omega)); (repeat (first | with_reducible exact HK1.out | with_reducible refine KB.drewN ?_ _ | with_reducible refine KB.setP ?_ _ | with_reducible refine KB.setNew ?_ (by omega) _ | with_reducible refine KB.alloc ?_ _ (by (try simp) <;> omega)))
  have hr2 : w2.heap[w.heap.size]? = some (.cells #[.int .u8 0, .slice none 0 0, .int .u8 0, .int .i64 0, .int .i64 0, .int .i64 0, .slice none 0 0, .int .i64 0] 43 (0, 0)) := ObjRow.keep k (by repeat (first | with_reducible exact Hhr.out | with_reducible refine row_drewN ?_ _ | with_reducible apply row8_0 | with_reducible apply row8_1 | with_reducible apply row8_2 | with_reducible apply row8_3 | with_reducible apply row8_4 | with_reducible apply row8_5 | with_reducible apply row8_6 | with_reducible apply row8_7 | with_reducible exact row_new _ _ _ (by simp) | with_reducible refine row_alloc ?_ _ | with_reducible refine row_other ?_ (by omega) _)) (by (try simp) <;> omega) (by omega)
  obtain ⟨z0, z1, z2, z3, z4, z5, z6, z7⟩ := eight_cells hr2
  obtain ⟨g0, g1, g2, g3, g4, g5, g6, g7⟩ := eight_frozen hr2
  have Hhr2 := Lib.hid hr2
  have HR2 := Lib.hid P
  have HK2 := Lib.hid kk
  have Hsn := Lib.hid hsn
  have Hsi := Lib.hid hsi
  clear k P kk hr2 hsn hsi
  obtain ⟨c, hcc⟩ : ∃ c, c = (qService L en o ⟨s.at_ + 1, s.e, s.off⟩).1 := ⟨_, rfl⟩
  rw [← hcc] at Hsn Hsi ⊢
  have HCC := Lib.hid hcc
  clear hcc
  go_wp2_with (fail)
  refine ret8 (i := 2) (b := w.heap.size) rfl rfl rfl (row_store8 Hhr2.out (.int .u8 c.kind) (.slice A1 m1 p1) (.int .u8 c.dom) (.int .i64 c.idx) (.int .i64 c.a) (.int .i64 c.b) (.slice A2 m2 p2) (.int .i64 c.off)) ⟨_, rfl, ?_, ?_, ?_⟩
  · rw [← HCC.out]
    refine ⟨_, _, rfl, Hsn.out.stand fun b hb => ⟨⟨?_, ?_⟩, ?_⟩, Hsi.out.stand fun b hb => ⟨⟨?_, ?_⟩, ?_⟩⟩
    all_goals have hb1 := hb.1
    all_goals have hb2 := hb.2
    all_goals (try simp at hb1)
    all_goals (try (have hgn : b ≠ w.heap.size := by omega))
    all_goals first | (simp only [heap_setCell_ne _ _ hgn]; done) | ((try simp) <;> omega)
  · repeat (first | with_reducible exact HR2.out | with_reducible refine RSt.setNew ?_ (by omega) _)
  · repeat (first | with_reducible exact HK2.out | with_reducible refine KB.setNew ?_ (by omega) _)

theorem q_clause (rb : Nat) (L : List Tok) (hL : L.length ≤ 5000) (en : Int) (s : QS) (w : World) (h : RSt w rb L en s) (hlt : s.at_ < L.length) : Calls Tryz.prog 24 #[.pointer (some ⟨rb, 0, none⟩)] w (CMoved (qClause L en s) rb L en w) := by
  have hq := fun f (hf : assocB (qWord L s) (clauseQ L en) = some f) => byWord_some (en := en) f hf
  have hq0 := fun (hf : assocB (qWord L s) (clauseQ L en) = none) => byWord_none (en := en) hf
  unfold qClause
  · have hw : qWord L s = L[s.at_].text := by unfold qWord; rw [List.getElem?_eq_getElem hlt]
    by_cases e0 : L[s.at_].text = ⟨#[115, 101, 114, 118, 105, 99, 101]⟩
    · have ha : assocB (qWord L s) (clauseQ L en) = some (qService L en) := by rw [hw, e0]; simp [assocB, clauseQ, ByteArray.toList_eq]
      rw [hq _ ha]
      exact q_clause_service rb L hL en s w h hlt e0
    · by_cases e1 : L[s.at_].text = ⟨#[119, 105, 110, 100, 111, 119]⟩
      · have ha : assocB (qWord L s) (clauseQ L en) = some (qWindow L en) := by rw [hw, e1]; simp [assocB, clauseQ, ByteArray.toList_eq]
        rw [hq _ ha]
        exact q_clause_window rb L hL en s w h hlt e1
      · by_cases e2 : L[s.at_].text = ⟨#[97, 112, 112, 114, 111, 118, 101]⟩
        · have ha : assocB (qWord L s) (clauseQ L en) = some (qApprove L en) := by rw [hw, e2]; simp [assocB, clauseQ, ByteArray.toList_eq]
          rw [hq _ ha]
          exact q_clause_approve rb L hL en s w h hlt e2
        · by_cases e3 : L[s.at_].text = ⟨#[98, 108, 97, 115, 116]⟩
          · have ha : assocB (qWord L s) (clauseQ L en) = some (qCounted L en 4) := by rw [hw, e3]; simp [assocB, clauseQ, ByteArray.toList_eq]
            rw [hq _ ha]
            exact q_clause_blast rb L hL en s w h hlt e3
          · by_cases e4 : L[s.at_].text = ⟨#[99, 97, 112]⟩
            · have ha : assocB (qWord L s) (clauseQ L en) = some (qCap L en) := by rw [hw, e4]; simp [assocB, clauseQ, ByteArray.toList_eq]
              rw [hq _ ha]
              exact q_clause_cap rb L hL en s w h hlt e4
            · have hn : NoneOf clauseWords L[s.at_].text := by
                intro x hx
                rw [beq_eq_false_iff_ne]
                intro hxx
                simp only [clauseWords, List.mem_cons, List.not_mem_nil, or_false] at hx
                rcases hx with rfl | rfl | rfl | rfl | rfl
                · exact e0 (txt_eq hxx)
                · exact e1 (txt_eq hxx)
                · exact e2 (txt_eq hxx)
                · exact e3 (txt_eq hxx)
                · exact e4 (txt_eq hxx)
              have ha : assocB (qWord L s) (clauseQ L en) = none := by
                rw [hw]
                simp only [assocB, clauseQ]
                rw [if_neg (fun c => e0 (txt_eq2 c))]
                rw [if_neg (fun c => e1 (txt_eq2 c))]
                rw [if_neg (fun c => e2 (txt_eq2 c))]
                rw [if_neg (fun c => e3 (txt_eq2 c))]
                rw [if_neg (fun c => e4 (txt_eq2 c))]
              rw [hq0 ha]
              exact q_clause_none rb L hL en s w h hlt hn
end Go.Proofs.YtfpcdgmdangmaaaGreatDoor
