/-
  DERIVED. Several texts in one.
-/
import Derived.Test.YtbbadnlaelgmlaaGreatPXO3
import Derived.Test.YtbbadnlaelgmlaaGreatPXO2
import Derived.Test.YtbbadnlaelgmlaaGreatPXB2
import Derived.Test.YtbbadnlaelgmlaaGreatPXN2
import Derived.Deep.RegionWith
import Derived.Test.YtbbadnlaelgmlaaGreatPXB4
set_option linter.unusedVariables false
set_option linter.unusedSimpArgs false

namespace Go.Proofs.YtbbadnlaelgmlaaGreat
open Go.RowKit
set_option maxRecDepth 100000
set_option linter.unusedVariables false
set_option linter.unusedSimpArgs false

theorem c_wrWhereTo (z : Sn) (s : Int) (l : List Int) (hr : whereD z.d.reps s = l) (hm : z.d.reps.length ≤ 1000) (w : World) (h : SnAt w z) :
    Calls Tryz.prog 66 #[.agg #[.slice z.q.a1 z.d.hosts.length z.q.c1, .slice z.q.a2 z.d.reps.length z.q.c2], .int .i64 s] w fun e w' => ∃ A c, e = .returned (.slice A l.length c) ∧ w'.ownsRow w.heap.size 3 1 (.slice A l.length c) l.length (ints l) ∧ Below w.heap.size w w' := by
  subst hr
  refine (c_wrWhere z.q z.d s hm w h.wo).mono fun e w' q => ?_
  obtain ⟨v, e1, ho, hb⟩ := q
  obtain ⟨A, c, rfl⟩ := own_shape ho
  exact ⟨A, c, e1, ho, hb⟩
theorem c_wrRunsTo (z : Sn) (s : Int) (r : Int) (hr : (((whereD z.d.reps s).length : Nat) : Int) = r) (hm : z.d.reps.length ≤ 1000) (w : World) (h : SnAt w z) :
    Calls Tryz.prog 61 #[.agg #[.slice z.q.a1 z.d.hosts.length z.q.c1, .slice z.q.a2 z.d.reps.length z.q.c2], .int .i64 s] w fun e w' => e = .returned (.int .i64 r) ∧ Below w.heap.size w w' := by subst hr; exact c_wrRuns z.q z.d s hm w h.wo
theorem c_wrHasTo (z : Sn) (s h : Int) (r : Bool) (hr : hasB z.d.reps ⟨s, h⟩ = r) (w : World) (hz : SnAt w z) :
    Calls Tryz.prog 37 #[.agg #[.slice z.q.a1 z.d.hosts.length z.q.c1, .slice z.q.a2 z.d.reps.length z.q.c2], .agg #[.int .i64 s, .int .i64 h]] w fun e w' => e = .returned (.bool r) ∧ Below w.heap.size w w' := c_wrHas z.q z.d ⟨s, h⟩ r hr w hz.wo
theorem c_srCountTo (z : Sn) (d : Nat) (hd : d < 256) (r : Int) (hr : cntD z.s d = r) (w : World) (h : SnAt w z) :
    Calls Tryz.prog 62 #[.agg #[.slice z.p.a1 z.s.feeds.length z.p.c1, .slice z.p.a2 z.s.brks.length z.p.c2, .slice z.p.a3 z.s.loops.length z.p.c3, .slice z.p.a4 z.s.racks.length z.p.c4, .int .i64 z.s.sw, .slice z.p.a5 z.s.links.length z.p.c5, .slice z.p.a6 z.s.hosts.length z.p.c6], .int .u8 (d : Int)] w fun e w' => e = .returned (.int .i64 r) ∧ Below w.heap.size w w' := c_rCount z.p z.s d hd r hr w h.si
theorem c_srDomTo (z : Sn) (d : Nat) (hd : d < 256) (host r : Int) (hr : domD z.s d host = r) (w : World) (h : SnAt w z) :
    Calls Tryz.prog 108 #[.agg #[.slice z.p.a1 z.s.feeds.length z.p.c1, .slice z.p.a2 z.s.brks.length z.p.c2, .slice z.p.a3 z.s.loops.length z.p.c3, .slice z.p.a4 z.s.racks.length z.p.c4, .int .i64 z.s.sw, .slice z.p.a5 z.s.links.length z.p.c5, .slice z.p.a6 z.s.hosts.length z.p.c6], .int .u8 (d : Int), .int .i64 host] w fun e w' => e = .returned (.int .i64 r) ∧ Below w.heap.size w w' := c_rDom z.p z.s d hd host r hr w h.si
theorem c_nrLatTo (z : Sn) (a b r : Int) (hr : latI z.s a b = r) (w : World) (h : SnAt w z) :
    Calls Tryz.prog 109 #[.agg #[.slice z.p.a1 z.s.feeds.length z.p.c1, .slice z.p.a2 z.s.brks.length z.p.c2, .slice z.p.a3 z.s.loops.length z.p.c3, .slice z.p.a4 z.s.racks.length z.p.c4, .int .i64 z.s.sw, .slice z.p.a5 z.s.links.length z.p.c5, .slice z.p.a6 z.s.hosts.length z.p.c6], .int .i64 a, .int .i64 b] w fun e w' => e = .returned (.int .i64 r) ∧ Below w.heap.size w w' := c_nrLatency z.p z.s a b r hr w h.si
theorem any_take {α : Type} {l : List α} {k : Nat} {x : α} (hx : l[k]? = some x) (p : α → Bool) : (l.take (k + 1)).any p = ((l.take k).any p || p x) := by
  rw [List.take_add_one, hx, List.any_append]; simp
/-- From whom no replica of the other service is near, by latencies. -/
noncomputable def nlB (s : SiteD) (d : WorldD) (x : Nr) (h : Int) : Bool := (whereD d.reps x.svc).any fun k => decide (0 ≤ latI s h k) && decide (latI s h k ≤ x.lat)
theorem has_where {l : List Rep} {s h : Int} : hasB l ⟨s, h⟩ = true ↔ h ∈ whereD l s := by
  unfold hasB whereD
  rw [decide_eq_true_eq, List.mem_map]
  constructor
  · intro hm
    exact ⟨⟨s, h⟩, List.mem_filter.2 ⟨hm, by simp⟩, rfl⟩
  · rintro ⟨r, hr, rfl⟩
    obtain ⟨h1, h2⟩ := List.mem_filter.1 hr
    rw [beq_iff_eq] at h2
    subst h2; exact h1
theorem nl_is {z : Sn} (ok : z.Ok) (x : Nr) (h : Int) : nlB z.s z.d x h = nerB z.s z.d x h := by
  unfold nlB nerB
  rw [Bool.eq_iff_iff, List.any_eq_true, List.any_eq_true]
  constructor
  · rintro ⟨k, hk, hp⟩
    have hin := where_in ok hk
    have hl := hosts_same ok
    obtain ⟨n, rfl⟩ : ∃ n : Nat, k = (n : Int) := ⟨k.toNat, by omega⟩
    refine ⟨(n : Int), ?_, has_where.2 hk⟩
    rw [← wrL_is]
    unfold nats wrL
    refine List.mem_map.2 ⟨n, List.mem_filter.2 ⟨List.mem_range.2 (by omega), ?_⟩, rfl⟩
    unfold wrF; exact hp
  · rintro ⟨k, hk, hp⟩
    rw [← wrL_is] at hk
    unfold nats wrL at hk
    obtain ⟨n, hn, rfl⟩ := List.mem_map.1 hk
    obtain ⟨-, h2⟩ := List.mem_filter.1 hn
    unfold wrF at h2
    exact ⟨(n : Int), has_where.1 hp, h2⟩
set_option maxHeartbeats 8000000 in
theorem c_share (z : Sn) (a b : Int) (l : List Int) (hl : whereD z.d.reps a = l) (hm : z.d.reps.length ≤ 1000) (r : Bool) (hr : shrB z.d l b = r) (w : World) (hz : SnAt w z) :
    Calls Tryz.prog 64 #[.agg #[.slice z.q.a1 z.d.hosts.length z.q.c1, .slice z.q.a2 z.d.reps.length z.q.c2], .int .i64 a, .int .i64 b] w fun e w' => e = .returned (.bool r) ∧ Below w.heap.size w w' := by
  have hln : l.length ≤ 1000 := by rw [← hl]; exact Nat.le_trans (where_len _ _) hm
  obtain ⟨W, h1⟩ : ∃ W, W = w.alloc (.cells #[.slice z.q.a1 z.d.hosts.length z.q.c1, .slice z.q.a2 z.d.reps.length z.q.c2] 36) := ⟨_, rfl⟩
  have z1 : W.heap.size = w.heap.size + 1 := by rw [h1, World.size_alloc]
  have B1 : Below w.heap.size w W := by rw [h1]; exact (Below.refl _ _).alloc (by omega) _
  have M0 : W.heap[w.heap.size]? = some (.cells #[.slice z.q.a1 z.d.hosts.length z.q.c1, .slice z.q.a2 z.d.reps.length z.q.c2] 36 (0, 0)) := by rw [h1]; exact box_new _ _ _
  have HB := Lib.hid B1
  have HF := Lib.hid (fun (X : World) (hX : Below W.heap.size W X) => (⟨cell_of (box_on M0 hX (Nat.le_refl _)) rfl, cell_of (box_on M0 hX (Nat.le_refl _)) rfl⟩ : X.cell? ⟨w.heap.size, 0, none⟩ = some (.slice z.q.a1 z.d.hosts.length z.q.c1) ∧ X.cell? ⟨w.heap.size, 1, none⟩ = some (.slice z.q.a2 z.d.reps.length z.q.c2)))
  have Z0 := hz.on B1 (Nat.le_refl _)
  have HZ := Lib.hid (fun (X : World) (hX : Below W.heap.size W X) => Z0.on hX (Nat.le_refl _))
  have HKW := Lib.hid (Below.refl W.heap.size W)
  have hle := HB.out.size
  have HL := Lib.hid hl
  have HR := Lib.hid hr
  clear hl hr
  clear z1 B1 M0 Z0 hz
  obtain ⟨f0, f1⟩ := HF.out W HKW.out
  rw [h1] at f0 f1
  generalize hBB : w.heap.size = B at *
  go_enter Tryz.func64, Tryz.ntmps64
  go_wp2_with (fail)
  rw [← h1]
  clear h1 f0 f1
  go_at_call 66
  refine (c_wrWhereTo z a l HL.out hm W (HZ.out W HKW.out)).mono ?_
  rintro e v1 ⟨A1, q1, rfl, ho, bb⟩
  have HKv1 := Lib.hid (below_join HKW.out bb HKW.out.size)
  have HRW := Lib.hid (own_rwA ho)
  have HK0 := Lib.hid (Below.refl v1.heap.size v1)
  clear ho bb
  go_wp2_with (fail)
  go_loopw [8] (fun i wr => ∃ k : Nat, k ≤ l.length ∧ i = .int .i64 (k : Int) ∧ Hid (Below v1.heap.size v1 wr) ∧ Hid ((l.take k).any (fun h => hasB z.d.reps ⟨b, h⟩) = false)) (fun i _ => l.length - (intOf i).toNat)
  case atStart => exact ⟨0, Nat.zero_le _, rfl, HK0, Lib.hid (by simp)⟩
  case round =>
    obtain ⟨k, hk, rfl, hKr, hun⟩ := hrel
    have hki : ((k : Nat) : Int).toNat = k := by omega
    have HKwr := Lib.hid (below_join HKv1.out hKr.out HKv1.out.size)
    by_cases hlt : k < l.length
    · obtain ⟨h, hx⟩ : ∃ x, l[k]? = some x := ⟨_, List.getElem?_eq_getElem hlt⟩
      have hki2 : (k : Int) < (l.length : Int) := by omega
      have hrw := HRW.out.on hKr.out (Nat.le_refl _)
      obtain ⟨pb, po, pe, -, -⟩ := hrw.at_ hx
      rw [pe] at hrw
      have HS := Lib.hid (fun (X : World) (hX : Below wr.heap.size wr X) => (by
        have hk2 := below_join HKwr.out hX HKwr.out.size
        obtain ⟨f0, f1⟩ := HF.out X hk2
        exact ⟨f0, f1, inRw (hrw.on hX (Nat.le_refl _)) hx⟩ : X.cell? ⟨B, 0, none⟩ = some (.slice z.q.a1 z.d.hosts.length z.q.c1) ∧ X.cell? ⟨B, 1, none⟩ = some (.slice z.q.a2 z.d.reps.length z.q.c2) ∧ X.cell? ⟨pb, po + k, none⟩ = some (.int .i64 h)))
      have HKbwr := Lib.hid (Below.refl wr.heap.size wr)
      have HSN := Lib.hid (fun (X : World) (hX : Below wr.heap.size wr X) => HZ.out X (below_join HKwr.out hX HKwr.out.size))
      obtain ⟨p, hp⟩ : ∃ p, hasB z.d.reps ⟨b, h⟩ = p := ⟨_, rfl⟩
      have HP := Lib.hid hp
      have HXX := Lib.hid hx
      obtain ⟨f0, f1, c0⟩ := HS.out wr HKbwr.out
      rw [pe]
      clear hx hp hrw
      go_wp2_with (fail)
      clear f0 f1 c0
      go_region_held3 (fun X => X.cell? ⟨B, 0, none⟩ = some (.slice z.q.a1 z.d.hosts.length z.q.c1) ∧ X.cell? ⟨B, 1, none⟩ = some (.slice z.q.a2 z.d.reps.length z.q.c2) ∧ X.cell? ⟨pb, po + k, none⟩ = some (.int .i64 h))
        (first | exact HS.out v301 HKbv301.out | exact HS.out wr HKbwr.out | fail)
        (first
          | (go_at_call 37; (with_reducible refine (c_wrHasTo z b h p HP.out wr.drew (HSN.out _ HKbwr.out.drew)).mono ?_); rintro e v301 ⟨rfl, bb0⟩; have bb := below_join (Below.refl wr.heap.size wr).drew bb0 (Nat.le_refl _); have HKbv301 := Lib.hid (below_join HKbwr.out bb HKbwr.out.size); clear bb bb0)
          | fail)
      rcases p with _ | _
      · have HUN := Lib.hid (show (l.take (k + 1)).any (fun h => hasB z.d.reps ⟨b, h⟩) = false by rw [any_take HXX.out, hun.out, HP.out]; rfl)
        have HKY := Lib.hid (below_join hKr.out HKbv301.out hKr.out.size)
        go_wp2_with (fail)
        go_roundw
        case rel => exact ⟨k + 1, by omega, by go_num, HKY, HUN⟩
        case measure => simp only [intOf]; omega
      · have HT := Lib.hid (show true = r by
          rw [← HR.out]; symm
          unfold shrB
          rw [List.any_eq_true]
          exact ⟨h, List.mem_of_getElem? HXX.out, HP.out⟩)
        go_wp2_with (fail)
        go_ret
        exact ⟨by rw [HT.out]; rfl, below_join HB.out (below_join HKwr.out HKbv301.out HKwr.out.size) hle⟩
    · obtain rfl : k = l.length := by omega
      have HT := Lib.hid (show false = r by
        rw [← HR.out]; symm
        have := hun.out
        rw [List.take_length] at this
        exact this)
      go_wp2_with (fail)
      go_ret
      exact ⟨by rw [HT.out]; rfl, below_join HB.out HKwr.out hle⟩
set_option maxHeartbeats 8000000 in
theorem c_inDomain (z : Sn) (a : Int) (d : Nat) (hd : d < 256) (n : Nat) (l : List Int) (hl : whereD z.d.reps a = l) (hm : z.d.reps.length ≤ 1000) (r : Int) (hr : ((inDm z.s d l n : Nat) : Int) = r) (w : World) (hz : SnAt w z) :
    Calls Tryz.prog 63 #[.agg #[.slice z.p.a1 z.s.feeds.length z.p.c1, .slice z.p.a2 z.s.brks.length z.p.c2, .slice z.p.a3 z.s.loops.length z.p.c3, .slice z.p.a4 z.s.racks.length z.p.c4, .int .i64 z.s.sw, .slice z.p.a5 z.s.links.length z.p.c5, .slice z.p.a6 z.s.hosts.length z.p.c6], .agg #[.slice z.q.a1 z.d.hosts.length z.q.c1, .slice z.q.a2 z.d.reps.length z.q.c2], .int .i64 a, .int .u8 (d : Int), .int .i64 (n : Int)] w fun e w' => e = .returned (.int .i64 r) ∧ Below w.heap.size w w' := by
  have hln : l.length ≤ 1000 := by rw [← hl]; exact Nat.le_trans (where_len _ _) hm
  obtain ⟨W1, h1⟩ : ∃ W, W = w.alloc (.cells #[.slice z.p.a1 z.s.feeds.length z.p.c1, .slice z.p.a2 z.s.brks.length z.p.c2, .slice z.p.a3 z.s.loops.length z.p.c3, .slice z.p.a4 z.s.racks.length z.p.c4, .int .i64 z.s.sw, .slice z.p.a5 z.s.links.length z.p.c5, .slice z.p.a6 z.s.hosts.length z.p.c6] 29) := ⟨_, rfl⟩
  have z1 : W1.heap.size = w.heap.size + 1 := by rw [h1, World.size_alloc]
  have B1 : Below w.heap.size w W1 := by rw [h1]; exact (Below.refl _ _).alloc (by omega) _
  have M0 : W1.heap[w.heap.size]? = some (.cells #[.slice z.p.a1 z.s.feeds.length z.p.c1, .slice z.p.a2 z.s.brks.length z.p.c2, .slice z.p.a3 z.s.loops.length z.p.c3, .slice z.p.a4 z.s.racks.length z.p.c4, .int .i64 z.s.sw, .slice z.p.a5 z.s.links.length z.p.c5, .slice z.p.a6 z.s.hosts.length z.p.c6] 29 (0, 0)) := by rw [h1]; exact box_new _ _ _
  obtain ⟨W, h2⟩ : ∃ W, W = W1.alloc (.cells #[.slice z.q.a1 z.d.hosts.length z.q.c1, .slice z.q.a2 z.d.reps.length z.q.c2] 36) := ⟨_, rfl⟩
  have z2 : W.heap.size = w.heap.size + 1 + 1 := by rw [h2, World.size_alloc, z1]
  have B2 : Below w.heap.size w W := by rw [h2]; exact B1.alloc (by omega) _
  have M0 := old_heap (X := W1) (.cells #[.slice z.q.a1 z.d.hosts.length z.q.c1, .slice z.q.a2 z.d.reps.length z.q.c2] 36) M0
  rw [← h2] at M0
  have M1 : W.heap[w.heap.size + 1]? = some (.cells #[.slice z.q.a1 z.d.hosts.length z.q.c1, .slice z.q.a2 z.d.reps.length z.q.c2] 36 (0, 0)) := by rw [h2, ← z1]; exact box_new _ _ _
  have HB := Lib.hid B2
  have HF := Lib.hid (fun (X : World) (hX : Below W.heap.size W X) => (⟨cell_of (box_on M0 hX (Nat.le_refl _)) rfl, cell_of (box_on M0 hX (Nat.le_refl _)) rfl, cell_of (box_on M0 hX (Nat.le_refl _)) rfl, cell_of (box_on M0 hX (Nat.le_refl _)) rfl, cell_of (box_on M0 hX (Nat.le_refl _)) rfl, cell_of (box_on M0 hX (Nat.le_refl _)) rfl, cell_of (box_on M0 hX (Nat.le_refl _)) rfl, cell_of (box_on M1 hX (Nat.le_refl _)) rfl, cell_of (box_on M1 hX (Nat.le_refl _)) rfl⟩ : X.cell? ⟨w.heap.size, 0, none⟩ = some (.slice z.p.a1 z.s.feeds.length z.p.c1) ∧ X.cell? ⟨w.heap.size, 1, none⟩ = some (.slice z.p.a2 z.s.brks.length z.p.c2) ∧ X.cell? ⟨w.heap.size, 2, none⟩ = some (.slice z.p.a3 z.s.loops.length z.p.c3) ∧ X.cell? ⟨w.heap.size, 3, none⟩ = some (.slice z.p.a4 z.s.racks.length z.p.c4) ∧ X.cell? ⟨w.heap.size, 4, none⟩ = some (.int .i64 z.s.sw) ∧ X.cell? ⟨w.heap.size, 5, none⟩ = some (.slice z.p.a5 z.s.links.length z.p.c5) ∧ X.cell? ⟨w.heap.size, 6, none⟩ = some (.slice z.p.a6 z.s.hosts.length z.p.c6) ∧ X.cell? ⟨w.heap.size + 1, 0, none⟩ = some (.slice z.q.a1 z.d.hosts.length z.q.c1) ∧ X.cell? ⟨w.heap.size + 1, 1, none⟩ = some (.slice z.q.a2 z.d.reps.length z.q.c2)))
  have Z0 := hz.on B2 (Nat.le_refl _)
  have HZ := Lib.hid (fun (X : World) (hX : Below W.heap.size W X) => Z0.on hX (Nat.le_refl _))
  have HKW := Lib.hid (Below.refl W.heap.size W)
  have hle := HB.out.size
  have HL := Lib.hid hl
  have HR := Lib.hid hr
  clear hl hr
  clear z1 B1 M0 z2 B2 M1 Z0 hz
  obtain ⟨f0, f1, f2, f3, f4, f5, f6, f7, f8⟩ := HF.out W HKW.out
  rw [h2, h1] at f0 f1 f2 f3 f4 f5 f6 f7 f8
  generalize hBB : w.heap.size = B at *
  go_enter Tryz.func63, Tryz.ntmps63
  go_wp2_with (fail)
  rw [← h1, ← h2]
  clear h1 h2 f0 f1 f2 f3 f4 f5 f6 f7 f8
  go_at_call 66
  refine (c_wrWhereTo z a l HL.out hm W (HZ.out W HKW.out)).mono ?_
  rintro e v1 ⟨A1, q1, rfl, ho, bb⟩
  have HKv1 := Lib.hid (below_join HKW.out bb HKW.out.size)
  have HRW := Lib.hid (own_rwA ho)
  have HK0 := Lib.hid (Below.refl v1.heap.size v1)
  clear ho bb
  go_wp2_with (fail)
  go_loopw [12, 13] (fun s i wr => ∃ k : Nat, k ≤ l.length ∧ s = .int .i64 ((inDm z.s d (l.take k) n : Nat) : Int) ∧ i = .int .i64 (k : Int) ∧ Hid (Below v1.heap.size v1 wr)) (fun _ i _ => l.length - (intOf i).toNat)
  case atStart => exact ⟨0, Nat.zero_le _, by simp [inDm], rfl, HK0⟩
  case round =>
    obtain ⟨k, hk, rfl, rfl, hKr⟩ := hrel
    have hki : ((k : Nat) : Int).toNat = k := by omega
    have HKwr := Lib.hid (below_join HKv1.out hKr.out HKv1.out.size)
    obtain ⟨u, hu⟩ : ∃ u : Nat, inDm z.s d (l.take k) n = u := ⟨_, rfl⟩
    have hub : u ≤ 1000 := by
      rw [← hu]; unfold inDm
      exact Nat.le_trans (List.length_filter_le _ _) (by rw [List.length_take]; omega)
    rw [hu]
    by_cases hlt : k < l.length
    · obtain ⟨h, hx⟩ : ∃ x, l[k]? = some x := ⟨_, List.getElem?_eq_getElem hlt⟩
      have hki2 : (k : Int) < (l.length : Int) := by omega
      have hrw := HRW.out.on hKr.out (Nat.le_refl _)
      obtain ⟨pb, po, pe, -, -⟩ := hrw.at_ hx
      rw [pe] at hrw
      have HS := Lib.hid (fun (X : World) (hX : Below wr.heap.size wr X) => (by
        have hk2 := below_join HKwr.out hX HKwr.out.size
        obtain ⟨f0, f1, f2, f3, f4, f5, f6, f7, f8⟩ := HF.out X hk2
        exact ⟨f0, f1, f2, f3, f4, f5, f6, f7, f8, inRw (hrw.on hX (Nat.le_refl _)) hx⟩ : X.cell? ⟨B, 0, none⟩ = some (.slice z.p.a1 z.s.feeds.length z.p.c1) ∧ X.cell? ⟨B, 1, none⟩ = some (.slice z.p.a2 z.s.brks.length z.p.c2) ∧ X.cell? ⟨B, 2, none⟩ = some (.slice z.p.a3 z.s.loops.length z.p.c3) ∧ X.cell? ⟨B, 3, none⟩ = some (.slice z.p.a4 z.s.racks.length z.p.c4) ∧ X.cell? ⟨B, 4, none⟩ = some (.int .i64 z.s.sw) ∧ X.cell? ⟨B, 5, none⟩ = some (.slice z.p.a5 z.s.links.length z.p.c5) ∧ X.cell? ⟨B, 6, none⟩ = some (.slice z.p.a6 z.s.hosts.length z.p.c6) ∧ X.cell? ⟨B + 1, 0, none⟩ = some (.slice z.q.a1 z.d.hosts.length z.q.c1) ∧ X.cell? ⟨B + 1, 1, none⟩ = some (.slice z.q.a2 z.d.reps.length z.q.c2) ∧ X.cell? ⟨pb, po + k, none⟩ = some (.int .i64 h)))
      have HKbwr := Lib.hid (Below.refl wr.heap.size wr)
      have HSN := Lib.hid (fun (X : World) (hX : Below wr.heap.size wr X) => HZ.out X (below_join HKwr.out hX HKwr.out.size))
      obtain ⟨p, hp⟩ : ∃ p, domD z.s d h = p := ⟨_, rfl⟩
      have HP := Lib.hid hp
      have HST := Lib.hid (show inDm z.s d (l.take (k + 1)) n = u + if p = (n : Int) then 1 else 0 by rw [List.take_add_one, hx, ← hu, ← hp]; exact inDm_snoc _ _ _ _ _)
      obtain ⟨f0, f1, f2, f3, f4, f5, f6, f7, f8, c0⟩ := HS.out wr HKbwr.out
      have hwr : IntKind.i64.wrap ((u : Int) + 1) = (u : Int) + 1 := wrap_in (by omega) (by omega)
      rw [pe]
      clear hx hp hrw hu
      go_wp2_with (fail)
      clear f0 f1 f2 f3 f4 f5 f6 f7 f8 c0
      go_region_held3 (fun X => X.cell? ⟨B, 0, none⟩ = some (.slice z.p.a1 z.s.feeds.length z.p.c1) ∧ X.cell? ⟨B, 1, none⟩ = some (.slice z.p.a2 z.s.brks.length z.p.c2) ∧ X.cell? ⟨B, 2, none⟩ = some (.slice z.p.a3 z.s.loops.length z.p.c3) ∧ X.cell? ⟨B, 3, none⟩ = some (.slice z.p.a4 z.s.racks.length z.p.c4) ∧ X.cell? ⟨B, 4, none⟩ = some (.int .i64 z.s.sw) ∧ X.cell? ⟨B, 5, none⟩ = some (.slice z.p.a5 z.s.links.length z.p.c5) ∧ X.cell? ⟨B, 6, none⟩ = some (.slice z.p.a6 z.s.hosts.length z.p.c6) ∧ X.cell? ⟨B + 1, 0, none⟩ = some (.slice z.q.a1 z.d.hosts.length z.q.c1) ∧ X.cell? ⟨B + 1, 1, none⟩ = some (.slice z.q.a2 z.d.reps.length z.q.c2) ∧ X.cell? ⟨pb, po + k, none⟩ = some (.int .i64 h))
        (first | exact HS.out v301 HKbv301.out | exact HS.out wr HKbwr.out | fail)
        (first
          | (go_at_call 108; (with_reducible refine (c_srDomTo z d hd h p HP.out wr.drew (HSN.out _ HKbwr.out.drew)).mono ?_); rintro e v301 ⟨rfl, bb0⟩; have bb := below_join (Below.refl wr.heap.size wr).drew bb0 (Nat.le_refl _); have HKbv301 := Lib.hid (below_join HKbwr.out bb HKbwr.out.size); clear bb bb0)
          | fail)
      have HKY := Lib.hid (below_join hKr.out HKbv301.out hKr.out.size)
      rcases hpn : (p == (n : Int)) with _ | _
      · have HE := Lib.hid (show ((inDm z.s d (l.take (k + 1)) n : Nat) : Int) = (u : Int) by rw [HST.out, if_neg (beq_eq_false_iff_ne.1 hpn)]; rfl)
        go_wp2_with (fail)
        go_roundw
        case rel => exact ⟨k + 1, by omega, by rw [HE.out], by go_num, HKY⟩
        case measure => simp only [intOf]; omega
      · have HE := Lib.hid (show ((inDm z.s d (l.take (k + 1)) n : Nat) : Int) = (u : Int) + 1 by rw [HST.out, if_pos (eq_of_beq hpn)]; rfl)
        go_wp2_with (fail)
        go_roundw
        case rel => exact ⟨k + 1, by omega, by rw [HE.out], by go_num, HKY⟩
        case measure => simp only [intOf]; omega
    · obtain rfl : k = l.length := by omega
      have HT := Lib.hid (show (u : Int) = r by rw [← HR.out, ← hu, List.take_length])
      clear hu
      go_wp2_with (fail)
      go_ret
      exact ⟨(show Ending.returned (.int .i64 (u : Int)) = .returned (.int .i64 r) by rw [HT.out]), below_join HB.out HKwr.out hle⟩
set_option maxHeartbeats 16000000 in
theorem c_lonely (z : Sn) (ok : z.Ok) (a : Int) (x : Nr) (l : List Int) (hl : whereD z.d.reps a = l) (hm : z.d.reps.length ≤ 1000) (r : Bool) (hr : lonB z.s z.d l x = r) (w : World) (hz : SnAt w z) :
    Calls Tryz.prog 65 #[.agg #[.slice z.p.a1 z.s.feeds.length z.p.c1, .slice z.p.a2 z.s.brks.length z.p.c2, .slice z.p.a3 z.s.loops.length z.p.c3, .slice z.p.a4 z.s.racks.length z.p.c4, .int .i64 z.s.sw, .slice z.p.a5 z.s.links.length z.p.c5, .slice z.p.a6 z.s.hosts.length z.p.c6], .agg #[.slice z.q.a1 z.d.hosts.length z.q.c1, .slice z.q.a2 z.d.reps.length z.q.c2], .int .i64 a, .agg #[.int .i64 x.svc, .int .i64 x.lat]] w fun e w' => e = .returned (.bool r) ∧ Below w.heap.size w w' := by
  have hln : l.length ≤ 1000 := by rw [← hl]; exact Nat.le_trans (where_len _ _) hm
  obtain ⟨W1, h1⟩ : ∃ W, W = w.alloc (.cells #[.slice z.p.a1 z.s.feeds.length z.p.c1, .slice z.p.a2 z.s.brks.length z.p.c2, .slice z.p.a3 z.s.loops.length z.p.c3, .slice z.p.a4 z.s.racks.length z.p.c4, .int .i64 z.s.sw, .slice z.p.a5 z.s.links.length z.p.c5, .slice z.p.a6 z.s.hosts.length z.p.c6] 29) := ⟨_, rfl⟩
  have z1 : W1.heap.size = w.heap.size + 1 := by rw [h1, World.size_alloc]
  have B1 : Below w.heap.size w W1 := by rw [h1]; exact (Below.refl _ _).alloc (by omega) _
  have M0 : W1.heap[w.heap.size]? = some (.cells #[.slice z.p.a1 z.s.feeds.length z.p.c1, .slice z.p.a2 z.s.brks.length z.p.c2, .slice z.p.a3 z.s.loops.length z.p.c3, .slice z.p.a4 z.s.racks.length z.p.c4, .int .i64 z.s.sw, .slice z.p.a5 z.s.links.length z.p.c5, .slice z.p.a6 z.s.hosts.length z.p.c6] 29 (0, 0)) := by rw [h1]; exact box_new _ _ _
  obtain ⟨W2, h2⟩ : ∃ W, W = W1.alloc (.cells #[.slice z.q.a1 z.d.hosts.length z.q.c1, .slice z.q.a2 z.d.reps.length z.q.c2] 36) := ⟨_, rfl⟩
  have z2 : W2.heap.size = w.heap.size + 1 + 1 := by rw [h2, World.size_alloc, z1]
  have B2 : Below w.heap.size w W2 := by rw [h2]; exact B1.alloc (by omega) _
  have M0 := old_heap (X := W1) (.cells #[.slice z.q.a1 z.d.hosts.length z.q.c1, .slice z.q.a2 z.d.reps.length z.q.c2] 36) M0
  rw [← h2] at M0
  have M1 : W2.heap[w.heap.size + 1]? = some (.cells #[.slice z.q.a1 z.d.hosts.length z.q.c1, .slice z.q.a2 z.d.reps.length z.q.c2] 36 (0, 0)) := by rw [h2, ← z1]; exact box_new _ _ _
  obtain ⟨W, h3⟩ : ∃ W, W = W2.alloc (.cells #[.int .i64 x.svc, .int .i64 x.lat] 109) := ⟨_, rfl⟩
  have z3 : W.heap.size = w.heap.size + 1 + 1 + 1 := by rw [h3, World.size_alloc, z2]
  have B3 : Below w.heap.size w W := by rw [h3]; exact B2.alloc (by omega) _
  have M0 := old_heap (X := W2) (.cells #[.int .i64 x.svc, .int .i64 x.lat] 109) M0
  rw [← h3] at M0
  have M1 := old_heap (X := W2) (.cells #[.int .i64 x.svc, .int .i64 x.lat] 109) M1
  rw [← h3] at M1
  have M2 : W.heap[w.heap.size + 1 + 1]? = some (.cells #[.int .i64 x.svc, .int .i64 x.lat] 109 (0, 0)) := by rw [h3, ← z2]; exact box_new _ _ _
  have HB := Lib.hid B3
  have HF := Lib.hid (fun (X : World) (hX : Below W.heap.size W X) => (⟨cell_of (box_on M0 hX (Nat.le_refl _)) rfl, cell_of (box_on M0 hX (Nat.le_refl _)) rfl, cell_of (box_on M0 hX (Nat.le_refl _)) rfl, cell_of (box_on M0 hX (Nat.le_refl _)) rfl, cell_of (box_on M0 hX (Nat.le_refl _)) rfl, cell_of (box_on M0 hX (Nat.le_refl _)) rfl, cell_of (box_on M0 hX (Nat.le_refl _)) rfl, cell_of (box_on M1 hX (Nat.le_refl _)) rfl, cell_of (box_on M1 hX (Nat.le_refl _)) rfl, cell_of (box_on M2 hX (Nat.le_refl _)) rfl, cell_of (box_on M2 hX (Nat.le_refl _)) rfl⟩ : X.cell? ⟨w.heap.size, 0, none⟩ = some (.slice z.p.a1 z.s.feeds.length z.p.c1) ∧ X.cell? ⟨w.heap.size, 1, none⟩ = some (.slice z.p.a2 z.s.brks.length z.p.c2) ∧ X.cell? ⟨w.heap.size, 2, none⟩ = some (.slice z.p.a3 z.s.loops.length z.p.c3) ∧ X.cell? ⟨w.heap.size, 3, none⟩ = some (.slice z.p.a4 z.s.racks.length z.p.c4) ∧ X.cell? ⟨w.heap.size, 4, none⟩ = some (.int .i64 z.s.sw) ∧ X.cell? ⟨w.heap.size, 5, none⟩ = some (.slice z.p.a5 z.s.links.length z.p.c5) ∧ X.cell? ⟨w.heap.size, 6, none⟩ = some (.slice z.p.a6 z.s.hosts.length z.p.c6) ∧ X.cell? ⟨w.heap.size + 1, 0, none⟩ = some (.slice z.q.a1 z.d.hosts.length z.q.c1) ∧ X.cell? ⟨w.heap.size + 1, 1, none⟩ = some (.slice z.q.a2 z.d.reps.length z.q.c2) ∧ X.cell? ⟨w.heap.size + 1 + 1, 0, none⟩ = some (.int .i64 x.svc) ∧ X.cell? ⟨w.heap.size + 1 + 1, 1, none⟩ = some (.int .i64 x.lat)))
  have Z0 := hz.on B3 (Nat.le_refl _)
  have HZ := Lib.hid (fun (X : World) (hX : Below W.heap.size W X) => Z0.on hX (Nat.le_refl _))
  have HKW := Lib.hid (Below.refl W.heap.size W)
  have hle := HB.out.size
  have HL := Lib.hid hl
  have HR := Lib.hid hr
  obtain ⟨m, hml⟩ : ∃ m, whereD z.d.reps x.svc = m := ⟨_, rfl⟩
  have HM := Lib.hid hml
  have hmn : m.length ≤ 1000 := by rw [← hml]; exact Nat.le_trans (where_len _ _) hm
  have HOK := Lib.hid ok
  clear hl hr hml ok
  clear z1 B1 M0 z2 B2 M1 z3 B3 M2 Z0 hz
  obtain ⟨f0, f1, f2, f3, f4, f5, f6, f7, f8, f9, f10⟩ := HF.out W HKW.out
  rw [h3, h2, h1] at f0 f1 f2 f3 f4 f5 f6 f7 f8 f9 f10
  generalize hBB : w.heap.size = B at *
  go_enter Tryz.func65, Tryz.ntmps65
  go_wp2_with (fail)
  rw [← h1, ← h2, ← h3]
  clear h1 h2 h3 f0 f1 f2 f3 f4 f5 f6 f7 f8 f9 f10
  go_region_held3 (fun X => X.cell? ⟨B, 0, none⟩ = some (.slice z.p.a1 z.s.feeds.length z.p.c1) ∧ X.cell? ⟨B, 1, none⟩ = some (.slice z.p.a2 z.s.brks.length z.p.c2) ∧ X.cell? ⟨B, 2, none⟩ = some (.slice z.p.a3 z.s.loops.length z.p.c3) ∧ X.cell? ⟨B, 3, none⟩ = some (.slice z.p.a4 z.s.racks.length z.p.c4) ∧ X.cell? ⟨B, 4, none⟩ = some (.int .i64 z.s.sw) ∧ X.cell? ⟨B, 5, none⟩ = some (.slice z.p.a5 z.s.links.length z.p.c5) ∧ X.cell? ⟨B, 6, none⟩ = some (.slice z.p.a6 z.s.hosts.length z.p.c6) ∧ X.cell? ⟨B + 1, 0, none⟩ = some (.slice z.q.a1 z.d.hosts.length z.q.c1) ∧ X.cell? ⟨B + 1, 1, none⟩ = some (.slice z.q.a2 z.d.reps.length z.q.c2) ∧ X.cell? ⟨B + 1 + 1, 0, none⟩ = some (.int .i64 x.svc) ∧ X.cell? ⟨B + 1 + 1, 1, none⟩ = some (.int .i64 x.lat))
    (first | exact HF.out v202 HKv202.out | exact HF.out v201 HKv201.out | exact HF.out W HKW.out | fail)
    (first
      | (go_at_call 66; (with_reducible refine (c_wrWhereTo z a l HL.out hm W.drew (HZ.out _ HKW.out.drew)).mono ?_); rintro e v201 ⟨A1, q1, rfl, ho1, bb0⟩; have bb := below_join (Below.refl W.heap.size W).drew bb0 (Nat.le_refl _); have HKv201 := Lib.hid (below_join HKW.out bb HKW.out.size); have RAv201 := Lib.hid (own_rwA ho1); clear ho1; clear bb bb0)
      | (go_at_call 66; (with_reducible refine (c_wrWhereTo z x.svc m HM.out hm v201 (HZ.out _ HKv201.out)).mono ?_); rintro e v202 ⟨A2, q2, rfl, ho2, bb0⟩; have bb := below_join (Below.refl v201.heap.size v201) bb0 (Nat.le_refl _); have HKv202 := Lib.hid (below_join HKv201.out bb HKv201.out.size); have RAv202 := Lib.hid (RAv201.out.on bb (Nat.le_refl _)); have RBv202 := Lib.hid (own_rwA ho2); clear ho2; clear bb bb0)
      | fail)
  have HK0 := Lib.hid (Below.refl v202.heap.size v202)
  go_wp2_with (fail)
  go_loopw [11] (fun i wr => ∃ k : Nat, k ≤ l.length ∧ i = .int .i64 (k : Int) ∧ Hid (Below v202.heap.size v202 wr) ∧ Hid ((l.take k).any (fun h => !nlB z.s z.d x h) = false)) (fun i _ => l.length - (intOf i).toNat)
  case atStart => exact ⟨0, Nat.zero_le _, rfl, HK0, Lib.hid (by simp)⟩
  case round =>
    obtain ⟨k, hk, rfl, hKr, hun⟩ := hrel
    have hki : ((k : Nat) : Int).toNat = k := by omega
    have HKwr := Lib.hid (below_join HKv202.out hKr.out HKv202.out.size)
    by_cases hlt : k < l.length
    · obtain ⟨h, hx⟩ : ∃ x, l[k]? = some x := ⟨_, List.getElem?_eq_getElem hlt⟩
      have hki2 : (k : Int) < (l.length : Int) := by omega
      have HXX := Lib.hid hx
      clear hx
      obtain ⟨wo, hwo⟩ : ∃ wo, wr = wo := ⟨_, rfl⟩
      rw [hwo] at hKr HKwr
      rw [hwo]
      clear hwo
      go_wp2_with (fail)
      go_loopw [12, 13] (fun f i wr => ∃ q : Nat, q ≤ m.length ∧ f = .bool ((m.take q).any fun y => decide (0 ≤ latI z.s h y) && decide (latI z.s h y ≤ x.lat)) ∧ i = .int .i64 (q : Int) ∧ Hid (Below v202.heap.size v202 wr)) (fun _ i _ => m.length - (intOf i).toNat)
      case atStart => exact ⟨0, Nat.zero_le _, rfl, rfl, hKr⟩
      case round =>
        obtain ⟨q, hq, rfl, rfl, hKq⟩ := hrel
        have hqi : ((q : Nat) : Int).toNat = q := by omega
        have HKq := Lib.hid (below_join HKv202.out hKq.out HKv202.out.size)
        obtain ⟨fd, hfd⟩ : ∃ fd, ((m.take q).any fun y => decide (0 ≤ latI z.s h y) && decide (latI z.s h y ≤ x.lat)) = fd := ⟨_, rfl⟩
        rw [hfd]
        by_cases hql : q < m.length
        · obtain ⟨y, hy⟩ : ∃ x, m[q]? = some x := ⟨_, List.getElem?_eq_getElem hql⟩
          have hqi2 : (q : Int) < (m.length : Int) := by omega
          have hra := RAv202.out.on hKq.out (Nat.le_refl _)
          obtain ⟨pb, po, pe, -, -⟩ := hra.at_ HXX.out
          rw [pe] at hra
          have hrb := RBv202.out.on hKq.out (Nat.le_refl _)
          obtain ⟨qb, qo, qe, -, -⟩ := hrb.at_ hy
          rw [qe] at hrb
          have HS := Lib.hid (fun (X : World) (hX : Below wr.heap.size wr X) => (by
            have hk2 := below_join HKq.out hX HKq.out.size
            obtain ⟨f0, f1, f2, f3, f4, f5, f6, f7, f8, f9, f10⟩ := HF.out X hk2
            exact ⟨f0, f1, f2, f3, f4, f5, f6, f7, f8, f9, f10, inRw (hra.on hX (Nat.le_refl _)) HXX.out, inRw (hrb.on hX (Nat.le_refl _)) hy⟩ : X.cell? ⟨B, 0, none⟩ = some (.slice z.p.a1 z.s.feeds.length z.p.c1) ∧ X.cell? ⟨B, 1, none⟩ = some (.slice z.p.a2 z.s.brks.length z.p.c2) ∧ X.cell? ⟨B, 2, none⟩ = some (.slice z.p.a3 z.s.loops.length z.p.c3) ∧ X.cell? ⟨B, 3, none⟩ = some (.slice z.p.a4 z.s.racks.length z.p.c4) ∧ X.cell? ⟨B, 4, none⟩ = some (.int .i64 z.s.sw) ∧ X.cell? ⟨B, 5, none⟩ = some (.slice z.p.a5 z.s.links.length z.p.c5) ∧ X.cell? ⟨B, 6, none⟩ = some (.slice z.p.a6 z.s.hosts.length z.p.c6) ∧ X.cell? ⟨B + 1, 0, none⟩ = some (.slice z.q.a1 z.d.hosts.length z.q.c1) ∧ X.cell? ⟨B + 1, 1, none⟩ = some (.slice z.q.a2 z.d.reps.length z.q.c2) ∧ X.cell? ⟨B + 1 + 1, 0, none⟩ = some (.int .i64 x.svc) ∧ X.cell? ⟨B + 1 + 1, 1, none⟩ = some (.int .i64 x.lat) ∧ X.cell? ⟨pb, po + k, none⟩ = some (.int .i64 h) ∧ X.cell? ⟨qb, qo + q, none⟩ = some (.int .i64 y)))
          have HKbwr := Lib.hid (Below.refl wr.heap.size wr)
          have HSN := Lib.hid (fun (X : World) (hX : Below wr.heap.size wr X) => HZ.out X (below_join HKq.out hX HKq.out.size))
          obtain ⟨p, hp⟩ : ∃ p, latI z.s h y = p := ⟨_, rfl⟩
          have HP := Lib.hid hp
          have HST := Lib.hid (show ((m.take (q + 1)).any fun y => decide (0 ≤ latI z.s h y) && decide (latI z.s h y ≤ x.lat)) = (fd || (decide (0 ≤ p) && decide (p ≤ x.lat))) by rw [any_take hy, hfd, hp])
          obtain ⟨f0, f1, f2, f3, f4, f5, f6, f7, f8, f9, f10, c0, c1⟩ := HS.out wr HKbwr.out
          rw [pe, qe]
          clear hy hp hra hrb hfd
          go_wp2_with (fail)
          clear f0 f1 f2 f3 f4 f5 f6 f7 f8 f9 f10 c0 c1
          go_region_held3 (fun X => X.cell? ⟨B, 0, none⟩ = some (.slice z.p.a1 z.s.feeds.length z.p.c1) ∧ X.cell? ⟨B, 1, none⟩ = some (.slice z.p.a2 z.s.brks.length z.p.c2) ∧ X.cell? ⟨B, 2, none⟩ = some (.slice z.p.a3 z.s.loops.length z.p.c3) ∧ X.cell? ⟨B, 3, none⟩ = some (.slice z.p.a4 z.s.racks.length z.p.c4) ∧ X.cell? ⟨B, 4, none⟩ = some (.int .i64 z.s.sw) ∧ X.cell? ⟨B, 5, none⟩ = some (.slice z.p.a5 z.s.links.length z.p.c5) ∧ X.cell? ⟨B, 6, none⟩ = some (.slice z.p.a6 z.s.hosts.length z.p.c6) ∧ X.cell? ⟨B + 1, 0, none⟩ = some (.slice z.q.a1 z.d.hosts.length z.q.c1) ∧ X.cell? ⟨B + 1, 1, none⟩ = some (.slice z.q.a2 z.d.reps.length z.q.c2) ∧ X.cell? ⟨B + 1 + 1, 0, none⟩ = some (.int .i64 x.svc) ∧ X.cell? ⟨B + 1 + 1, 1, none⟩ = some (.int .i64 x.lat) ∧ X.cell? ⟨pb, po + k, none⟩ = some (.int .i64 h) ∧ X.cell? ⟨qb, qo + q, none⟩ = some (.int .i64 y))
            (first | exact HS.out v301 HKbv301.out | exact HS.out wr HKbwr.out | fail)
            (first
              | (go_at_call 109; (with_reducible refine (c_nrLatTo z h y p HP.out wr.drew (HSN.out _ HKbwr.out.drew)).mono ?_); rintro e v301 ⟨rfl, bb0⟩; have bb := below_join (Below.refl wr.heap.size wr).drew bb0 (Nat.le_refl _); have HKbv301 := Lib.hid (below_join HKbwr.out bb HKbwr.out.size); clear bb bb0)
              | fail)
          have HKY := Lib.hid (below_join hKq.out HKbv301.out hKq.out.size)
          obtain ⟨f0, f1, f2, f3, f4, f5, f6, f7, f8, f9, f10, c0, c1⟩ := HS.out v301 HKbv301.out
          rcases fd with _ | _
          · rcases g1 : decide (0 ≤ p) with _ | _
            · have HE := Lib.hid (show ((m.take (q + 1)).any fun y => decide (0 ≤ latI z.s h y) && decide (latI z.s h y ≤ x.lat)) = false by rw [HST.out, g1]; rfl)
              go_wp2_with (fail)
              clear f0 f1 f2 f3 f4 f5 f6 f7 f8 f9 f10 c0 c1
              go_roundw
              case rel => exact ⟨q + 1, by omega, by rw [HE.out], by go_num, HKY⟩
              case measure => simp only [intOf]; omega
            · obtain ⟨b2, g2⟩ : ∃ b2, decide (p ≤ x.lat) = b2 := ⟨_, rfl⟩
              have HE := Lib.hid (show ((m.take (q + 1)).any fun y => decide (0 ≤ latI z.s h y) && decide (latI z.s h y ≤ x.lat)) = b2 by rw [HST.out, g1, g2]; rfl)
              go_wp2_with (fail)
              clear f0 f1 f2 f3 f4 f5 f6 f7 f8 f9 f10 c0 c1
              go_roundw
              case rel => exact ⟨q + 1, by omega, by rw [HE.out], by go_num, HKY⟩
              case measure => simp only [intOf]; omega
          · have HE := Lib.hid (show ((m.take (q + 1)).any fun y => decide (0 ≤ latI z.s h y) && decide (latI z.s h y ≤ x.lat)) = true by rw [HST.out]; rfl)
            go_wp2_with (fail)
            clear f0 f1 f2 f3 f4 f5 f6 f7 f8 f9 f10 c0 c1
            go_roundw
            case rel => exact ⟨q + 1, by omega, by rw [HE.out], by go_num, HKY⟩
            case measure => simp only [intOf]; omega
        · obtain rfl : q = m.length := by omega
          have HFD := Lib.hid (show nlB z.s z.d x h = fd by unfold nlB; rw [HM.out, ← hfd, List.take_length])
          clear hfd
          rcases fd with _ | _
          · have HT := Lib.hid (show true = r by
              rw [← HR.out]; symm
              unfold lonB
              rw [List.any_eq_true]
              exact ⟨h, List.mem_of_getElem? HXX.out, by rw [← nl_is HOK.out, HFD.out]; rfl⟩)
            go_wp2_with (fail)
            go_ret
            exact ⟨by rw [HT.out]; rfl, below_join HB.out HKq.out hle⟩
          · have HUN := Lib.hid (show (l.take (k + 1)).any (fun h => !nlB z.s z.d x h) = false by rw [any_take HXX.out, hun.out, HFD.out]; rfl)
            go_wp2_with (fail)
            go_roundw
            case rel => exact ⟨k + 1, by omega, by go_num, hKq, HUN⟩
            case measure => simp only [intOf]; omega
    · obtain rfl : k = l.length := by omega
      have HT := Lib.hid (show false = r by
        rw [← HR.out]; symm
        have h2 := hun.out
        rw [List.take_length] at h2
        unfold lonB
        rw [← h2]
        congr 1
        funext h
        rw [nl_is HOK.out])
      go_wp2_with (fail)
      go_ret
      exact ⟨by rw [HT.out]; rfl, below_join HB.out HKwr.out hle⟩
end Go.Proofs.YtbbadnlaelgmlaaGreat

namespace Go.Proofs.YtbbadnlaelgmlaaGreat
open Go.RowKit
set_option maxRecDepth 100000
set_option linter.unusedVariables false
set_option linter.unusedSimpArgs false

theorem pha_is {z : Sn} (ok : z.Ok) {k : Nat} (hk : k < z.s.hosts.length) {x : Hst} (hx : z.d.hosts[k]? = some x) {u : Int} (hu : usedD z.ss z.d.reps (k : Int) = u) : bnPha z.d k = (decide (0 < u) && decide (2 ≤ (x.phase : Int))) := by
  have h4 : x.phase ≤ 4 := by
    have := ok.2.2.2.1 x (List.mem_of_getElem? hx)
    unfold hstOk at this
    rw [Bool.and_eq_true, decide_eq_true_eq] at this
    exact this.1
  obtain ⟨e1, e2⟩ := used_is ok (k : Int)
  have hon : isOn z.d.reps (k : Int) = decide (0 < u) := by
    rw [← hu, e1]
    unfold isOn usedN
    generalize z.d.reps = l at e2
    clear e1 hu hx
    induction l with
    | nil => rfl
    | cons r l ih =>
      have h1 := e2 r (by simp)
      have ih := ih fun q hq => e2 q (by simp [hq])
      have h0 : 0 ≤ (l.map fun r => if r.host = (k : Int) then coresAt z.ss r.svc else 0).sum :=
        usedN_sub (ss := z.ss) (host := (k : Int)) (List.nil_sublist l) fun q hq => by have := e2 q (by simp [hq]); omega
      rw [List.any_cons, ih, List.map_cons, List.sum_cons]
      by_cases e : r.host = (k : Int)
      · rw [if_pos e]
        have : (r.host == (k : Int)) = true := by simp [e]
        rw [this, Bool.true_or]
        exact (decide_eq_true (by omega)).symm
      · rw [if_neg e]
        have : (r.host == (k : Int)) = false := by simp [e]
        rw [this, Bool.false_or]
        congr 1
        rw [eq_iff_iff]; omega
  unfold bnPha
  rw [phAt_eq hx, hon, Bool.and_comm]
  congr 1
  rw [decide_eq_true h4, Bool.and_true]
  congr 1
  rw [eq_iff_iff]; omega
set_option maxHeartbeats 64000000 in
theorem c_irHosts (z : Sn) (ok : z.Ok) (w : World) (hz : SnAt w z) :
    Calls Tryz.prog 30 #[.agg #[.slice z.p.a1 z.s.feeds.length z.p.c1, .slice z.p.a2 z.s.brks.length z.p.c2, .slice z.p.a3 z.s.loops.length z.p.c3, .slice z.p.a4 z.s.racks.length z.p.c4, .int .i64 z.s.sw, .slice z.p.a5 z.s.links.length z.p.c5, .slice z.p.a6 z.s.hosts.length z.p.c6], .agg #[.slice z.A z.xs.length z.c], .agg #[.slice z.q.a1 z.d.hosts.length z.q.c1, .slice z.q.a2 z.d.reps.length z.q.c2]] w fun e w' => ∃ v, e = .returned v ∧ Ow w.heap.size v (bnK z.s z.ss z.d 1 ++ bnK z.s z.ss z.d 2) w' ∧ Below w.heap.size w w' := by
  have hn16 := few_hosts ok
  have hn8 := few_svcs ok
  have hnb := few_brks ok
  have hnf := few_feeds ok
  have hnl := few_loops ok
  have hrp := few_reps ok
  have hsm := hosts_same ok
  have HSM := Lib.hid hsm
  have HOK := Lib.hid ok
  clear hsm ok
  obtain ⟨W1, h1⟩ : ∃ W, W = w.alloc (.cells #[.slice z.p.a1 z.s.feeds.length z.p.c1, .slice z.p.a2 z.s.brks.length z.p.c2, .slice z.p.a3 z.s.loops.length z.p.c3, .slice z.p.a4 z.s.racks.length z.p.c4, .int .i64 z.s.sw, .slice z.p.a5 z.s.links.length z.p.c5, .slice z.p.a6 z.s.hosts.length z.p.c6] 29) := ⟨_, rfl⟩
  obtain ⟨W2, h2⟩ : ∃ W, W = W1.alloc (.cells #[.slice z.A z.xs.length z.c] 32) := ⟨_, rfl⟩
  obtain ⟨W, h3⟩ : ∃ W, W = W2.alloc (.cells #[.slice z.q.a1 z.d.hosts.length z.q.c1, .slice z.q.a2 z.d.reps.length z.q.c2] 36) := ⟨_, rfl⟩
  obtain ⟨B0, X1⟩ := sn_boxes h1 h2 h3
  have z3 : W.heap.size = w.heap.size + 1 + 1 + 1 := sn_size h1 h2 h3
  have HB := Lib.hid B0
  have Z0 := hz.on B0 (Nat.le_refl _)
  have HZ := Lib.hid (fun (X : World) (hX : Below W.heap.size W X) => Z0.on hX (Nat.le_refl _))
  have HF := Lib.hid (fun (X : World) (hX : Below W.heap.size W X) => ((X1.on hX (Nat.le_refl _)).cells : X.cell? ⟨w.heap.size, 0, none⟩ = some (.slice z.p.a1 z.s.feeds.length z.p.c1) ∧ X.cell? ⟨w.heap.size, 1, none⟩ = some (.slice z.p.a2 z.s.brks.length z.p.c2) ∧ X.cell? ⟨w.heap.size, 2, none⟩ = some (.slice z.p.a3 z.s.loops.length z.p.c3) ∧ X.cell? ⟨w.heap.size, 3, none⟩ = some (.slice z.p.a4 z.s.racks.length z.p.c4) ∧ X.cell? ⟨w.heap.size, 4, none⟩ = some (.int .i64 z.s.sw) ∧ X.cell? ⟨w.heap.size, 5, none⟩ = some (.slice z.p.a5 z.s.links.length z.p.c5) ∧ X.cell? ⟨w.heap.size, 6, none⟩ = some (.slice z.p.a6 z.s.hosts.length z.p.c6) ∧ X.cell? ⟨w.heap.size + 1, 0, none⟩ = some (.slice z.A z.xs.length z.c) ∧ X.cell? ⟨w.heap.size + 1 + 1, 0, none⟩ = some (.slice z.q.a1 z.d.hosts.length z.q.c1) ∧ X.cell? ⟨w.heap.size + 1 + 1, 1, none⟩ = some (.slice z.q.a2 z.d.reps.length z.q.c2)))
  have HX := Lib.hid (fun (X : World) (hX : Below W.heap.size W X) => X1.on hX (Nat.le_refl _))
  have HKW := Lib.hid (Below.refl W.heap.size W)
  have hle := HB.out.size
  obtain ⟨n1, n2, n3, n4, n5, n6, n7, n8⟩ := hz.bounds
  clear hz B0 X1 z3 Z0
  obtain ⟨f0, f1, f2, f3, f4, f5, f6, g0, g1, g2⟩ := HF.out W HKW.out
  rw [h3, h2, h1] at f0 f1 f2 f3 f4 f5 f6 g0 g1 g2
  generalize hBB : w.heap.size = B at *
  go_enter Tryz.func30, Tryz.ntmps30
  go_wp2_with (fail)
  rw [← h1, ← h2, ← h3]
  clear h1 h2 h3 f0 f1 f2 f3 f4 f5 f6 g0 g1 g2
  have hl0 : ∃ l0 : List Bn, [] = l0 := ⟨_, rfl⟩
  obtain ⟨l0, hl0⟩ := hl0
  have HL0 := Lib.hid hl0
  have hnl0 : l0.length = 0 := by rw [← hl0]; rfl
  have OW0 := Lib.hid (show Ow W.heap.size (.slice none 0 0) l0 W from by rw [← hl0]; exact ⟨World.ownsRow_nil _ _ _ _, Nat.le_refl _⟩)
  clear hl0
  go_loopw [7, 8] (fun v i wr => ∃ k : Nat, k ≤ z.s.hosts.length ∧ i = .int .i64 (k : Int) ∧ Hid (Below W.heap.size W wr) ∧ Hid (Ow W.heap.size v (l0 ++ bk1 1 (bnCor z.s z.ss z.d) k) wr)) (fun _ i _ => z.s.hosts.length - (intOf i).toNat)
  case atStart => exact ⟨0, Nat.zero_le _, rfl, HKW, Lib.hid (by rw [bk1_zero, List.append_nil]; exact OW0.out)⟩
  case round =>
    obtain ⟨k, hk, rfl, HKwr, OWwr⟩ := hrel
    have hki : ((k : Nat) : Int).toNat = k := by omega
    by_cases hlt : k < z.s.hosts.length
    · obtain ⟨x, hx⟩ : ∃ x, z.s.hosts[k]? = some x := ⟨_, List.getElem?_eq_getElem (by have := HSM.out; omega)⟩
      have hki2 : (k : Int) < (z.s.hosts.length : Int) := by omega
      obtain ⟨m, hm⟩ : ∃ m, l0 ++ bk1 1 (bnCor z.s z.ss z.d) k = m := ⟨_, rfl⟩
      have HSU := Lib.hid (show l0 ++ bk1 1 (bnCor z.s z.ss z.d) (k + 1) = addL m ((bnCor z.s z.ss z.d) k) ⟨1, (k : Int), 0⟩ by rw [bk1_succ, ← List.append_assoc, hm]; rfl)
      have HML := Lib.hid (show m.length ≤ 10000 by
        rw [← hm, List.length_append]
        have h1 := bk1_len 1 (bnCor z.s z.ss z.d) k
        omega)
      rw [hm] at OWwr
      clear hm
      obtain ⟨pb, po, e6, hpb, x0, x1, x2, x3⟩ := hs_at (HZ.out W HKW.out) hx
      have xcell : ∀ X, Below W.heap.size W X → X.cell? ⟨pb, po + k * 4 + 1, none⟩ = some (.int .i64 x.cores) := fun X hX => (hX.cell (p := ⟨pb, po + k * 4 + 1, none⟩) hpb).trans x1
      obtain ⟨u, hu⟩ : ∃ u, usedD z.ss z.d.reps (k : Int) = u := ⟨_, rfl⟩
      have HU := Lib.hid hu
      have HX1 := Lib.hid hx
      clear hu hx x0 x1 x2 x3
      have HC := Lib.hid (fun (X : World) (hX : Below W.heap.size W X) => (by
        obtain ⟨f0, f1, f2, f3, f4, f5, f6, g0, g1, g2⟩ := HF.out X hX
        rw [e6] at f6
        exact ⟨f0, f1, f2, f3, f4, f5, f6, g0, g1, g2, xcell X hX⟩ : X.cell? ⟨B, 0, none⟩ = some (.slice z.p.a1 z.s.feeds.length z.p.c1) ∧ X.cell? ⟨B, 1, none⟩ = some (.slice z.p.a2 z.s.brks.length z.p.c2) ∧ X.cell? ⟨B, 2, none⟩ = some (.slice z.p.a3 z.s.loops.length z.p.c3) ∧ X.cell? ⟨B, 3, none⟩ = some (.slice z.p.a4 z.s.racks.length z.p.c4) ∧ X.cell? ⟨B, 4, none⟩ = some (.int .i64 z.s.sw) ∧ X.cell? ⟨B, 5, none⟩ = some (.slice z.p.a5 z.s.links.length z.p.c5) ∧ X.cell? ⟨B, 6, none⟩ = some (.slice (some ⟨pb, po, none⟩) z.s.hosts.length z.p.c6) ∧ X.cell? ⟨B + 1, 0, none⟩ = some (.slice z.A z.xs.length z.c) ∧ X.cell? ⟨B + 1 + 1, 0, none⟩ = some (.slice z.q.a1 z.d.hosts.length z.q.c1) ∧ X.cell? ⟨B + 1 + 1, 1, none⟩ = some (.slice z.q.a2 z.d.reps.length z.q.c2) ∧ X.cell? ⟨pb, po + k * 4 + 1, none⟩ = some (.int .i64 x.cores)))
      obtain ⟨is, his⟩ : ∃ b, decide (x.cores < u) = b := ⟨_, rfl⟩
      have HSK := Lib.hid (show l0 ++ bk1 1 (bnCor z.s z.ss z.d) (k + 1) = addL m is ⟨1, (k : Int), 0⟩ by rw [HSU.out, show (bnCor z.s z.ss z.d) k = is from (by unfold bnCor; rw [hsAt_eq HX1.out, HU.out]; exact his)])
      obtain ⟨f0, f1, f2, f3, f4, f5, f6, g0, g1, g2, c0⟩ := HC.out wr HKwr.out
      clear e6 xcell
      go_wp2_with (fail)
      clear f0 f1 f2 f3 f4 f5 f6 g0 g1 g2 c0
      go_region_held3 (fun X => X.cell? ⟨B, 0, none⟩ = some (.slice z.p.a1 z.s.feeds.length z.p.c1) ∧ X.cell? ⟨B, 1, none⟩ = some (.slice z.p.a2 z.s.brks.length z.p.c2) ∧ X.cell? ⟨B, 2, none⟩ = some (.slice z.p.a3 z.s.loops.length z.p.c3) ∧ X.cell? ⟨B, 3, none⟩ = some (.slice z.p.a4 z.s.racks.length z.p.c4) ∧ X.cell? ⟨B, 4, none⟩ = some (.int .i64 z.s.sw) ∧ X.cell? ⟨B, 5, none⟩ = some (.slice z.p.a5 z.s.links.length z.p.c5) ∧ X.cell? ⟨B, 6, none⟩ = some (.slice (some ⟨pb, po, none⟩) z.s.hosts.length z.p.c6) ∧ X.cell? ⟨B + 1, 0, none⟩ = some (.slice z.A z.xs.length z.c) ∧ X.cell? ⟨B + 1 + 1, 0, none⟩ = some (.slice z.q.a1 z.d.hosts.length z.q.c1) ∧ X.cell? ⟨B + 1 + 1, 1, none⟩ = some (.slice z.q.a2 z.d.reps.length z.q.c2) ∧ X.cell? ⟨pb, po + k * 4 + 1, none⟩ = some (.int .i64 x.cores))
        (first | exact HC.out v202 HKv202.out | exact HC.out v201 HKv201.out | exact HC.out wr HKwr.out | fail)
        (first
          | (go_at_call 60; (with_reducible refine (c_wrUsedTo z (k : Int) u HU.out wr.drew (HZ.out _ HKwr.out.drew)).mono ?_); rintro e v201 ⟨rfl, bb0⟩; have bb := below_join (Below.refl wr.heap.size wr).drew bb0 (Nat.le_refl _); have HKv201 := Lib.hid (below_join HKwr.out bb HKwr.out.size); have OWv201 := Lib.hid (OWwr.out.on bb (Nat.le_refl _)); clear bb bb0)
          | (go_at_call 59; (with_reducible refine (c_add W.heap.size _ m is 1 1 rfl (k : Int) (0) HML.out v201 OWv201.out).mono ?_); rintro e v202 ⟨vv, rfl, ow, bb0, fr⟩; have HKv202 := Lib.hid (HKv201.out.trans bb0); have OWv202 := Lib.hid ow; clear bb0 ow fr)
          | fail)
      go_wp2_with (fail)
      go_roundw
      case rel => exact ⟨k + 1, by omega, by go_num, HKv202, Lib.hid (by rw [HSK.out]; exact OWv202.out)⟩
      case measure => simp only [intOf]; omega
    · obtain rfl : k = z.s.hosts.length := by omega
      obtain ⟨l1, hl1⟩ : ∃ l, l0 ++ bk1 1 (bnCor z.s z.ss z.d) z.s.hosts.length = l := ⟨_, rfl⟩
      have HL1 := Lib.hid hl1
      have hnl1 : l1.length ≤ l0.length + 800 := by
        rw [← hl1, List.length_append]
        have h1 := bk1_len 1 (bnCor z.s z.ss z.d) (z.s.hosts.length)
        omega
      rw [hl1] at OWwr
      clear hl1
      obtain ⟨W90, hW9⟩ : ∃ W9, wr = W9 := ⟨_, rfl⟩
      rw [hW9] at HKwr OWwr
      rw [hW9]
      have HK1 := HKwr
      have OW1 := OWwr
      clear hW9 HKwr OWwr
      obtain ⟨f0, f1, f2, f3, f4, f5, f6, g0, g1, g2⟩ := HF.out W90 HK1.out
      go_wp2_with (fail)
      clear f0 f1 f2 f3 f4 f5 f6 g0 g1 g2
      go_loopw [7, 9] (fun v i wr => ∃ k : Nat, k ≤ z.s.hosts.length ∧ i = .int .i64 (k : Int) ∧ Hid (Below W.heap.size W wr) ∧ Hid (Ow W.heap.size v (l1 ++ bk1 2 (bnPha z.d) k) wr)) (fun _ i _ => z.s.hosts.length - (intOf i).toNat)
      case atStart => exact ⟨0, Nat.zero_le _, rfl, HK1, Lib.hid (by rw [bk1_zero, List.append_nil]; exact OW1.out)⟩
      case round =>
        obtain ⟨k, hk, rfl, HKwr, OWwr⟩ := hrel
        have hki : ((k : Nat) : Int).toNat = k := by omega
        by_cases hlt : k < z.s.hosts.length
        · obtain ⟨x, hx⟩ : ∃ x, z.d.hosts[k]? = some x := ⟨_, List.getElem?_eq_getElem (by have := HSM.out; omega)⟩
          have hki2 : (k : Int) < (z.s.hosts.length : Int) := by omega
          have hki3 : (k : Int) < (z.d.hosts.length : Int) := by have := HSM.out; omega
          obtain ⟨m, hm⟩ : ∃ m, l1 ++ bk1 2 (bnPha z.d) k = m := ⟨_, rfl⟩
          have HSU := Lib.hid (show l1 ++ bk1 2 (bnPha z.d) (k + 1) = addL m ((bnPha z.d) k) ⟨2, (k : Int), 0⟩ by rw [bk1_succ, ← List.append_assoc, hm]; rfl)
          have HML := Lib.hid (show m.length ≤ 10000 by
            rw [← hm, List.length_append]
            have h1 := bk1_len 2 (bnPha z.d) k
            omega)
          rw [hm] at OWwr
          clear hm
          obtain ⟨pb, po, e6, hpb, x0⟩ := ho_at (HZ.out W HKW.out) hx
          have xcell : ∀ X, Below W.heap.size W X → X.cell? ⟨pb, po + k * 2, none⟩ = some (.int .u8 (x.phase : Int)) := fun X hX => (hX.cell (p := ⟨pb, po + k * 2, none⟩) hpb).trans x0
          obtain ⟨u, hu⟩ : ∃ u, usedD z.ss z.d.reps (k : Int) = u := ⟨_, rfl⟩
          have HU := Lib.hid hu
          have HPI := Lib.hid (pha_is HOK.out hlt hx hu)
          clear hu hx x0
          have HC := Lib.hid (fun (X : World) (hX : Below W.heap.size W X) => (by
            obtain ⟨f0, f1, f2, f3, f4, f5, f6, g0, g1, g2⟩ := HF.out X hX
            rw [e6] at g1
            exact ⟨f0, f1, f2, f3, f4, f5, f6, g0, g1, g2, xcell X hX⟩ : X.cell? ⟨B, 0, none⟩ = some (.slice z.p.a1 z.s.feeds.length z.p.c1) ∧ X.cell? ⟨B, 1, none⟩ = some (.slice z.p.a2 z.s.brks.length z.p.c2) ∧ X.cell? ⟨B, 2, none⟩ = some (.slice z.p.a3 z.s.loops.length z.p.c3) ∧ X.cell? ⟨B, 3, none⟩ = some (.slice z.p.a4 z.s.racks.length z.p.c4) ∧ X.cell? ⟨B, 4, none⟩ = some (.int .i64 z.s.sw) ∧ X.cell? ⟨B, 5, none⟩ = some (.slice z.p.a5 z.s.links.length z.p.c5) ∧ X.cell? ⟨B, 6, none⟩ = some (.slice z.p.a6 z.s.hosts.length z.p.c6) ∧ X.cell? ⟨B + 1, 0, none⟩ = some (.slice z.A z.xs.length z.c) ∧ X.cell? ⟨B + 1 + 1, 0, none⟩ = some (.slice (some ⟨pb, po, none⟩) z.d.hosts.length z.q.c1) ∧ X.cell? ⟨B + 1 + 1, 1, none⟩ = some (.slice z.q.a2 z.d.reps.length z.q.c2) ∧ X.cell? ⟨pb, po + k * 2, none⟩ = some (.int .u8 (x.phase : Int))))
          have HCX := Lib.hid (fun (X : World) (hX : Below W.heap.size W X) => c_wrUsedTo z (k : Int) u HU.out X (HZ.out X hX))
          rw [e6] at HCX
          clear e6 xcell
          obtain ⟨f0, f1, f2, f3, f4, f5, f6, g0, g1, g2, c0⟩ := HC.out wr HKwr.out
          go_wp2_with (fail)
          clear f0 f1 f2 f3 f4 f5 f6 g0 g1 g2 c0
          go_at_call 60
          refine (HCX.out wr HKwr.out).mono ?_
          rintro e v1 ⟨rfl, bb⟩
          have HKv1 := Lib.hid (below_join HKwr.out bb HKwr.out.size)
          have OWv1 := Lib.hid (OWwr.out.on bb (Nat.le_refl _))
          clear bb
          obtain ⟨f0, f1, f2, f3, f4, f5, f6, g0, g1, g2, c0⟩ := HC.out v1 HKv1.out
          rcases g9 : decide (0 < u) with _ | _
          · have HSK := Lib.hid (show l1 ++ bk1 2 (bnPha z.d) (k + 1) = addL m false ⟨2, (k : Int), 0⟩ by rw [HSU.out, HPI.out, g9]; rfl)
            go_wp2_with (fail)
            clear f0 f1 f2 f3 f4 f5 f6 g0 g1 g2 c0
            go_at_call 59
            refine (c_add W.heap.size _ m false 2 2 rfl (k : Int) 0 HML.out v1 OWv1.out).mono ?_
            rintro e v2 ⟨vv, rfl, ow, bb0, fr⟩
            have HKv2 := Lib.hid (HKv1.out.trans bb0)
            have OWv2 := Lib.hid ow
            clear ow bb0 fr
            go_wp2_with (fail)
            go_roundw
            case rel => exact ⟨k + 1, by omega, by go_num, HKv2, Lib.hid (by rw [HSK.out]; exact OWv2.out)⟩
            case measure => simp only [intOf]; omega
          · obtain ⟨is, his⟩ : ∃ b, decide (2 ≤ (x.phase : Int)) = b := ⟨_, rfl⟩
            have HSK := Lib.hid (show l1 ++ bk1 2 (bnPha z.d) (k + 1) = addL m is ⟨2, (k : Int), 0⟩ by rw [HSU.out, HPI.out, g9, his]; rfl)
            go_wp2_with (fail)
            clear f0 f1 f2 f3 f4 f5 f6 g0 g1 g2 c0
            go_at_call 59
            refine (c_add W.heap.size _ m is 2 2 rfl (k : Int) 0 HML.out v1 OWv1.out).mono ?_
            rintro e v2 ⟨vv, rfl, ow, bb0, fr⟩
            have HKv2 := Lib.hid (HKv1.out.trans bb0)
            have OWv2 := Lib.hid ow
            clear ow bb0 fr
            go_wp2_with (fail)
            go_roundw
            case rel => exact ⟨k + 1, by omega, by go_num, HKv2, Lib.hid (by rw [HSK.out]; exact OWv2.out)⟩
            case measure => simp only [intOf]; omega
        · obtain rfl : k = z.s.hosts.length := by omega
          obtain ⟨l2, hl2⟩ : ∃ l, l1 ++ bk1 2 (bnPha z.d) z.s.hosts.length = l := ⟨_, rfl⟩
          have HL2 := Lib.hid hl2
          have hnl2 : l2.length ≤ l1.length + 800 := by
            rw [← hl2, List.length_append]
            have h1 := bk1_len 2 (bnPha z.d) (z.s.hosts.length)
            omega
          rw [hl2] at OWwr
          clear hl2
          obtain ⟨W91, hW9⟩ : ∃ W9, wr = W9 := ⟨_, rfl⟩
          rw [hW9] at HKwr OWwr
          rw [hW9]
          have HK2 := HKwr
          have OW2 := OWwr
          clear hW9 HKwr OWwr
          obtain ⟨f0, f1, f2, f3, f4, f5, f6, g0, g1, g2⟩ := HF.out W91 HK2.out
          go_wp2_with (fail)
          go_ret
          exact ⟨_, rfl, ⟨own_mono (by have h := OW2.out.row; rw [← HL2.out, ← HL1.out, ← HL0.out] at h; exact h) hle, Nat.le_trans OW2.out.le (Nat.le_refl _) |> fun h => Nat.le_trans hle h⟩, below_join HB.out HK2.out hle⟩

set_option maxHeartbeats 64000000 in
theorem c_irLoads (z : Sn) (ok : z.Ok) (w : World) (hz : SnAt w z) :
    Calls Tryz.prog 32 #[.agg #[.slice z.p.a1 z.s.feeds.length z.p.c1, .slice z.p.a2 z.s.brks.length z.p.c2, .slice z.p.a3 z.s.loops.length z.p.c3, .slice z.p.a4 z.s.racks.length z.p.c4, .int .i64 z.s.sw, .slice z.p.a5 z.s.links.length z.p.c5, .slice z.p.a6 z.s.hosts.length z.p.c6], .agg #[.slice z.A z.xs.length z.c], .agg #[.slice z.q.a1 z.d.hosts.length z.q.c1, .slice z.q.a2 z.d.reps.length z.q.c2]] w fun e w' => ∃ v, e = .returned v ∧ Ow w.heap.size v ((bnK z.s z.ss z.d 8 ++ bnK z.s z.ss z.d 9) ++ bnK z.s z.ss z.d 10) w' ∧ Below w.heap.size w w' := by
  have hn16 := few_hosts ok
  have hn8 := few_svcs ok
  have hnb := few_brks ok
  have hnf := few_feeds ok
  have hnl := few_loops ok
  have hrp := few_reps ok
  have hsm := hosts_same ok
  have HSM := Lib.hid hsm
  have HOK := Lib.hid ok
  clear hsm ok
  obtain ⟨W1, h1⟩ : ∃ W, W = w.alloc (.cells #[.slice z.p.a1 z.s.feeds.length z.p.c1, .slice z.p.a2 z.s.brks.length z.p.c2, .slice z.p.a3 z.s.loops.length z.p.c3, .slice z.p.a4 z.s.racks.length z.p.c4, .int .i64 z.s.sw, .slice z.p.a5 z.s.links.length z.p.c5, .slice z.p.a6 z.s.hosts.length z.p.c6] 29) := ⟨_, rfl⟩
  obtain ⟨W2, h2⟩ : ∃ W, W = W1.alloc (.cells #[.slice z.A z.xs.length z.c] 32) := ⟨_, rfl⟩
  obtain ⟨W, h3⟩ : ∃ W, W = W2.alloc (.cells #[.slice z.q.a1 z.d.hosts.length z.q.c1, .slice z.q.a2 z.d.reps.length z.q.c2] 36) := ⟨_, rfl⟩
  obtain ⟨B0, X1⟩ := sn_boxes h1 h2 h3
  have z3 : W.heap.size = w.heap.size + 1 + 1 + 1 := sn_size h1 h2 h3
  have HB := Lib.hid B0
  have Z0 := hz.on B0 (Nat.le_refl _)
  have HZ := Lib.hid (fun (X : World) (hX : Below W.heap.size W X) => Z0.on hX (Nat.le_refl _))
  have HF := Lib.hid (fun (X : World) (hX : Below W.heap.size W X) => ((X1.on hX (Nat.le_refl _)).cells : X.cell? ⟨w.heap.size, 0, none⟩ = some (.slice z.p.a1 z.s.feeds.length z.p.c1) ∧ X.cell? ⟨w.heap.size, 1, none⟩ = some (.slice z.p.a2 z.s.brks.length z.p.c2) ∧ X.cell? ⟨w.heap.size, 2, none⟩ = some (.slice z.p.a3 z.s.loops.length z.p.c3) ∧ X.cell? ⟨w.heap.size, 3, none⟩ = some (.slice z.p.a4 z.s.racks.length z.p.c4) ∧ X.cell? ⟨w.heap.size, 4, none⟩ = some (.int .i64 z.s.sw) ∧ X.cell? ⟨w.heap.size, 5, none⟩ = some (.slice z.p.a5 z.s.links.length z.p.c5) ∧ X.cell? ⟨w.heap.size, 6, none⟩ = some (.slice z.p.a6 z.s.hosts.length z.p.c6) ∧ X.cell? ⟨w.heap.size + 1, 0, none⟩ = some (.slice z.A z.xs.length z.c) ∧ X.cell? ⟨w.heap.size + 1 + 1, 0, none⟩ = some (.slice z.q.a1 z.d.hosts.length z.q.c1) ∧ X.cell? ⟨w.heap.size + 1 + 1, 1, none⟩ = some (.slice z.q.a2 z.d.reps.length z.q.c2)))
  have HX := Lib.hid (fun (X : World) (hX : Below W.heap.size W X) => X1.on hX (Nat.le_refl _))
  have HKW := Lib.hid (Below.refl W.heap.size W)
  have hle := HB.out.size
  obtain ⟨n1, n2, n3, n4, n5, n6, n7, n8⟩ := hz.bounds
  clear hz B0 X1 z3 Z0
  obtain ⟨f0, f1, f2, f3, f4, f5, f6, g0, g1, g2⟩ := HF.out W HKW.out
  rw [h3, h2, h1] at f0 f1 f2 f3 f4 f5 f6 g0 g1 g2
  generalize hBB : w.heap.size = B at *
  go_enter Tryz.func32, Tryz.ntmps32
  go_wp2_with (fail)
  rw [← h1, ← h2, ← h3]
  clear h1 h2 h3 f0 f1 f2 f3 f4 f5 f6 g0 g1 g2
  have hl0 : ∃ l0 : List Bn, [] = l0 := ⟨_, rfl⟩
  obtain ⟨l0, hl0⟩ := hl0
  have HL0 := Lib.hid hl0
  have hnl0 : l0.length = 0 := by rw [← hl0]; rfl
  have OW0 := Lib.hid (show Ow W.heap.size (.slice none 0 0) l0 W from by rw [← hl0]; exact ⟨World.ownsRow_nil _ _ _ _, Nat.le_refl _⟩)
  clear hl0
  go_loopw [7, 8] (fun v i wr => ∃ k : Nat, k ≤ z.s.brks.length ∧ i = .int .i64 (k : Int) ∧ Hid (Below W.heap.size W wr) ∧ Hid (Ow W.heap.size v (l0 ++ bk1 8 (bnBrk z.s z.ss z.d) k) wr)) (fun _ i _ => z.s.brks.length - (intOf i).toNat)
  case atStart => exact ⟨0, Nat.zero_le _, rfl, HKW, Lib.hid (by rw [bk1_zero, List.append_nil]; exact OW0.out)⟩
  case round =>
    obtain ⟨k, hk, rfl, HKwr, OWwr⟩ := hrel
    have hki : ((k : Nat) : Int).toNat = k := by omega
    by_cases hlt : k < z.s.brks.length
    · obtain ⟨x, hx⟩ : ∃ x, z.s.brks[k]? = some x := ⟨_, List.getElem?_eq_getElem (by have := HSM.out; omega)⟩
      have hki2 : (k : Int) < (z.s.brks.length : Int) := by omega
      obtain ⟨m, hm⟩ : ∃ m, l0 ++ bk1 8 (bnBrk z.s z.ss z.d) k = m := ⟨_, rfl⟩
      have HSU := Lib.hid (show l0 ++ bk1 8 (bnBrk z.s z.ss z.d) (k + 1) = addL m ((bnBrk z.s z.ss z.d) k) ⟨8, (k : Int), 0⟩ by rw [bk1_succ, ← List.append_assoc, hm]; rfl)
      have HML := Lib.hid (show m.length ≤ 10000 by
        rw [← hm, List.length_append]
        have h1 := bk1_len 8 (bnBrk z.s z.ss z.d) k
        omega)
      rw [hm] at OWwr
      clear hm
      obtain ⟨pb, po, e6, hpb, x0, x1, x2, x3⟩ := bk_at (HZ.out W HKW.out) hx
      have xcell : ∀ X, Below W.heap.size W X → X.cell? ⟨pb, po + k * 4 + 1, none⟩ = some (.int .i64 x.limit) := fun X hX => (hX.cell (p := ⟨pb, po + k * 4 + 1, none⟩) hpb).trans x1
      obtain ⟨u, hu⟩ : ∃ u, loadN z.s z.ss z.d (isBrk z.s (k : Int)) = u := ⟨_, rfl⟩
      have HU := Lib.hid hu
      have HX1 := Lib.hid hx
      have HCX := Lib.hid (fun (X : World) (hX : Below W.heap.size W X) => d_OfBreaker z true ⟨fun _ => HOK.out, fun _ => rfl⟩ (k : Int) X (HZ.out X hX) u HU.out)
      rw [e6] at HCX
      clear hu hx x0 x1 x2 x3
      have HC := Lib.hid (fun (X : World) (hX : Below W.heap.size W X) => (by
        obtain ⟨f0, f1, f2, f3, f4, f5, f6, g0, g1, g2⟩ := HF.out X hX
        rw [e6] at f1
        exact ⟨f0, f1, f2, f3, f4, f5, f6, g0, g1, g2, xcell X hX⟩ : X.cell? ⟨B, 0, none⟩ = some (.slice z.p.a1 z.s.feeds.length z.p.c1) ∧ X.cell? ⟨B, 1, none⟩ = some (.slice (some ⟨pb, po, none⟩) z.s.brks.length z.p.c2) ∧ X.cell? ⟨B, 2, none⟩ = some (.slice z.p.a3 z.s.loops.length z.p.c3) ∧ X.cell? ⟨B, 3, none⟩ = some (.slice z.p.a4 z.s.racks.length z.p.c4) ∧ X.cell? ⟨B, 4, none⟩ = some (.int .i64 z.s.sw) ∧ X.cell? ⟨B, 5, none⟩ = some (.slice z.p.a5 z.s.links.length z.p.c5) ∧ X.cell? ⟨B, 6, none⟩ = some (.slice z.p.a6 z.s.hosts.length z.p.c6) ∧ X.cell? ⟨B + 1, 0, none⟩ = some (.slice z.A z.xs.length z.c) ∧ X.cell? ⟨B + 1 + 1, 0, none⟩ = some (.slice z.q.a1 z.d.hosts.length z.q.c1) ∧ X.cell? ⟨B + 1 + 1, 1, none⟩ = some (.slice z.q.a2 z.d.reps.length z.q.c2) ∧ X.cell? ⟨pb, po + k * 4 + 1, none⟩ = some (.int .i64 x.limit)))
      obtain ⟨is, his⟩ : ∃ b, decide (x.limit < u) = b := ⟨_, rfl⟩
      have HSK := Lib.hid (show l0 ++ bk1 8 (bnBrk z.s z.ss z.d) (k + 1) = addL m is ⟨8, (k : Int), 0⟩ by rw [HSU.out, show (bnBrk z.s z.ss z.d) k = is from (by unfold bnBrk; rw [HX1.out, HU.out]; exact his)])
      obtain ⟨f0, f1, f2, f3, f4, f5, f6, g0, g1, g2, c0⟩ := HC.out wr HKwr.out
      clear e6 xcell
      go_wp2_with (fail)
      clear f0 f1 f2 f3 f4 f5 f6 g0 g1 g2 c0
      go_region_held3 (fun X => X.cell? ⟨B, 0, none⟩ = some (.slice z.p.a1 z.s.feeds.length z.p.c1) ∧ X.cell? ⟨B, 1, none⟩ = some (.slice (some ⟨pb, po, none⟩) z.s.brks.length z.p.c2) ∧ X.cell? ⟨B, 2, none⟩ = some (.slice z.p.a3 z.s.loops.length z.p.c3) ∧ X.cell? ⟨B, 3, none⟩ = some (.slice z.p.a4 z.s.racks.length z.p.c4) ∧ X.cell? ⟨B, 4, none⟩ = some (.int .i64 z.s.sw) ∧ X.cell? ⟨B, 5, none⟩ = some (.slice z.p.a5 z.s.links.length z.p.c5) ∧ X.cell? ⟨B, 6, none⟩ = some (.slice z.p.a6 z.s.hosts.length z.p.c6) ∧ X.cell? ⟨B + 1, 0, none⟩ = some (.slice z.A z.xs.length z.c) ∧ X.cell? ⟨B + 1 + 1, 0, none⟩ = some (.slice z.q.a1 z.d.hosts.length z.q.c1) ∧ X.cell? ⟨B + 1 + 1, 1, none⟩ = some (.slice z.q.a2 z.d.reps.length z.q.c2) ∧ X.cell? ⟨pb, po + k * 4 + 1, none⟩ = some (.int .i64 x.limit))
        (first | exact HC.out v202 HKv202.out | exact HC.out v201 HKv201.out | exact HC.out wr HKwr.out | fail)
        (first
          | (go_at_call 67; (with_reducible refine (HCX.out wr.drew HKwr.out.drew).mono ?_); rintro e v201 ⟨rfl, bb0⟩; have bb := below_join (Below.refl wr.heap.size wr).drew bb0 (Nat.le_refl _); have HKv201 := Lib.hid (below_join HKwr.out bb HKwr.out.size); have OWv201 := Lib.hid (OWwr.out.on bb (Nat.le_refl _)); clear bb bb0)
          | (go_at_call 59; (with_reducible refine (c_add W.heap.size _ m is 8 8 rfl (k : Int) (0) HML.out v201 OWv201.out).mono ?_); rintro e v202 ⟨vv, rfl, ow, bb0, fr⟩; have HKv202 := Lib.hid (HKv201.out.trans bb0); have OWv202 := Lib.hid ow; clear bb0 ow fr)
          | fail)
      go_wp2_with (fail)
      go_roundw
      case rel => exact ⟨k + 1, by omega, by go_num, HKv202, Lib.hid (by rw [HSK.out]; exact OWv202.out)⟩
      case measure => simp only [intOf]; omega
    · obtain rfl : k = z.s.brks.length := by omega
      obtain ⟨l1, hl1⟩ : ∃ l, l0 ++ bk1 8 (bnBrk z.s z.ss z.d) z.s.brks.length = l := ⟨_, rfl⟩
      have HL1 := Lib.hid hl1
      have hnl1 : l1.length ≤ l0.length + 800 := by
        rw [← hl1, List.length_append]
        have h1 := bk1_len 8 (bnBrk z.s z.ss z.d) (z.s.brks.length)
        omega
      rw [hl1] at OWwr
      clear hl1
      obtain ⟨W90, hW9⟩ : ∃ W9, wr = W9 := ⟨_, rfl⟩
      rw [hW9] at HKwr OWwr
      rw [hW9]
      have HK1 := HKwr
      have OW1 := OWwr
      clear hW9 HKwr OWwr
      obtain ⟨f0, f1, f2, f3, f4, f5, f6, g0, g1, g2⟩ := HF.out W90 HK1.out
      go_wp2_with (fail)
      clear f0 f1 f2 f3 f4 f5 f6 g0 g1 g2
      go_loopw [7, 9] (fun v i wr => ∃ k : Nat, k ≤ z.s.feeds.length ∧ i = .int .i64 (k : Int) ∧ Hid (Below W.heap.size W wr) ∧ Hid (Ow W.heap.size v (l1 ++ bk1 9 (bnFed z.s z.ss z.d) k) wr)) (fun _ i _ => z.s.feeds.length - (intOf i).toNat)
      case atStart => exact ⟨0, Nat.zero_le _, rfl, HK1, Lib.hid (by rw [bk1_zero, List.append_nil]; exact OW1.out)⟩
      case round =>
        obtain ⟨k, hk, rfl, HKwr, OWwr⟩ := hrel
        have hki : ((k : Nat) : Int).toNat = k := by omega
        by_cases hlt : k < z.s.feeds.length
        · obtain ⟨x, hx⟩ : ∃ x, z.s.feeds[k]? = some x := ⟨_, List.getElem?_eq_getElem (by have := HSM.out; omega)⟩
          have hki2 : (k : Int) < (z.s.feeds.length : Int) := by omega
          obtain ⟨m, hm⟩ : ∃ m, l1 ++ bk1 9 (bnFed z.s z.ss z.d) k = m := ⟨_, rfl⟩
          have HSU := Lib.hid (show l1 ++ bk1 9 (bnFed z.s z.ss z.d) (k + 1) = addL m ((bnFed z.s z.ss z.d) k) ⟨9, (k : Int), 0⟩ by rw [bk1_succ, ← List.append_assoc, hm]; rfl)
          have HML := Lib.hid (show m.length ≤ 10000 by
            rw [← hm, List.length_append]
            have h1 := bk1_len 9 (bnFed z.s z.ss z.d) k
            omega)
          rw [hm] at OWwr
          clear hm
          obtain ⟨pb, po, e6, hpb, x0⟩ := fd_at (HZ.out W HKW.out) hx
          have xcell : ∀ X, Below W.heap.size W X → X.cell? ⟨pb, po + k, none⟩ = some (.int .i64 x) := fun X hX => (hX.cell (p := ⟨pb, po + k, none⟩) hpb).trans x0
          obtain ⟨u, hu⟩ : ∃ u, loadN z.s z.ss z.d (isFeed z.s (k : Int)) = u := ⟨_, rfl⟩
          have HU := Lib.hid hu
          have HX1 := Lib.hid hx
          have HCX := Lib.hid (fun (X : World) (hX : Below W.heap.size W X) => d_OfFeed z true ⟨fun _ => HOK.out, fun _ => rfl⟩ (k : Int) X (HZ.out X hX) u HU.out)
          rw [e6] at HCX
          clear hu hx x0
          have HC := Lib.hid (fun (X : World) (hX : Below W.heap.size W X) => (by
            obtain ⟨f0, f1, f2, f3, f4, f5, f6, g0, g1, g2⟩ := HF.out X hX
            rw [e6] at f0
            exact ⟨f0, f1, f2, f3, f4, f5, f6, g0, g1, g2, xcell X hX⟩ : X.cell? ⟨B, 0, none⟩ = some (.slice (some ⟨pb, po, none⟩) z.s.feeds.length z.p.c1) ∧ X.cell? ⟨B, 1, none⟩ = some (.slice z.p.a2 z.s.brks.length z.p.c2) ∧ X.cell? ⟨B, 2, none⟩ = some (.slice z.p.a3 z.s.loops.length z.p.c3) ∧ X.cell? ⟨B, 3, none⟩ = some (.slice z.p.a4 z.s.racks.length z.p.c4) ∧ X.cell? ⟨B, 4, none⟩ = some (.int .i64 z.s.sw) ∧ X.cell? ⟨B, 5, none⟩ = some (.slice z.p.a5 z.s.links.length z.p.c5) ∧ X.cell? ⟨B, 6, none⟩ = some (.slice z.p.a6 z.s.hosts.length z.p.c6) ∧ X.cell? ⟨B + 1, 0, none⟩ = some (.slice z.A z.xs.length z.c) ∧ X.cell? ⟨B + 1 + 1, 0, none⟩ = some (.slice z.q.a1 z.d.hosts.length z.q.c1) ∧ X.cell? ⟨B + 1 + 1, 1, none⟩ = some (.slice z.q.a2 z.d.reps.length z.q.c2) ∧ X.cell? ⟨pb, po + k, none⟩ = some (.int .i64 x)))
          obtain ⟨is, his⟩ : ∃ b, decide (x < u) = b := ⟨_, rfl⟩
          have HSK := Lib.hid (show l1 ++ bk1 9 (bnFed z.s z.ss z.d) (k + 1) = addL m is ⟨9, (k : Int), 0⟩ by rw [HSU.out, show (bnFed z.s z.ss z.d) k = is from (by unfold bnFed; rw [HX1.out, HU.out]; exact his)])
          obtain ⟨f0, f1, f2, f3, f4, f5, f6, g0, g1, g2, c0⟩ := HC.out wr HKwr.out
          clear e6 xcell
          go_wp2_with (fail)
          clear f0 f1 f2 f3 f4 f5 f6 g0 g1 g2 c0
          go_region_held3 (fun X => X.cell? ⟨B, 0, none⟩ = some (.slice (some ⟨pb, po, none⟩) z.s.feeds.length z.p.c1) ∧ X.cell? ⟨B, 1, none⟩ = some (.slice z.p.a2 z.s.brks.length z.p.c2) ∧ X.cell? ⟨B, 2, none⟩ = some (.slice z.p.a3 z.s.loops.length z.p.c3) ∧ X.cell? ⟨B, 3, none⟩ = some (.slice z.p.a4 z.s.racks.length z.p.c4) ∧ X.cell? ⟨B, 4, none⟩ = some (.int .i64 z.s.sw) ∧ X.cell? ⟨B, 5, none⟩ = some (.slice z.p.a5 z.s.links.length z.p.c5) ∧ X.cell? ⟨B, 6, none⟩ = some (.slice z.p.a6 z.s.hosts.length z.p.c6) ∧ X.cell? ⟨B + 1, 0, none⟩ = some (.slice z.A z.xs.length z.c) ∧ X.cell? ⟨B + 1 + 1, 0, none⟩ = some (.slice z.q.a1 z.d.hosts.length z.q.c1) ∧ X.cell? ⟨B + 1 + 1, 1, none⟩ = some (.slice z.q.a2 z.d.reps.length z.q.c2) ∧ X.cell? ⟨pb, po + k, none⟩ = some (.int .i64 x))
            (first | exact HC.out v222 HKv222.out | exact HC.out v221 HKv221.out | exact HC.out wr HKwr.out | fail)
            (first
              | (go_at_call 68; (with_reducible refine (HCX.out wr.drew HKwr.out.drew).mono ?_); rintro e v221 ⟨rfl, bb0⟩; have bb := below_join (Below.refl wr.heap.size wr).drew bb0 (Nat.le_refl _); have HKv221 := Lib.hid (below_join HKwr.out bb HKwr.out.size); have OWv221 := Lib.hid (OWwr.out.on bb (Nat.le_refl _)); clear bb bb0)
              | (go_at_call 59; (with_reducible refine (c_add W.heap.size _ m is 9 9 rfl (k : Int) (0) HML.out v221 OWv221.out).mono ?_); rintro e v222 ⟨vv, rfl, ow, bb0, fr⟩; have HKv222 := Lib.hid (HKv221.out.trans bb0); have OWv222 := Lib.hid ow; clear bb0 ow fr)
              | fail)
          go_wp2_with (fail)
          go_roundw
          case rel => exact ⟨k + 1, by omega, by go_num, HKv222, Lib.hid (by rw [HSK.out]; exact OWv222.out)⟩
          case measure => simp only [intOf]; omega
        · obtain rfl : k = z.s.feeds.length := by omega
          obtain ⟨l2, hl2⟩ : ∃ l, l1 ++ bk1 9 (bnFed z.s z.ss z.d) z.s.feeds.length = l := ⟨_, rfl⟩
          have HL2 := Lib.hid hl2
          have hnl2 : l2.length ≤ l1.length + 800 := by
            rw [← hl2, List.length_append]
            have h1 := bk1_len 9 (bnFed z.s z.ss z.d) (z.s.feeds.length)
            omega
          rw [hl2] at OWwr
          clear hl2
          obtain ⟨W91, hW9⟩ : ∃ W9, wr = W9 := ⟨_, rfl⟩
          rw [hW9] at HKwr OWwr
          rw [hW9]
          have HK2 := HKwr
          have OW2 := OWwr
          clear hW9 HKwr OWwr
          obtain ⟨f0, f1, f2, f3, f4, f5, f6, g0, g1, g2⟩ := HF.out W91 HK2.out
          go_wp2_with (fail)
          clear f0 f1 f2 f3 f4 f5 f6 g0 g1 g2
          go_loopw [7, 10] (fun v i wr => ∃ k : Nat, k ≤ z.s.loops.length ∧ i = .int .i64 (k : Int) ∧ Hid (Below W.heap.size W wr) ∧ Hid (Ow W.heap.size v (l2 ++ bk1 10 (bnLop z.s z.ss z.d) k) wr)) (fun _ i _ => z.s.loops.length - (intOf i).toNat)
          case atStart => exact ⟨0, Nat.zero_le _, rfl, HK2, Lib.hid (by rw [bk1_zero, List.append_nil]; exact OW2.out)⟩
          case round =>
            obtain ⟨k, hk, rfl, HKwr, OWwr⟩ := hrel
            have hki : ((k : Nat) : Int).toNat = k := by omega
            by_cases hlt : k < z.s.loops.length
            · obtain ⟨x, hx⟩ : ∃ x, z.s.loops[k]? = some x := ⟨_, List.getElem?_eq_getElem (by have := HSM.out; omega)⟩
              have hki2 : (k : Int) < (z.s.loops.length : Int) := by omega
              obtain ⟨m, hm⟩ : ∃ m, l2 ++ bk1 10 (bnLop z.s z.ss z.d) k = m := ⟨_, rfl⟩
              have HSU := Lib.hid (show l2 ++ bk1 10 (bnLop z.s z.ss z.d) (k + 1) = addL m ((bnLop z.s z.ss z.d) k) ⟨10, (k : Int), 0⟩ by rw [bk1_succ, ← List.append_assoc, hm]; rfl)
              have HML := Lib.hid (show m.length ≤ 10000 by
                rw [← hm, List.length_append]
                have h1 := bk1_len 10 (bnLop z.s z.ss z.d) k
                omega)
              rw [hm] at OWwr
              clear hm
              obtain ⟨pb, po, e6, hpb, x0, x1⟩ := lp_at' (HZ.out W HKW.out) hx
              have xcell : ∀ X, Below W.heap.size W X → X.cell? ⟨pb, po + k * 2, none⟩ = some (.int .i64 x.carry) := fun X hX => (hX.cell (p := ⟨pb, po + k * 2, none⟩) hpb).trans x0
              obtain ⟨u, hu⟩ : ∃ u, loadN z.s z.ss z.d (isLoop z.s (k : Int)) = u := ⟨_, rfl⟩
              have HU := Lib.hid hu
              have HX1 := Lib.hid hx
              have HCX := Lib.hid (fun (X : World) (hX : Below W.heap.size W X) => d_crHeat z true ⟨fun _ => HOK.out, fun _ => rfl⟩ (k : Int) X (HZ.out X hX) u (show heatV z true (k : Int) = u from HU.out))
              rw [e6] at HCX
              clear hu hx x0 x1
              have HC := Lib.hid (fun (X : World) (hX : Below W.heap.size W X) => (by
                obtain ⟨f0, f1, f2, f3, f4, f5, f6, g0, g1, g2⟩ := HF.out X hX
                rw [e6] at f2
                exact ⟨f0, f1, f2, f3, f4, f5, f6, g0, g1, g2, xcell X hX⟩ : X.cell? ⟨B, 0, none⟩ = some (.slice z.p.a1 z.s.feeds.length z.p.c1) ∧ X.cell? ⟨B, 1, none⟩ = some (.slice z.p.a2 z.s.brks.length z.p.c2) ∧ X.cell? ⟨B, 2, none⟩ = some (.slice (some ⟨pb, po, none⟩) z.s.loops.length z.p.c3) ∧ X.cell? ⟨B, 3, none⟩ = some (.slice z.p.a4 z.s.racks.length z.p.c4) ∧ X.cell? ⟨B, 4, none⟩ = some (.int .i64 z.s.sw) ∧ X.cell? ⟨B, 5, none⟩ = some (.slice z.p.a5 z.s.links.length z.p.c5) ∧ X.cell? ⟨B, 6, none⟩ = some (.slice z.p.a6 z.s.hosts.length z.p.c6) ∧ X.cell? ⟨B + 1, 0, none⟩ = some (.slice z.A z.xs.length z.c) ∧ X.cell? ⟨B + 1 + 1, 0, none⟩ = some (.slice z.q.a1 z.d.hosts.length z.q.c1) ∧ X.cell? ⟨B + 1 + 1, 1, none⟩ = some (.slice z.q.a2 z.d.reps.length z.q.c2) ∧ X.cell? ⟨pb, po + k * 2, none⟩ = some (.int .i64 x.carry)))
              obtain ⟨is, his⟩ : ∃ b, decide (x.carry < u) = b := ⟨_, rfl⟩
              have HSK := Lib.hid (show l2 ++ bk1 10 (bnLop z.s z.ss z.d) (k + 1) = addL m is ⟨10, (k : Int), 0⟩ by rw [HSU.out, show (bnLop z.s z.ss z.d) k = is from (by unfold bnLop; rw [HX1.out, HU.out]; exact his)])
              obtain ⟨f0, f1, f2, f3, f4, f5, f6, g0, g1, g2, c0⟩ := HC.out wr HKwr.out
              clear e6 xcell
              go_wp2_with (fail)
              clear f0 f1 f2 f3 f4 f5 f6 g0 g1 g2 c0
              go_region_held3 (fun X => X.cell? ⟨B, 0, none⟩ = some (.slice z.p.a1 z.s.feeds.length z.p.c1) ∧ X.cell? ⟨B, 1, none⟩ = some (.slice z.p.a2 z.s.brks.length z.p.c2) ∧ X.cell? ⟨B, 2, none⟩ = some (.slice (some ⟨pb, po, none⟩) z.s.loops.length z.p.c3) ∧ X.cell? ⟨B, 3, none⟩ = some (.slice z.p.a4 z.s.racks.length z.p.c4) ∧ X.cell? ⟨B, 4, none⟩ = some (.int .i64 z.s.sw) ∧ X.cell? ⟨B, 5, none⟩ = some (.slice z.p.a5 z.s.links.length z.p.c5) ∧ X.cell? ⟨B, 6, none⟩ = some (.slice z.p.a6 z.s.hosts.length z.p.c6) ∧ X.cell? ⟨B + 1, 0, none⟩ = some (.slice z.A z.xs.length z.c) ∧ X.cell? ⟨B + 1 + 1, 0, none⟩ = some (.slice z.q.a1 z.d.hosts.length z.q.c1) ∧ X.cell? ⟨B + 1 + 1, 1, none⟩ = some (.slice z.q.a2 z.d.reps.length z.q.c2) ∧ X.cell? ⟨pb, po + k * 2, none⟩ = some (.int .i64 x.carry))
                (first | exact HC.out v242 HKv242.out | exact HC.out v241 HKv241.out | exact HC.out wr HKwr.out | fail)
                (first
                  | (go_at_call 69; (with_reducible refine (HCX.out wr.drew HKwr.out.drew).mono ?_); rintro e v241 ⟨rfl, bb0⟩; have bb := below_join (Below.refl wr.heap.size wr).drew bb0 (Nat.le_refl _); have HKv241 := Lib.hid (below_join HKwr.out bb HKwr.out.size); have OWv241 := Lib.hid (OWwr.out.on bb (Nat.le_refl _)); clear bb bb0)
                  | (go_at_call 59; (with_reducible refine (c_add W.heap.size _ m is 10 10 rfl (k : Int) (0) HML.out v241 OWv241.out).mono ?_); rintro e v242 ⟨vv, rfl, ow, bb0, fr⟩; have HKv242 := Lib.hid (HKv241.out.trans bb0); have OWv242 := Lib.hid ow; clear bb0 ow fr)
                  | fail)
              go_wp2_with (fail)
              go_roundw
              case rel => exact ⟨k + 1, by omega, by go_num, HKv242, Lib.hid (by rw [HSK.out]; exact OWv242.out)⟩
              case measure => simp only [intOf]; omega
            · obtain rfl : k = z.s.loops.length := by omega
              obtain ⟨l3, hl3⟩ : ∃ l, l2 ++ bk1 10 (bnLop z.s z.ss z.d) z.s.loops.length = l := ⟨_, rfl⟩
              have HL3 := Lib.hid hl3
              have hnl3 : l3.length ≤ l2.length + 800 := by
                rw [← hl3, List.length_append]
                have h1 := bk1_len 10 (bnLop z.s z.ss z.d) (z.s.loops.length)
                omega
              rw [hl3] at OWwr
              clear hl3
              obtain ⟨W92, hW9⟩ : ∃ W9, wr = W9 := ⟨_, rfl⟩
              rw [hW9] at HKwr OWwr
              rw [hW9]
              have HK3 := HKwr
              have OW3 := OWwr
              clear hW9 HKwr OWwr
              obtain ⟨f0, f1, f2, f3, f4, f5, f6, g0, g1, g2⟩ := HF.out W92 HK3.out
              go_wp2_with (fail)
              go_ret
              exact ⟨_, rfl, ⟨own_mono (by have h := OW3.out.row; rw [← HL3.out, ← HL2.out, ← HL1.out, ← HL0.out] at h; exact h) hle, Nat.le_trans OW3.out.le (Nat.le_refl _) |> fun h => Nat.le_trans hle h⟩, below_join HB.out HK3.out hle⟩

end Go.Proofs.YtbbadnlaelgmlaaGreat
