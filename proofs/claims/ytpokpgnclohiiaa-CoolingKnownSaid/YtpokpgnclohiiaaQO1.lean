/-
  DERIVED. Several texts in one.
-/
import Derived.Test.YtpokpgnclohiiaaQB4
import Derived.Test.YtpokpgnclohiiaaQV61
import Derived.Test.YtpokpgnclohiiaaQB3
import Derived.Test.YtpokpgnclohiiaaQV51
import Derived.Test.YtpokpgnclohiiaaQV63
import Derived.Laws.AppendOwn
import Derived.Test.YtpokpgnclohiiaaQB2
set_option linter.unusedVariables false
set_option linter.unusedSimpArgs false

namespace Go.Proofs.Ytpokpgnclohiiaa
set_option linter.unusedVariables false
set_option linter.unusedSimpArgs false
set_option maxRecDepth 100000

def isLoop (s : SiteD) (k : Int) (h : Nat) : Bool := (rkAt s h).loop == k
theorem sumN_filter (b : Nat → Bool) (f : Nat → Int) (n : Nat) : sumN (fun h => if b h = true then f h else 0) n = (((List.range n).filter b).map f).sum := by
  induction n with
  | zero => rfl
  | succ n ih =>
    rw [sumN, ih, List.range_succ, List.filter_append, List.map_append, List.sum_append]
    rcases h : b n with _ | _
    · simp [List.filter_cons, h]
    · simp [List.filter_cons, h]
theorem loop_in {s : SiteD} {ss : List Svc} {d : WorldD} (ok : WorldOk s ss d) {h : Nat} (hh : h < s.hosts.length) : 0 ≤ (rkAt s h).loop ∧ (rkAt s h).loop < s.loops.length :=
  ((siteOk_iff.1 ok.1).racks _ (List.mem_of_getElem? (rk_in ok hh))).2.2.1
/-- The heat of a loop is the sum of the watts of its hosts. -/
theorem heat_mem {s : SiteD} {ss : List Svc} {d : WorldD} (ok : WorldOk s ss d) (k : Int) : ((memD s 5 k).map (fun x => loadN s ss d (isHost x))).sum = loadN s ss d (isLoop s k) := by
  have hc : cntD s 5 = s.loops.length := by unfold cntD; rw [if_pos ok.1]; rfl
  unfold memD
  rw [hc]
  unfold loadN
  rw [sumN_filter (isLoop s k)]
  split
  · rw [List.map_map]
    congr 1
    refine List.map_congr_left fun h hh => ?_
    have hh := List.mem_range.1 (List.mem_filter.1 hh).1
    show sumN (fun i => if isHost (h : Int) i = true then watN s ss d i else 0) s.hosts.length = _
    have e := load_host (s := s) (ss := ss) (d := d) (h : Int)
    unfold loadN at e
    rw [e, if_pos (by omega), Int.toNat_natCast]
  · rename_i hn
    rw [List.filter_eq_nil_iff.2 (fun h hh => by
      have hh := List.mem_range.1 hh
      have := loop_in ok hh
      unfold isLoop
      intro he
      have he := eq_of_beq he
      exact hn (ixB_iff.2 (by omega)))]
    rfl
theorem mem_len (s : SiteD) (d : Nat) (k : Int) : (memD s d k).length ≤ s.hosts.length := by
  unfold memD
  split
  · rw [List.length_map]
    exact Nat.le_trans (List.length_filter_le _ _) (by simp)
  · exact Nat.zero_le _
/-- A loop that is there; its line. -/
def lpOk (s : SiteD) (k : Int) : Bool := siteOk s && ixB k s.loops.length
def lpAt (s : SiteD) (k : Int) : Lp := (s.loops[k.toNat]?).getD ⟨0, 0⟩
def lpC (s : SiteD) (k : Int) : Int := if lpOk s k = true then (lpAt s k).carry else 0
def lpPs (s : SiteD) (k : Int) : List (Int × Int × Int) := if lpOk s k = true then [(0, 1, (lpAt s k).delay)] else []
def lpE (s : SiteD) (k : Int) : Int := if lpOk s k = true then 0 else 1
theorem lpAt_eq {s : SiteD} {k : Int} {x : Lp} (h : s.loops[k.toNat]? = some x) : lpAt s k = x := by unfold lpAt; rw [h]; rfl
theorem lp_in {s : SiteD} {k : Int} (h : lpOk s k = true) : s.loops[k.toNat]? = some (lpAt s k) ∧ (0 ≤ (lpAt s k).carry ∧ (lpAt s k).carry ≤ 1000000) ∧ 0 ≤ (lpAt s k).delay ∧ (lpAt s k).delay ≤ 100 := by
  unfold lpOk at h
  rw [Bool.and_eq_true, ixB_iff] at h
  have hk : k.toNat < s.loops.length := by omega
  have e : s.loops[k.toNat]? = some s.loops[k.toNat] := List.getElem?_eq_getElem hk
  rw [lpAt_eq e]
  exact ⟨e, (siteOk_iff.1 h.1).loops _ (List.getElem_mem hk)⟩
/-- What Course returns. -/
def crs (C : Int) (ps : List (Int × Int × Int)) (s : Int) (ins : List (List Int)) (n : Int) : List Int := s :: v6.lvs C s (v6.amts ps ins n.toNat)
def coE (s : SiteD) (k start : Int) (heats : List Int) (n : Int) : Int := if lpOk s k = true then v6.fltL (lpC s k) (lpPs s k) start [heats] n else 1
def coL (s : SiteD) (k start : Int) (heats : List Int) (n : Int) : List Int := if coE s k start heats n = 0 then crs (lpC s k) (lpPs s k) start [heats] n else []
theorem line_ok {s : SiteD} {k : Int} (h : lpOk s k = true) : v6.lnOk (lpC s k) (lpPs s k) = true := by
  obtain ⟨-, h1, h2⟩ := lp_in h
  unfold lpC lpPs v6.lnOk
  rw [if_pos h, if_pos h]
  simp only [List.length_singleton, List.all_cons, List.all_nil, Bool.and_true, Bool.and_eq_true, decide_eq_true_eq, v6.ptOk_iff]
  omega
theorem crs_len (C : Int) (ps : List (Int × Int × Int)) (s : Int) (ins : List (List Int)) (n : Int) : (crs C ps s ins n).length = n.toNat + 1 := by
  unfold crs
  rw [List.length_cons, v6.lvs_len, v6.amts_len]
theorem crs_get (C : Int) (ps : List (Int × Int × Int)) (s : Int) (ins : List (List Int)) (n : Int) {i : Nat} (h : i ≤ n.toNat) : (crs C ps s ins n)[i]? = some (v6.lvE C s ((v6.amts ps ins n.toNat).take i)) :=
  v6.lvs_get C _ s i (by rw [v6.amts_len]; exact h)
theorem coE_ok {s : SiteD} {k start : Int} {heats : List Int} {n : Int} (h : lpOk s k = true) : coE s k start heats n = 0 ↔ ((heats.length ≤ 1000 ∧ ∀ x ∈ heats, 0 ≤ x ∧ x ≤ 100000000) ∧ (0 ≤ n ∧ n ≤ 1000)) ∧ 0 ≤ start ∧ start ≤ 100000000 := by
  unfold coE v6.fltL
  rw [if_pos h, if_pos (line_ok h)]
  have e : (v6.inOk [heats] && (decide (0 ≤ n) && decide (n ≤ 1000)) && (decide (0 ≤ start) && decide (start ≤ 100000000))) = true ↔ ((heats.length ≤ 1000 ∧ ∀ x ∈ heats, 0 ≤ x ∧ x ≤ 100000000) ∧ (0 ≤ n ∧ n ≤ 1000)) ∧ 0 ≤ start ∧ start ≤ 100000000 := by
    unfold v6.inOk v6.liOk
    simp only [List.length_singleton, List.all_cons, List.all_nil, Bool.and_true, Bool.and_eq_true, decide_eq_true_eq, List.all_eq_true, v6.nmOk_iff]
    constructor
    · rintro ⟨⟨⟨-, h1, h2⟩, h3⟩, h4⟩
      exact ⟨⟨⟨h1, h2⟩, h3⟩, h4⟩
    · rintro ⟨⟨⟨h1, h2⟩, h3⟩, h4⟩
      exact ⟨⟨⟨by omega, h1, h2⟩, h3⟩, h4⟩
  constructor
  · intro h2
    refine e.1 ?_
    by_cases h3 : (v6.inOk [heats] && (decide (0 ≤ n) && decide (n ≤ 1000)) && (decide (0 ≤ start) && decide (start ≤ 100000000))) = true
    · exact h3
    · rw [if_neg h3] at h2; omega
  · intro h2
    rw [if_pos (e.2 h2)]
/-- What After and Longest compute: the course of n times one heat. -/
def hdOk (r0 : Bool) (s : SiteD) (k start n : Int) : Bool := (r0 && (decide (0 ≤ start) && decide (start ≤ 1000000))) && (decide (0 ≤ n) && decide (n ≤ 1000))
def hdE (r0 : Bool) (s : SiteD) (k start n : Int) : Int := if hdOk r0 s k start n = true then lpE s k else 1
def hdL (r0 : Bool) (heat : Int) (s : SiteD) (k start n : Int) : List Int := if hdE r0 s k start n = 0 then crs (lpC s k) (lpPs s k) start [List.replicate n.toNat heat] n else []
def afV (r0 : Bool) (heat : Int) (s : SiteD) (k start n : Int) : Int := ((hdL r0 heat s k start n)[n.toNat]?).getD 0
theorem hdOk_iff {r0 : Bool} {s : SiteD} {k start n : Int} : hdOk r0 s k start n = true ↔ (r0 = true ∧ 0 ≤ start ∧ start ≤ 1000000) ∧ 0 ≤ n ∧ n ≤ 1000 := by
  unfold hdOk
  simp only [Bool.and_eq_true, decide_eq_true_eq]
/-- No error but that of the loop. -/
theorem hd_co {r0 : Bool} {s : SiteD} {k start n heat : Int} (h : hdOk r0 s k start n = true) (hb : 0 ≤ heat ∧ heat ≤ 100000000) : coE s k start (List.replicate n.toNat heat) n = hdE r0 s k start n ∧ coL s k start (List.replicate n.toNat heat) n = hdL r0 heat s k start n := by
  have h1 := hdOk_iff.1 h
  have e : coE s k start (List.replicate n.toNat heat) n = hdE r0 s k start n := by
    unfold hdE
    rw [if_pos h]
    unfold lpE
    split
    · rename_i hl
      rw [coE_ok hl]
      refine ⟨⟨⟨by rw [List.length_replicate]; omega, fun x hx => ?_⟩, by omega⟩, by omega⟩
      rw [(List.mem_replicate.1 hx).2]
      exact hb
    · rename_i hl
      unfold coE; rw [if_neg hl]
  refine ⟨e, ?_⟩
  unfold coL hdL
  rw [e]
theorem hdE_cases (r0 : Bool) (s : SiteD) (k start n : Int) : hdE r0 s k start n = 0 ∨ hdE r0 s k start n = 1 := by
  unfold hdE lpE
  split
  · split
    · exact .inl rfl
    · exact .inr rfl
  · exact .inr rfl
theorem hdE_zero {r0 : Bool} {s : SiteD} {k start n : Int} : hdE r0 s k start n = 0 ↔ hdOk r0 s k start n = true ∧ lpOk s k = true := by
  unfold hdE lpE
  constructor
  · intro h
    split at h
    · rename_i h1
      split at h
      · rename_i h2; exact ⟨h1, h2⟩
      · omega
    · omega
  · rintro ⟨h1, h2⟩
    rw [if_pos h1, if_pos h2]
theorem hdL_len {r0 : Bool} {heat : Int} {s : SiteD} {k start n : Int} (h : hdE r0 s k start n = 0) : (hdL r0 heat s k start n).length = n.toNat + 1 := by
  unfold hdL
  rw [if_pos h, crs_len]
/-- The last tick at which the level is not above a limit. -/
def lastN (lim : Int) (l : List Int) : Int := if 0 ≤ v6.frs lim l then v6.frs lim l - 1 else 1000
def lonOk (lim : Int) : Bool := decide (0 ≤ lim) && decide (lim ≤ 1000000)
def lonE (r0 : Bool) (s : SiteD) (k start lim : Int) : Int := if lonOk lim = true then hdE r0 s k start 1000 else 1
def lonV (r0 : Bool) (heat : Int) (s : SiteD) (k start lim : Int) : Int := if lonE r0 s k start lim = 0 then lastN lim (hdL r0 heat s k start 1000) else 0
theorem frs_lt {lim : Int} {l : List Int} : v6.frs lim l < l.length := by
  unfold v6.frs
  split
  · omega
  · rename_i i h
    have := (List.findIdx?_eq_some_iff_findIdx_eq.1 h).1
    omega
theorem frs_ge {lim : Int} {l : List Int} : -1 ≤ v6.frs lim l := by
  unfold v6.frs
  split <;> omega
/-- Where the reference's search ends. -/
theorem last_found {lim : Int} {l : List Int} {m : Nat} (hl : l.length = 1001) (hb : ∀ (j : Nat) (y : Int), j < m → l[j]? = some y → y ≤ lim) (hm : m ≤ 1001) (he : m = 1001 ∨ ∃ y, l[m]? = some y ∧ lim < y) : lastN lim l = (m : Int) - 1 := by
  unfold lastN
  rcases he with he | ⟨y, hy, hlt⟩
  · rw [v6.frs_none.2 (fun x hx => by
      obtain ⟨j, hj⟩ := List.mem_iff_getElem?.1 hx
      have := (List.getElem?_eq_some_iff.1 hj).1
      exact hb j x (by omega) hj), if_neg (by omega)]
    omega
  · rw [v6.frs_at hy hlt hb, if_pos (by omega)]
end Go.Proofs.Ytpokpgnclohiiaa

namespace Go.Proofs.Ytpokpgnclohiiaa
open Go.RowKit
set_option maxRecDepth 100000
set_option linter.unusedVariables false
set_option linter.unusedSimpArgs false

def wtV (z : Sn) (r0 : Bool) (x : Int) : Int := pwV z r0 (isHost x)
def heatV (z : Sn) (r0 : Bool) (k : Int) : Int := pwV z r0 (isLoop z.s k)
def hotS (z : Sn) (r0 : Bool) (k : Int) (j : Nat) : Int := (((memD z.s 5 k).take j).map (wtV z r0)).sum
theorem wtV_bd {z : Sn} {r0 : Bool} (hr0 : r0 = true ↔ z.Ok) (x : Int) : 0 ≤ wtV z r0 x ∧ wtV z r0 x ≤ 24160000 := by
  unfold wtV pwV
  cases r0
  · simp
  · rw [if_pos rfl]; exact load_bd (hr0.1 rfl) _
theorem heatV_bd {z : Sn} {r0 : Bool} (hr0 : r0 = true ↔ z.Ok) (k : Int) : 0 ≤ heatV z r0 k ∧ heatV z r0 k ≤ 24160000 := by
  unfold heatV pwV
  cases r0
  · simp
  · rw [if_pos rfl]; exact load_bd (hr0.1 rfl) _
theorem hot_step {z : Sn} {r0 : Bool} {k x : Int} {j : Nat} (h : (memD z.s 5 k)[j]? = some x) : hotS z r0 k (j + 1) = hotS z r0 k j + wtV z r0 x := by
  unfold hotS
  rw [List.take_add_one, h]
  simp
theorem hot_false {z : Sn} {k : Int} (j : Nat) : hotS z false k j = 0 := by
  unfold hotS
  induction ((memD z.s 5 k).take j) with
  | nil => rfl
  | cons a l ih => rw [List.map_cons, List.sum_cons, ih]; rfl
theorem hot_is {z : Sn} {r0 : Bool} (hr0 : r0 = true ↔ z.Ok) (k : Int) : hotS z r0 k (memD z.s 5 k).length = heatV z r0 k := by
  cases r0
  · rw [hot_false]; rfl
  · unfold hotS
    rw [List.take_length]
    exact heat_mem (hr0.1 rfl) k
theorem sum_le16 {f : Int → Int} (hf : ∀ x, 0 ≤ f x ∧ f x ≤ 24160000) : ∀ l : List Int, 0 ≤ (l.map f).sum ∧ (l.map f).sum ≤ 24160000 * (l.length : Int) := by
  intro l
  induction l with
  | nil => simp
  | cons a l ih =>
    have := hf a
    rw [List.map_cons, List.sum_cons, List.length_cons]
    omega
theorem hot_bd {z : Sn} {r0 : Bool} (hr0 : r0 = true ↔ z.Ok) (k : Int) (j : Nat) : 0 ≤ hotS z r0 k j ∧ hotS z r0 k j ≤ 400000000 := by
  cases r0
  · rw [hot_false]; omega
  · have h := sum_le16 (wtV_bd hr0) ((memD z.s 5 k).take j)
    have h1 := mem_len z.s 5 k
    have h2 := (siteOk_iff.1 (hr0.1 rfl).1).nhosts
    have h3 : ((memD z.s 5 k).take j).length ≤ (memD z.s 5 k).length := by rw [List.length_take]; omega
    unfold hotS
    omega
theorem SnBx.but {w w' : World} {z : Sn} {b g : Nat} (h : SnBx w b z) (k : v6.But g w w') (h0 : b ≠ g) (h1 : b + 1 ≠ g) (h2 : b + 1 + 1 ≠ g) : SnBx w' b z := ⟨k.same _ _ h0 h.b1, k.same _ _ h1 h.b2, k.same _ _ h2 h.b3⟩
set_option maxHeartbeats 8000000 in
theorem c_heat1 (z : Sn) (r0 : Bool) (hr0 : r0 = true ↔ z.Ok) (g b : Nat) (x S : Int) (w : World) (hz : SnAt w z) (hx : SnBx w b z) (hg : w.heap[g]? = some (.cells #[.int .i64 S] 3 (0, 0))) (v : Int) (hv : pwV z r0 (isHost x) = v) (S2 : Int) (hS2 : IntKind.i64.wrap (S + v) = S2) :
    Calls Try.prog 20 #[.int .i64 x, .pointer (some ⟨g, 0, none⟩), .pointer (some ⟨b, 0, none⟩), .pointer (some ⟨b + 1, 0, none⟩), .pointer (some ⟨b + 1 + 1, 0, none⟩)] w fun e w' => e = .returned (.tuple #[]) ∧ v6.But g w w' ∧ w'.heap[g]? = some (.cells #[.int .i64 S2] 3 (0, 0)) := by
  have HC := Lib.hid (fun (X : World) (hX : SnAt X z) => c_pwWatts z r0 hr0 x X hX v hv)
  have HSS := Lib.hid (fun (X : World) (h : Below w.heap.size w X) => (by
    obtain ⟨f0, f1, f2, f3, f4, f5, f6, g0, g1, g2⟩ := (hx.on h (Nat.le_refl _)).cells
    exact ⟨f0, f1, f2, f3, f4, f5, f6, g0, g1, g2, cell_of (box_on hg h (Nat.le_refl _)) rfl⟩ : (fun (X : World) => X.cell? ⟨b, 0, none⟩ = some (.slice z.p.a1 z.s.feeds.length z.p.c1) ∧ X.cell? ⟨b, 1, none⟩ = some (.slice z.p.a2 z.s.brks.length z.p.c2) ∧ X.cell? ⟨b, 2, none⟩ = some (.slice z.p.a3 z.s.loops.length z.p.c3) ∧ X.cell? ⟨b, 3, none⟩ = some (.slice z.p.a4 z.s.racks.length z.p.c4) ∧ X.cell? ⟨b, 4, none⟩ = some (.int .i64 z.s.sw) ∧ X.cell? ⟨b, 5, none⟩ = some (.slice z.p.a5 z.s.links.length z.p.c5) ∧ X.cell? ⟨b, 6, none⟩ = some (.slice z.p.a6 z.s.hosts.length z.p.c6) ∧ X.cell? ⟨b + 1, 0, none⟩ = some (.slice z.A z.xs.length z.c) ∧ X.cell? ⟨b + 1 + 1, 0, none⟩ = some (.slice z.q.a1 z.d.hosts.length z.q.c1) ∧ X.cell? ⟨b + 1 + 1, 1, none⟩ = some (.slice z.q.a2 z.d.reps.length z.q.c2) ∧ X.cell? ⟨g, 0, none⟩ = some (.int .i64 S)) X))
  have HZ := Lib.hid (fun (X : World) (h : Below w.heap.size w X) => hz.on h (Nat.le_refl _))
  have HG := Lib.hid (fun (X : World) (h : Below w.heap.size w X) => box_on hg h (Nat.le_refl _))
  have HS2 := Lib.hid hS2
  have HKw := Lib.hid (Below.refl w.heap.size w)
  have hfm : Try.prog.follows Departure.mixedOrders = true := by kernel_rfl
  obtain ⟨n1, n2, n3, n4, n5, n6, n7, n8⟩ := hz.bounds
  clear hz hx hg hS2 hv hr0
  go_enter Try.func20, Try.ntmps20
  go_wp2_with (fail)
  refine v5.region_z 7 hfm (S := fun (X : World) => X.cell? ⟨b, 0, none⟩ = some (.slice z.p.a1 z.s.feeds.length z.p.c1) ∧ X.cell? ⟨b, 1, none⟩ = some (.slice z.p.a2 z.s.brks.length z.p.c2) ∧ X.cell? ⟨b, 2, none⟩ = some (.slice z.p.a3 z.s.loops.length z.p.c3) ∧ X.cell? ⟨b, 3, none⟩ = some (.slice z.p.a4 z.s.racks.length z.p.c4) ∧ X.cell? ⟨b, 4, none⟩ = some (.int .i64 z.s.sw) ∧ X.cell? ⟨b, 5, none⟩ = some (.slice z.p.a5 z.s.links.length z.p.c5) ∧ X.cell? ⟨b, 6, none⟩ = some (.slice z.p.a6 z.s.hosts.length z.p.c6) ∧ X.cell? ⟨b + 1, 0, none⟩ = some (.slice z.A z.xs.length z.c) ∧ X.cell? ⟨b + 1 + 1, 0, none⟩ = some (.slice z.q.a1 z.d.hosts.length z.q.c1) ∧ X.cell? ⟨b + 1 + 1, 1, none⟩ = some (.slice z.q.a2 z.d.reps.length z.q.c2) ∧ X.cell? ⟨g, 0, none⟩ = some (.int .i64 S)) (HSS.out w.drew HKw.out.drew) (fun hHeld => ?_)
  refine v5.takeZ 0 (some 6) (by kernel_rfl) rfl rfl (by kernel_rfl) (by kernel_rfl) (by kernel_rfl) (fun _ _ _ h => h) (by rfl) (by intro w ⟨g0, g1, g2, g3, g4, g5, g6, g7, g8, g9, g10⟩; go_simp; try with_reducible rfl) hHeld ?_
  simp only [Act.put, List.setIfInBounds_toArray, List.set_cons_zero, List.set_cons_succ]
  refine v5.takeZ 1 (some 7) (by kernel_rfl) rfl rfl (by kernel_rfl) (by kernel_rfl) (by kernel_rfl) (fun _ _ _ h => h) (by rfl) (by intro w ⟨g0, g1, g2, g3, g4, g5, g6, g7, g8, g9, g10⟩; go_simp; try with_reducible rfl) hHeld ?_
  simp only [Act.put, List.setIfInBounds_toArray, List.set_cons_zero, List.set_cons_succ]
  refine v5.takeZ 2 (some 8) (by kernel_rfl) rfl rfl (by kernel_rfl) (by kernel_rfl) (by kernel_rfl) (fun _ _ _ h => h) (by rfl) (by intro w ⟨g0, g1, g2, g3, g4, g5, g6, g7, g8, g9, g10⟩; go_simp; try with_reducible rfl) hHeld ?_
  simp only [Act.put, List.setIfInBounds_toArray, List.set_cons_zero, List.set_cons_succ]
  refine v5.takeZ 3 (some 9) (by kernel_rfl) rfl rfl (by kernel_rfl) (by kernel_rfl) (by kernel_rfl) (fun _ _ _ h => h) (by rfl) (by intro w ⟨g0, g1, g2, g3, g4, g5, g6, g7, g8, g9, g10⟩; go_simp; try with_reducible rfl) hHeld ?_
  simp only [Act.put, List.setIfInBounds_toArray, List.set_cons_zero, List.set_cons_succ]
  refine v5.takeZ 4 (some 10) (by kernel_rfl) rfl rfl (by kernel_rfl) (by kernel_rfl) (by kernel_rfl) (fun _ _ _ h => h) (by rfl) (by intro w ⟨g0, g1, g2, g3, g4, g5, g6, g7, g8, g9, g10⟩; go_simp; try with_reducible rfl) hHeld ?_
  simp only [Act.put, List.setIfInBounds_toArray, List.set_cons_zero, List.set_cons_succ]
  refine v5.oneZ 5 rfl (by kernel_rfl) (fun K hK => ?_)
  go_simp
  go_at_call 21
  refine (HC.out w.drew (HZ.out w.drew HKw.out.drew)).mono ?_
  rintro e v2 ⟨rfl, bb0⟩
  have bb := below_join (Below.refl w.heap.size w).drew bb0 (Nat.le_refl _)
  have HK2 := Lib.hid bb
  clear hHeld bb bb0
  have hHeld := HSS.out v2 HK2.out
  refine hK.out _ _ (.inr hHeld) ?_
  clear hK K
  try simp only [Act.put, List.setIfInBounds_toArray, List.set_cons_zero, List.set_cons_succ]
  refine v5.takeZ 6 (some 12) (by kernel_rfl) rfl rfl (by kernel_rfl) (by kernel_rfl) (by kernel_rfl) (fun _ _ _ h => h) (by rfl) (by intro w ⟨g0, g1, g2, g3, g4, g5, g6, g7, g8, g9, g10⟩; go_simp; try with_reducible rfl) hHeld ?_
  simp only [Act.put, List.setIfInBounds_toArray, List.set_cons_zero, List.set_cons_succ]
  rw [HS2.out]
  have fg : v2.cell? ⟨g, 0, none⟩ = some (.int .i64 S) := cell_of (HG.out v2 HK2.out) rfl
  have fz : v2.frozen? ⟨g, 0, none⟩ = false := frz (HG.out v2 HK2.out) 0
  clear hHeld
  refine v5.oneZ 7 rfl (by kernel_rfl) (fun K hK => ?_)
  go_simp
  refine hK.out _ _ (.inl rfl) ?_
  clear hK K
  refine v5.doneZ (by kernel_rfl) ?_ _
  go_wp2_with (fail)
  go_end0
  exact ⟨rfl, (v6.But.of_below HK2.out (Nat.le_refl _)).trans (v6.But.store _ _), set_field (HG.out v2 HK2.out) _⟩
end Go.Proofs.Ytpokpgnclohiiaa

namespace Go.Proofs.Ytpokpgnclohiiaa
open Go.RowKit
set_option maxRecDepth 100000
set_option linter.unusedVariables false
set_option linter.unusedSimpArgs false

theorem own_rwT {w : World} {base : Nat} {v : Value} {l : List Int} (h : w.ownsRow base 3 1 v l.length (ints l)) : ∃ A c, v = .slice A l.length c ∧ l.length ≤ c ∧ c ≤ maxLen ∧ ∀ X : World, (∀ (k : Nat) (o : Obj), base ≤ k → w.heap[k]? = some o → X.heap[k]? = some o) → Rw 1 inF X A c l := by
  obtain ⟨A, c, hv, hr⟩ := own_rw h
  refine ⟨A, c, hv, hr.1, hr.2.1, fun X hX => ?_⟩
  have h2 : X.ownsRow base 3 1 v l.length (ints l) := by
    obtain ⟨k1, ⟨e, e2⟩ | ⟨g, cap, cur, e, k3, k4, k⟩⟩ := h
    · exact ⟨k1, .inl ⟨e, e2⟩⟩
    · exact ⟨k1, .inr ⟨g, cap, cur, e, k3, hX _ _ k3 k4, k⟩⟩
  obtain ⟨A2, c2, hv2, hr2⟩ := own_rw h2
  rw [hv] at hv2
  injection hv2 with e1 _ e2
  subst e1 e2
  exact hr2
set_option maxHeartbeats 8000000 in
theorem c_coHeat (z : Sn) (r0 : Bool) (hr0 : r0 = true ↔ z.Ok) (k : Int) (w : World) (hz : SnAt w z) (v : Int) (hv : heatV z r0 k = v) :
    Calls Try.prog 13 #[.agg #[.slice z.p.a1 z.s.feeds.length z.p.c1, .slice z.p.a2 z.s.brks.length z.p.c2, .slice z.p.a3 z.s.loops.length z.p.c3, .slice z.p.a4 z.s.racks.length z.p.c4, .int .i64 z.s.sw, .slice z.p.a5 z.s.links.length z.p.c5, .slice z.p.a6 z.s.hosts.length z.p.c6], .agg #[.slice z.A z.xs.length z.c], .agg #[.slice z.q.a1 z.d.hosts.length z.q.c1, .slice z.q.a2 z.d.reps.length z.q.c2], .int .i64 k] w fun e w' => e = .returned (.int .i64 v) ∧ Below w.heap.size w w' := by
  obtain ⟨W1, h1⟩ : ∃ W, W = w.alloc (.cells #[.slice z.p.a1 z.s.feeds.length z.p.c1, .slice z.p.a2 z.s.brks.length z.p.c2, .slice z.p.a3 z.s.loops.length z.p.c3, .slice z.p.a4 z.s.racks.length z.p.c4, .int .i64 z.s.sw, .slice z.p.a5 z.s.links.length z.p.c5, .slice z.p.a6 z.s.hosts.length z.p.c6] 29) := ⟨_, rfl⟩
  obtain ⟨W2, h2⟩ : ∃ W, W = W1.alloc (.cells #[.slice z.A z.xs.length z.c] 34) := ⟨_, rfl⟩
  obtain ⟨W3, h3⟩ : ∃ W, W = W2.alloc (.cells #[.slice z.q.a1 z.d.hosts.length z.q.c1, .slice z.q.a2 z.d.reps.length z.q.c2] 38) := ⟨_, rfl⟩
  obtain ⟨B0, X1⟩ := sn_boxes h1 h2 h3
  have z3 : W3.heap.size = w.heap.size + 1 + 1 + 1 := sn_size h1 h2 h3
  obtain ⟨W, h4⟩ : ∃ W, W = W3.alloc (.cells #[.int .i64 0] 3) := ⟨_, rfl⟩
  have B1 : Below w.heap.size w W := by rw [h4]; exact B0.alloc B0.size _
  have M0 : W.heap[w.heap.size + 1 + 1 + 1]? = some (.cells #[.int .i64 0] 3 (0, 0)) := by rw [h4, ← z3]; exact box_new _ _ _
  have z4 : W.heap.size = w.heap.size + 1 + 1 + 1 + 1 := by rw [h4, World.size_alloc, z3]
  have X2 : SnBx W w.heap.size z := by rw [h4]; exact X1.alloc _
  have HB := Lib.hid B1
  have Z0 := hz.on B1 (Nat.le_refl _)
  have HZ := Lib.hid (fun (X : World) (hX : Below W.heap.size W X) => Z0.on hX (Nat.le_refl _))
  have HF := Lib.hid (fun (X : World) (hX : Below W.heap.size W X) => ((X2.on hX (Nat.le_refl _)).cells : X.cell? ⟨w.heap.size, 0, none⟩ = some (.slice z.p.a1 z.s.feeds.length z.p.c1) ∧ X.cell? ⟨w.heap.size, 1, none⟩ = some (.slice z.p.a2 z.s.brks.length z.p.c2) ∧ X.cell? ⟨w.heap.size, 2, none⟩ = some (.slice z.p.a3 z.s.loops.length z.p.c3) ∧ X.cell? ⟨w.heap.size, 3, none⟩ = some (.slice z.p.a4 z.s.racks.length z.p.c4) ∧ X.cell? ⟨w.heap.size, 4, none⟩ = some (.int .i64 z.s.sw) ∧ X.cell? ⟨w.heap.size, 5, none⟩ = some (.slice z.p.a5 z.s.links.length z.p.c5) ∧ X.cell? ⟨w.heap.size, 6, none⟩ = some (.slice z.p.a6 z.s.hosts.length z.p.c6) ∧ X.cell? ⟨w.heap.size + 1, 0, none⟩ = some (.slice z.A z.xs.length z.c) ∧ X.cell? ⟨w.heap.size + 1 + 1, 0, none⟩ = some (.slice z.q.a1 z.d.hosts.length z.q.c1) ∧ X.cell? ⟨w.heap.size + 1 + 1, 1, none⟩ = some (.slice z.q.a2 z.d.reps.length z.q.c2)))
  have HX := Lib.hid (fun (X : World) (hX : Below W.heap.size W X) => X2.on hX (Nat.le_refl _))
  have HM0 := Lib.hid (fun (X : World) (hX : Below W.heap.size W X) => (box_on M0 hX (Nat.le_refl _) : X.heap[w.heap.size + 1 + 1 + 1]? = some (.cells #[.int .i64 0] 3 (0, 0))))
  have HKW := Lib.hid (Below.refl W.heap.size W)
  have hle := HB.out.size
  obtain ⟨n1, n2, n3, n4, n5, n6, n7, n8⟩ := hz.bounds
  have HC1 := Lib.hid (fun (g b : Nat) (x S : Int) (X : World) (h1 : SnAt X z) (h2 : SnBx X b z) (h3 : X.heap[g]? = some (.cells #[.int .i64 S] 3 (0, 0))) (v : Int) (hv : pwV z r0 (isHost x) = v) (S2 : Int) (hS2 : IntKind.i64.wrap (S + v) = S2) => c_heat1 z r0 hr0 g b x S X h1 h2 h3 v hv S2 hS2)
  have HCM := Lib.hid (fun (X : World) (h : SnAt X z) => c_Members z.p z.s 5 (by decide) k X h.si)
  unfold siV at HCM
  have HBD := Lib.hid (fun j => hot_bd hr0 k j)
  have HEND := Lib.hid (hot_is hr0 k)
  have HVV := Lib.hid hv
  have HX0 := Lib.hid X2
  have HM00 := Lib.hid M0
  have HZW := Lib.hid (fun (X : World) (h : Below w.heap.size w X) => hz.on h (Nat.le_refl _))
  have HZ4 := Lib.hid z4
  clear hr0 hv
  clear hz B0 X1 z3 Z0 B1 M0 z4 X2
  obtain ⟨f0, f1, f2, f3, f4, f5, f6, g0, g1, g2⟩ := HF.out W HKW.out
  have m00 := cell_of (HM0.out W HKW.out) (o := 0) rfl
  rw [h4, h3, h2, h1] at f0 f1 f2 f3 f4 f5 f6 g0 g1 g2 m00
  generalize hBB : w.heap.size = B at *
  go_enter Try.func13, Try.ntmps13
  go_wp2_with (fail)
  rw [← h1, ← h2, ← h3, ← h4]
  clear h1 h2 h3 h4 f0 f1 f2 f3 f4 f5 f6 g0 g1 g2 m00
  go_at_call 22
  refine (HCM.out W (HZ.out W HKW.out)).mono ?_
  rintro e v1 ⟨vv, rfl, ho, bb⟩
  obtain ⟨A, c, rfl, hlc, hcm, HRW0⟩ := own_rwT ho
  have HRW := Lib.hid HRW0
  obtain ⟨l, hl⟩ : ∃ l, memD z.s 5 k = l := ⟨_, rfl⟩
  have HL := Lib.hid hl
  have hll : l.length ≤ z.s.hosts.length := by rw [← hl]; exact mem_len _ _ _
  have HKv1 := Lib.hid (below_join HKW.out bb HKW.out.size)
  have HSTEP := Lib.hid (fun (j : Nat) (x : Int) (hj : l[j]? = some x) => hot_step (z := z) (r0 := r0) (k := k) (j := j) (x := x) (by rw [hl]; exact hj))
  have HE2 := Lib.hid (show hotS z r0 k l.length = v by rw [← hl, HEND.out, HVV.out])
  have HS0 := Lib.hid (show hotS z r0 k 0 = 0 from rfl)
  rw [hl] at HRW hlc ⊢
  have HG0 := Lib.hid (show v1.heap[B + 1 + 1 + 1]? = some (.cells #[.int .i64 (hotS z r0 k 0)] 3 (0, 0)) from HM0.out v1 HKv1.out)
  have hBz := HZ4.out
  have HBx := Lib.hid (HX.out v1 HKv1.out)
  have HWv := Lib.hid (below_join HB.out HKv1.out hle)
  have HFR := Lib.hid (fun (X : World) (h : v6.But (B + 1 + 1 + 1) v1 X) => (⟨by rw [← hBB]; exact h.below (by rw [hBB]; exact HWv.out) (by omega), HBx.out.but h (by omega) (by omega) (by omega), HRW.out X (fun k o hk ho => h.same k o (by omega) ho)⟩ : Below B w X ∧ SnBx X B z ∧ Rw 1 inF X A c l))
  obtain ⟨g, hg⟩ : ∃ g, B + 1 + 1 + 1 = g := ⟨_, rfl⟩
  rw [hg] at HG0 HFR ⊢
  clear ho bb HRW0 hl hg
  go_wp2_with (fail)
  go_loopw [18] (fun i wr => ∃ j : Nat, j ≤ l.length ∧ i = .int .i64 (j : Int) ∧ Hid (v6.But g v1 wr) ∧ Hid (wr.heap[g]? = some (.cells #[.int .i64 (hotS z r0 k j)] 3 (0, 0)))) (fun i _ => l.length - (intOf i).toNat)
  case atStart => exact ⟨0, Nat.zero_le _, rfl, Lib.hid (v6.But.refl _), HG0⟩
  case round =>
    obtain ⟨j, hj, rfl, HBT, HGR⟩ := hrel
    have hji : ((j : Nat) : Int).toNat = j := by omega
    obtain ⟨S, hS⟩ : ∃ t, hotS z r0 k j = t := ⟨_, rfl⟩
    have HSS := Lib.hid hS
    have bS := HBD.out j
    rw [hS] at HGR bS
    clear hS
    obtain ⟨bw, bx, brw⟩ := HFR.out wr HBT.out
    have HBW := Lib.hid bw
    have HBX := Lib.hid bx
    by_cases hlt : j < l.length
    · obtain ⟨x, hx⟩ : ∃ x, l[j]? = some x := ⟨_, List.getElem?_eq_getElem hlt⟩
      have HST := Lib.hid (HSTEP.out j x hx)
      obtain ⟨pb, po, e1, hpb, x0⟩ := brw.at_ hx
      have x0 := x0 0 (by omega)
      rw [show po + j * 1 + 0 = po + j by omega] at x0
      subst e1
      have hlt2 : (j : Int) < (l.length : Int) := by omega
      have bS2 := HBD.out (j + 1)
      have x1 : wr.cell? ⟨pb, po + j, none⟩ = some (.int .i64 x) := x0
      clear x0 hx bw bx brw
      go_wp2_with (fail)
      go_at_call 20
      refine (HC1.out g B x S wr (HZW.out wr HBW.out) HBX.out HGR.out (wtV z r0 x) rfl (hotS z r0 k (j + 1)) (by have := HST.out; rw [HSS.out] at this; rw [← this]; exact wrap_in (by omega) (by omega))).mono ?_
      rintro e w2 ⟨rfl, hb2, hg2⟩
      have HB2 := Lib.hid (HBT.out.trans hb2)
      have HG2 := Lib.hid hg2
      clear hb2 hg2
      go_wp2_with (fail)
      go_roundw
      case rel => exact ⟨j + 1, by omega, by go_num, HB2, HG2⟩
      case measure => simp only [intOf]; omega
    · obtain rfl : j = l.length := by omega
      have HVS := Lib.hid (show S = v by rw [← HE2.out, HSS.out])
      have g0 : wr.cell? ⟨g, 0, none⟩ = some (.int .i64 S) := cell_of HGR.out rfl
      clear bw bx brw
      go_wp2_with (fail)
      go_ret
      exact ⟨(show Ending.returned (.int .i64 S) = .returned (.int .i64 v) by rw [HVS.out]), HBW.out⟩
end Go.Proofs.Ytpokpgnclohiiaa

namespace Go.Proofs.Ytpokpgnclohiiaa
open Go.RowKit
set_option maxRecDepth 100000
set_option linter.unusedVariables false
set_option linter.unusedSimpArgs false

theorem lp_at {w : World} {p : SP} {s : SiteD} (h : SiAt w p s) {i : Nat} {x : Lp} (hx : s.loops[i]? = some x) : ∃ b o, p.a3 = some ⟨b, o, none⟩ ∧ b < w.heap.size ∧ w.cell? ⟨b, o + i * 2, none⟩ = some (.int .i64 x.carry) ∧ w.cell? ⟨b, o + i * 2 + 1, none⟩ = some (.int .i64 x.delay) := by
  obtain ⟨b, o, e, hb, hc⟩ := h.loops.at_ hx
  exact ⟨b, o, e, hb, by simpa [lpF] using hc 0 (by omega), hc 1 (by omega)⟩
theorem ret2l {fn : Func} {a : Act} {W : World} {R : Ending → World → Prop} {b i j : Nat} {x0 x1 y : Value} (hfn : fn.results = #[.cell i 53, .tmp j]) (hp : a.tmps[i]?.getD undef = .pointer (some ⟨b, 0, none⟩)) (hj : a.tmps[j]?.getD undef = y) (hd : a.defers = [])
    (h : W.heap[b]? = some (.cells #[x0, x1] 53 (0, 0))) (hR : R (.returned (.tuple #[.agg #[x0, x1], y])) W) : bodyPost Try.prog fn R .ret a W := by
  have c0 : W.cell? ⟨b, 0, none⟩ = some x0 := cell_of h rfl
  have c1 : W.cell? ⟨b, 1, none⟩ = some x1 := cell_of h rfl
  exact bodyPost_ret (v := .tuple #[.agg #[x0, x1], y]) (by simp [results, hfn, hp, hj, go_sem, c0, c1]) hd hR
theorem pt_nil (X : World) : v6.PtSl X (.slice none 0 0) [] := ⟨none, 0, rfl, Nat.le_refl _, Nat.zero_le _, fun h => absurd h (Nat.lt_irrefl _)⟩
theorem pt_of_block {X : World} {n : Nat} {a b c : Int} (h : X.heap[n]? = some (.cells #[.int .i64 a, .int .i64 b, .int .i64 c] 82 (0, 0))) : v6.PtSl X (.slice (some ⟨n, 0, none⟩) 1 1) [(a, b, c)] := by
  refine ⟨_, _, rfl, Nat.le_refl _, by decide, fun _ => ⟨n, 0, rfl, at_lt h, fun j q hj => ?_⟩⟩
  match j, hj with
  | 0, hj =>
    obtain rfl : (a, b, c) = q := by simpa using hj
    exact ⟨cell_of h rfl, cell_of h rfl, cell_of h rfl⟩
set_option maxHeartbeats 8000000 in
theorem c_coLinear (p : SP) (s : SiteD) (k : Int) (w : World) (h : SiAt w p s) :
    Calls Try.prog 14 #[.agg #[.slice p.a1 s.feeds.length p.c1, .slice p.a2 s.brks.length p.c2, .slice p.a3 s.loops.length p.c3, .slice p.a4 s.racks.length p.c4, .int .i64 s.sw, .slice p.a5 s.links.length p.c5, .slice p.a6 s.hosts.length p.c6], .int .i64 k] w fun e w' => ∃ v, e = .returned (.tuple #[.agg #[.int .i64 (lpC s k), v], .int .i64 (lpE s k)]) ∧ v6.PtSl w' v (lpPs s k) ∧ Below w.heap.size w w' := by
  have HCN := Lib.hid (fun (X : World) (hX : SiAt X p s) => c_Count p s 5 (by decide) (cntD s 5) rfl X hX)
  unfold siV at HCN
  obtain ⟨W1, h1⟩ : ∃ W, W = w.alloc (.cells #[.slice p.a1 s.feeds.length p.c1, .slice p.a2 s.brks.length p.c2, .slice p.a3 s.loops.length p.c3, .slice p.a4 s.racks.length p.c4, .int .i64 s.sw, .slice p.a5 s.links.length p.c5, .slice p.a6 s.hosts.length p.c6] 29) := ⟨_, rfl⟩
  obtain ⟨W, h2⟩ : ∃ W, W = W1.alloc (.cells #[.int .i64 0, .slice none 0 0] 53) := ⟨_, rfl⟩
  have B1 : Below w.heap.size w W1 := by rw [h1]; exact (Below.refl _ _).alloc (Nat.le_refl _) _
  have z1 : W1.heap.size = w.heap.size + 1 := by rw [h1, World.size_alloc]
  have B2 : Below w.heap.size w W := by rw [h2]; exact B1.alloc B1.size _
  have X1 : SiBox W w.heap.size p s := by rw [h2]; refine old_heap _ ?_; rw [h1]; exact siBox_new _ _ _
  have M1 : W.heap[w.heap.size + 1]? = some (.cells #[.int .i64 0, .slice none 0 0] 53 (0, 0)) := by rw [h2, ← z1]; exact box_new _ _ _
  have z2 : W.heap.size = w.heap.size + 1 + 1 := by rw [h2, World.size_alloc, z1]
  have HB := Lib.hid B2
  have HZ2 := Lib.hid z2
  have HA := Lib.hid (fun (X : World) (hX : Below W.heap.size W X) => (h.on B2 (Nat.le_refl _)).on hX (Nat.le_refl _))
  have HF := Lib.hid (fun (X : World) (hX : Below W.heap.size W X) => (let z := X1.on hX (Nat.le_refl _); ⟨z.c0, z.c1, z.c2, z.c3, z.c4, z.c5, z.c6⟩ : X.cell? ⟨w.heap.size, 0, none⟩ = some (.slice p.a1 s.feeds.length p.c1) ∧ X.cell? ⟨w.heap.size, 1, none⟩ = some (.slice p.a2 s.brks.length p.c2) ∧ X.cell? ⟨w.heap.size, 2, none⟩ = some (.slice p.a3 s.loops.length p.c3) ∧ X.cell? ⟨w.heap.size, 3, none⟩ = some (.slice p.a4 s.racks.length p.c4) ∧ X.cell? ⟨w.heap.size, 4, none⟩ = some (.int .i64 s.sw) ∧ X.cell? ⟨w.heap.size, 5, none⟩ = some (.slice p.a5 s.links.length p.c5) ∧ X.cell? ⟨w.heap.size, 6, none⟩ = some (.slice p.a6 s.hosts.length p.c6)))
  have HM := Lib.hid (fun (X : World) (hX : Below W.heap.size W X) => (box_on M1 hX (Nat.le_refl _) : X.heap[w.heap.size + 1]? = some (.cells #[.int .i64 0, .slice none 0 0] 53 (0, 0))))
  have HKW := Lib.hid (Below.refl W.heap.size W)
  have hle := HB.out.size
  have n3 := h.loops.1; have n4 := h.loops.2.1
  unfold maxLen at n4
  have hcn : cntD s 5 = if siteOk s = true then (s.loops.length : Int) else 0 := rfl
  clear B1 B2 X1 M1 z1 z2 h
  obtain ⟨f0, f1, f2, f3, f4, f5, f6⟩ := HF.out W HKW.out
  have m0 := cell_of (HM.out W HKW.out) (o := 0) rfl
  have m1 := cell_of (HM.out W HKW.out) (o := 1) rfl
  have y0 := frz (HM.out W HKW.out) 0
  have y1 := frz (HM.out W HKW.out) 1
  rw [h2, h1] at f0 f1 f2 f3 f4 f5 f6 m0 m1 y0 y1
  generalize hBB : w.heap.size = B at *
  rcases hk0 : decide (k < 0) with _ | _
  rotate_left
  · have hk0' := of_decide_eq_true hk0
    have hno : lpOk s k = false := by unfold lpOk; rw [Bool.and_eq_false_iff]; right; unfold ixB; rw [decide_eq_false (by omega)]; rfl
    have HNC := Lib.hid (show lpC s k = 0 by unfold lpC; rw [hno]; rfl)
    have HNP := Lib.hid (show lpPs s k = [] by unfold lpPs; rw [hno]; rfl)
    have HNE := Lib.hid (show lpE s k = 1 by unfold lpE; rw [hno]; rfl)
    clear hno hcn
    go_enter Try.func14, Try.ntmps14
    go_wp2_with (fail)
    rw [← h1, ← h2, HNC.out, HNP.out, HNE.out]
    exact ret2l (i := 4) (j := 5) (b := B + 1) rfl rfl rfl rfl (HM.out W HKW.out) ⟨_, rfl, pt_nil _, HB.out⟩
  have hk0' := of_decide_eq_false hk0
  have hkn : 0 ≤ k := by omega
  obtain ⟨r, hr⟩ : ∃ r, cntD s 5 = r := ⟨_, rfl⟩
  rw [hr] at hcn HCN
  have HCNT := Lib.hid hcn
  clear hr hcn hk0
  go_enter Try.func14, Try.ntmps14
  go_wp2_with (fail)
  rw [← h1, ← h2]
  clear h1 h2 f0 f1 f2 f3 f4 f5 f6 m0 m1 y0 y1
  go_at_call 23
  refine (HCN.out W (HA.out W HKW.out)).mono ?_
  rintro e v1 ⟨rfl, bb⟩
  have HKv1 := Lib.hid (below_join HKW.out bb HKW.out.size)
  clear bb
  have m0 := cell_of (HM.out v1 HKv1.out) (o := 0) rfl
  have m1 := cell_of (HM.out v1 HKv1.out) (o := 1) rfl
  have y0 := frz (HM.out v1 HKv1.out) 0
  have y1 := frz (HM.out v1 HKv1.out) 1
  rcases hk1 : decide (r ≤ k) with _ | _
  rotate_left
  · have hk1' := of_decide_eq_true hk1
    have hno : lpOk s k = false := by
      unfold lpOk
      have := HCNT.out
      rcases hs : siteOk s with _ | _
      · rfl
      · rw [hs, if_pos rfl] at this
        rw [Bool.true_and]; unfold ixB; rw [decide_eq_false (show ¬ k < (s.loops.length : Int) by omega), Bool.and_false]
    have HNC := Lib.hid (show lpC s k = 0 by unfold lpC; rw [hno]; rfl)
    have HNP := Lib.hid (show lpPs s k = [] by unfold lpPs; rw [hno]; rfl)
    have HNE := Lib.hid (show lpE s k = 1 by unfold lpE; rw [hno]; rfl)
    clear hno
    go_wp2_with (fail)
    rw [HNC.out, HNP.out, HNE.out]
    refine ret2l (i := 4) (j := 5) (b := B + 1) rfl rfl rfl rfl (row_store2 (HM.out v1 HKv1.out) _ _) ⟨_, rfl, pt_nil _, ?_⟩
    have hb := below_join HB.out HKv1.out hle
    exact (hb.setCell (p := ⟨B + 1, 0, none⟩) (by show B ≤ B + 1; omega) _).setCell (p := ⟨B + 1, 1, none⟩) (by show B ≤ B + 1; omega) _
  have hk1' := of_decide_eq_false hk1
  have hyes : lpOk s k = true := by
    unfold lpOk
    have := HCNT.out
    rcases hs : siteOk s with _ | _
    · rw [hs, if_neg (by decide)] at this; omega
    · rw [hs, if_pos rfl] at this
      rw [Bool.true_and]; exact ixB_iff.2 (by omega)
  have hlen : k < (s.loops.length : Int) := by
    unfold lpOk at hyes
    rw [Bool.and_eq_true, ixB_iff] at hyes
    exact hyes.2.2
  have hx := (lp_in hyes).1
  obtain ⟨x, hxx⟩ : ∃ x, lpAt s k = x := ⟨_, rfl⟩
  have HNC := Lib.hid (show lpC s k = x.carry by unfold lpC; rw [hyes, hxx]; rfl)
  have HNP := Lib.hid (show lpPs s k = [(0, 1, x.delay)] by unfold lpPs; rw [hyes, hxx]; rfl)
  have HNE := Lib.hid (show lpE s k = 0 by unfold lpE; rw [hyes]; rfl)
  rw [hxx] at hx
  obtain ⟨m, rfl⟩ : ∃ m : Nat, k = m := ⟨k.toNat, by omega⟩
  rw [Int.toNat_natCast] at hx
  have hml : m < s.loops.length := by omega
  obtain ⟨pb, po, e3, hpb, x0, x1⟩ := lp_at (HA.out v1 HKv1.out) hx
  obtain ⟨f0, f1, f2, f3, f4, f5, f6⟩ := HF.out v1 HKv1.out
  rw [e3] at f2
  obtain ⟨V1, g1⟩ : ∃ X, X = v1.alloc (.cells #[.int .i64 x.carry, .int .i64 x.delay] 66) := ⟨_, rfl⟩
  obtain ⟨V2, g2⟩ : ∃ X, X = V1.alloc (.cells #[.int .i64 0, .int .i64 1, .int .i64 x.delay] 82) := ⟨_, rfl⟩
  have zV1 : V1.heap.size = v1.heap.size + 1 := by rw [g1, World.size_alloc]
  have bV1 : Below v1.heap.size v1 V1 := by rw [g1]; exact (Below.refl _ _).alloc (Nat.le_refl _) _
  have bV2 : Below v1.heap.size v1 V2 := by rw [g2]; exact bV1.alloc bV1.size _
  have PT : V2.heap[v1.heap.size + 1]? = some (.cells #[.int .i64 0, .int .i64 1, .int .i64 x.delay] 82 (0, 0)) := by rw [g2, ← zV1]; exact box_new _ _ _
  have HKV := Lib.hid (below_join HKv1.out bV2 HKv1.out.size)
  have HPT := Lib.hid PT
  have hlt2 : B + 1 < v1.heap.size := by have := HKv1.out.size; have := HZ2.out; omega
  have HLT := Lib.hid hlt2
  have q0 := cell_of (HM.out V2 HKV.out) (o := 0) rfl
  have q1 := cell_of (HM.out V2 HKV.out) (o := 1) rfl
  have r0 := frz (HM.out V2 HKV.out) 0
  have r1 := frz (HM.out V2 HKV.out) 1
  rw [g2, g1] at q0 q1 r0 r1
  clear hyes hxx hx m0 m1 y0 y1 zV1 bV1 bV2 PT hlt2
  go_wp2_with (fail)
  rw [HNC.out, HNP.out, HNE.out, ← g1, ← g2]
  refine ret2l (i := 4) (j := 5) (b := B + 1) rfl rfl rfl rfl (row_store2 (HM.out V2 HKV.out) _ _) ⟨_, rfl, ?_, ?_⟩
  · have := HLT.out
    exact pt_of_block (set_else (set_else HPT.out (by omega)) (by omega))
  · have hb := below_join HB.out HKV.out hle
    exact (hb.setCell (p := ⟨B + 1, 0, none⟩) (by show B ≤ B + 1; omega) _).setCell (p := ⟨B + 1, 1, none⟩) (by show B ≤ B + 1; omega) _
end Go.Proofs.Ytpokpgnclohiiaa

namespace Go.Proofs.Ytpokpgnclohiiaa
open Go.RowKit
set_option maxRecDepth 100000
set_option linter.unusedVariables false
set_option linter.unusedSimpArgs false

theorem c_coUpTo (n m : Int) (r : Bool) (hr : (decide (0 ≤ n) && decide (n ≤ m)) = r) (w : World) :
    Calls Try.prog 17 #[.int .i64 n, .int .i64 m] w fun e w' => e = .returned (.bool r) ∧ Below w.heap.size w w' := by
  rcases h1 : decide (0 ≤ n) with _ | _
  · rw [h1] at hr
    have hr2 : r = false := by rw [← hr]; rfl
    have g1 : decide (n < 0) = true := by have := of_decide_eq_false h1; exact decide_eq_true (by omega)
    have g2 : ¬ (0 ≤ n) := of_decide_eq_false h1
    clear h1 hr
    subst hr2
    go_enter Try.func17, Try.ntmps17
    go_wp2_with (fail)
    go_ret
    exact ⟨rfl, Below.refl _ _⟩
  · rw [h1] at hr
    have hr2 : r = decide (n ≤ m) := by rw [← hr]; rfl
    have g2 : 0 ≤ n := of_decide_eq_true h1
    rcases h3 : decide (n ≤ m) with _ | _
    · have g3 := of_decide_eq_false h3
      rw [h3] at hr2
      clear h1 hr
      subst hr2
      go_enter Try.func17, Try.ntmps17
      go_wp2_with (fail)
      go_ret
      exact ⟨rfl, Below.refl _ _⟩
    · have g3 := of_decide_eq_true h3
      rw [h3] at hr2
      clear h1 hr
      subst hr2
      go_enter Try.func17, Try.ntmps17
      go_wp2_with (fail)
      go_ret
      exact ⟨rfl, Below.refl _ _⟩
theorem ints_rep (k : Nat) (x : Int) : ints (List.replicate (k + 1) x) = ints (List.replicate k x) ++ [.int .i64 x] := by
  rw [List.replicate_succ', ints_snoc]
set_option maxHeartbeats 4000000 in
theorem c_abov (g : Nat) (lim x : Int) (w : World) (hg : w.cell? ⟨g, 0, none⟩ = some (.int .i64 lim)) (r : Bool) (hr : decide (lim < x) = r) :
    Calls Try.prog 18 #[.int .i64 x, .pointer (some ⟨g, 0, none⟩)] w fun e w' => e = .returned (.bool r) ∧ Below w.heap.size w w' := by
  subst hr
  go_enter Try.func18, Try.ntmps18
  go_wp2_with (fail)
  go_ret
  exact ⟨rfl, Below.refl _ _⟩
set_option maxHeartbeats 8000000 in
theorem c_IF_ints (g : Nat) (lim : Int) (V : Value) (l : List Int) (w : World) (h : v6.IntSl w V l) (hg : w.cell? ⟨g, 0, none⟩ = some (.int .i64 lim)) (hgb : g < w.heap.size) (y : Int) (hy : v6.frs lim l = y) :
    Calls Try.prog 19 #[V, .func (.func 18) #[] #[.pointer (some ⟨g, 0, none⟩)]] w fun e w' => e = .returned (.int .i64 y) ∧ Below w.heap.size w w' := by
  have H := Lib.hid h
  have HY := Lib.hid hy
  obtain ⟨A, c, rfl, hc1, hc2⟩ := h.shape
  unfold maxLen at hc2
  have HG := Lib.hid (fun (X : World) (hX : Below w.heap.size w X) => ((hX.cell (p := ⟨g, 0, none⟩) hgb).trans hg : X.cell? ⟨g, 0, none⟩ = some (.int .i64 lim)))
  clear h hy hg
  go_enter Try.func19, Try.ntmps19
  go_wp2_with (fail)
  go_loopw [8] (fun i wr => ∃ k : Nat, k ≤ l.length ∧ i = .int .i64 (k : Int) ∧ Hid (∀ i y, i < k → l[i]? = some y → y ≤ lim) ∧ Hid (Below w.heap.size w wr)) (fun i _ => l.length - (intOf i).toNat)
  case atStart => exact ⟨0, Nat.zero_le _, rfl, Lib.hid (fun i y hi => absurd hi (by omega)), Lib.hid (Below.refl _ _)⟩
  case round =>
    obtain ⟨k, hk, rfl, hun, hB⟩ := hrel
    by_cases hlt : k < l.length
    · obtain ⟨x, hx⟩ : ∃ x, l[k]? = some x := ⟨_, List.getElem?_eq_getElem hlt⟩
      have HK := H.out.on hB.out (Nat.le_refl _)
      obtain ⟨pb, o, c', e1, hpb, -, -, y0⟩ := HK.at_ hx
      injection e1 with e1 _ e2
      subst e1 e2
      have HXX := Lib.hid hx
      have hki : ((k : Nat) : Int).toNat = k := by omega
      have hlt' : (k : Int) < ((l.length : Nat) : Int) := by omega
      clear hx HK
      have HC := Lib.hid (fun (r : Bool) (hr : decide (lim < x) = r) => c_abov g lim x wr (HG.out wr hB.out) r hr)
      rcases hp : decide (lim < x) with _ | _
      · have HP := Lib.hid hp
        clear hp
        go_wp2_with (go_at_call 18; refine (HC.out _ HP.out).mono ?_; rintro e w1 ⟨rfl, b1⟩; have HB1 := Lib.hid (below_join hB.out b1 hB.out.size); clear b1 y0)
        go_roundw
        case rel => exact ⟨k + 1, by omega, by go_num, Lib.hid (fun i y hi hy => by
          rcases Nat.lt_or_ge i k with h | h
          · exact hun.out i y h hy
          · obtain rfl : i = k := by omega
            have := HXX.out
            rw [hy] at this
            injection this with this
            subst this
            have := of_decide_eq_false HP.out
            omega), HB1⟩
        case measure => simp only [intOf]; omega
      · have HKY := Lib.hid (show (k : Int) = y by rw [← HY.out]; exact (v6.frs_at HXX.out (of_decide_eq_true hp) hun.out).symm)
        have HP := Lib.hid hp
        clear hp
        go_wp2_with (go_at_call 18; refine (HC.out _ HP.out).mono ?_; rintro e w1 ⟨rfl, b1⟩; have HB1 := Lib.hid (below_join hB.out b1 hB.out.size); clear b1 y0)
        go_ret
        exact ⟨(show Ending.returned (.int .i64 (k : Int)) = .returned (.int .i64 y) by rw [HKY.out]), HB1.out⟩
    · obtain rfl : k = l.length := by omega
      have HKY := Lib.hid (show (-1 : Int) = y by
        rw [← HY.out]
        refine (v6.frs_none.2 fun x hx => ?_).symm
        obtain ⟨i, hi⟩ := List.mem_iff_getElem?.1 hx
        exact hun.out i x (List.getElem?_eq_some_iff.1 hi).1 hi)
      go_wp2_with (fail)
      go_ret
      exact ⟨(show Ending.returned (.int .i64 (-1)) = .returned (.int .i64 y) by rw [HKY.out]), hB.out⟩
end Go.Proofs.Ytpokpgnclohiiaa

namespace Go.Proofs.Ytpokpgnclohiiaa
open Go.RowKit
set_option maxRecDepth 100000
set_option linter.unusedVariables false
set_option linter.unusedSimpArgs false

theorem li_one {X : World} {V : Value} {l : List Int} (h : v6.IntSl X V l) : v6.LiSl (X.alloc (.cells #[V] 30)) (.slice (some ⟨X.heap.size, 0, none⟩) 1 1) [l] := by
  refine ⟨_, _, rfl, Nat.le_refl _, by decide, fun _ => ⟨X.heap.size, 0, rfl, by rw [World.size_alloc]; omega, fun j q hj => ?_⟩⟩
  match j, hj with
  | 0, hj =>
    obtain rfl : l = q := by simpa using hj
    exact ⟨V, cell_of (heap_alloc_new X _) rfl, h.on ((Below.refl _ _).alloc (Nat.le_refl _) _) (Nat.le_refl _)⟩
set_option maxHeartbeats 8000000 in
theorem c_coCourse (p : SP) (s : SiteD) (k start : Int) (hs : List Int) (V : Value) (n : Int) (w : World) (h : SiAt w p s) (hV : v6.IntSl w V hs) (r : Int) (hr : coE s k start hs n = r) (cs : List Int) (hcs : coL s k start hs n = cs) :
    Calls Try.prog 7 #[.agg #[.slice p.a1 s.feeds.length p.c1, .slice p.a2 s.brks.length p.c2, .slice p.a3 s.loops.length p.c3, .slice p.a4 s.racks.length p.c4, .int .i64 s.sw, .slice p.a5 s.links.length p.c5, .slice p.a6 s.hosts.length p.c6], .int .i64 k, .int .i64 start, V, .int .i64 n] w fun e w' => ∃ y, e = .returned (.tuple #[y, .int .i64 r]) ∧ v6.IntSl w' y cs ∧ Below w.heap.size w w' := by
  obtain ⟨A, c, rfl, hc1, hc2⟩ := hV.shape
  have HCN := Lib.hid (fun (X : World) (hX : SiAt X p s) => c_coLinear p s k X hX)
  obtain ⟨W, h1⟩ : ∃ W, W = w.alloc (.cells #[.slice p.a1 s.feeds.length p.c1, .slice p.a2 s.brks.length p.c2, .slice p.a3 s.loops.length p.c3, .slice p.a4 s.racks.length p.c4, .int .i64 s.sw, .slice p.a5 s.links.length p.c5, .slice p.a6 s.hosts.length p.c6] 29) := ⟨_, rfl⟩
  have B1 : Below w.heap.size w W := by rw [h1]; exact (Below.refl _ _).alloc (Nat.le_refl _) _
  have X1 : SiBox W w.heap.size p s := by rw [h1]; exact siBox_new _ _ _
  have HB := Lib.hid B1
  have HA := Lib.hid (fun (X : World) (hX : Below W.heap.size W X) => (h.on B1 (Nat.le_refl _)).on hX (Nat.le_refl _))
  have HVV := Lib.hid (fun (X : World) (hX : Below W.heap.size W X) => (hV.on B1 (Nat.le_refl _)).on hX (Nat.le_refl _))
  have HF := Lib.hid (fun (X : World) (hX : Below W.heap.size W X) => (let z := X1.on hX (Nat.le_refl _); ⟨z.c0, z.c1, z.c2, z.c3, z.c4, z.c5, z.c6⟩ : X.cell? ⟨w.heap.size, 0, none⟩ = some (.slice p.a1 s.feeds.length p.c1) ∧ X.cell? ⟨w.heap.size, 1, none⟩ = some (.slice p.a2 s.brks.length p.c2) ∧ X.cell? ⟨w.heap.size, 2, none⟩ = some (.slice p.a3 s.loops.length p.c3) ∧ X.cell? ⟨w.heap.size, 3, none⟩ = some (.slice p.a4 s.racks.length p.c4) ∧ X.cell? ⟨w.heap.size, 4, none⟩ = some (.int .i64 s.sw) ∧ X.cell? ⟨w.heap.size, 5, none⟩ = some (.slice p.a5 s.links.length p.c5) ∧ X.cell? ⟨w.heap.size, 6, none⟩ = some (.slice p.a6 s.hosts.length p.c6)))
  have HKW := Lib.hid (Below.refl W.heap.size W)
  have hle := HB.out.size
  have HCO := Lib.hid (fun (hok : lpE s k = 0) (ps : Value) (L : Value) (X : World) (hps : v6.PtSl X ps (lpPs s k)) (hL : v6.LiSl X L [hs]) => v6.c_Course (lpC s k) (lpPs s k) start [hs] n ps L X hps hL r (by rw [← hr]; unfold coE; rw [if_pos]; unfold lpE at hok; split at hok <;> first | assumption | omega) cs (by rw [← hcs]; unfold coL; rw [hr]; rfl))
  unfold v6.lnV at HCO
  have HNO := Lib.hid (show lpE s k = 1 → r = 1 ∧ cs = [] by
    intro h1
    have hl : lpOk s k = false := by unfold lpE at h1; split at h1 <;> first | omega | (rename_i h2; simpa using h2)
    have h2 : coE s k start hs n = 1 := by unfold coE; rw [hl]; rfl
    refine ⟨by rw [← hr, h2], ?_⟩
    rw [← hcs]; unfold coL; rw [h2]; rfl)
  have HE := Lib.hid (show lpE s k = 0 ∨ lpE s k = 1 by unfold lpE; split <;> first | exact .inl rfl | exact .inr rfl)
  clear B1 X1 h hV hr hcs
  obtain ⟨f0, f1, f2, f3, f4, f5, f6⟩ := HF.out W HKW.out
  rw [h1] at f0 f1 f2 f3 f4 f5 f6
  generalize hBB : w.heap.size = B at *
  go_enter Try.func7, Try.ntmps7
  go_wp2_with (fail)
  rw [← h1]
  clear h1 f0 f1 f2 f3 f4 f5 f6
  go_at_call 14
  refine (HCN.out W (HA.out W HKW.out)).mono ?_
  rintro e v1 ⟨ps, rfl, hps, bb⟩
  obtain ⟨ep, hep⟩ : ∃ t, lpE s k = t := ⟨_, rfl⟩
  obtain ⟨C, hC⟩ : ∃ t, lpC s k = t := ⟨_, rfl⟩
  obtain ⟨pA, pc, rfl, pc1, pc2⟩ := hps.shape
  have HLN := Lib.hid (show (lpPs s k).length = (lpPs s k).length from rfl)
  obtain ⟨pn, hpn⟩ : ∃ t, (lpPs s k).length = t := ⟨_, rfl⟩
  rw [hep] at HCO HNO HE ⊢
  rw [hC] at HCO ⊢
  rw [hpn] at hps ⊢
  have HKv1 := Lib.hid (below_join HKW.out bb HKW.out.size)
  obtain ⟨V1, g1⟩ : ∃ X, X = v1.alloc (.cells #[.int .i64 C, .slice pA pn pc] 53) := ⟨_, rfl⟩
  have bV1 : Below v1.heap.size v1 V1 := by rw [g1]; exact (Below.refl _ _).alloc (Nat.le_refl _) _
  have HKV := Lib.hid (below_join HKv1.out bV1 HKv1.out.size)
  have HPS := Lib.hid (hps.on bV1 (Nat.le_refl _))
  have HBX := Lib.hid (show V1.heap[v1.heap.size]? = some (.cells #[.int .i64 C, .slice pA pn pc] 53 (0, 0)) by rw [g1]; exact box_new _ _ _)
  have zV1 : V1.heap.size = v1.heap.size + 1 := by rw [g1, World.size_alloc]
  obtain ⟨V2, g2⟩ : ∃ X, X = V1.alloc (.cells #[.slice A hs.length c] 30) := ⟨_, rfl⟩
  have bV2 : Below V1.heap.size V1 V2 := by rw [g2]; exact (Below.refl _ _).alloc (Nat.le_refl _) _
  have HLI := Lib.hid (show v6.LiSl V2 (.slice (some ⟨v1.heap.size + 1, 0, none⟩) 1 1) [hs] by rw [g2, ← zV1]; exact li_one (HVV.out V1 HKV.out))
  have HPS2 := Lib.hid (HPS.out.on bV2 (Nat.le_refl _))
  have HKV2 := Lib.hid (below_join HKV.out bV2 HKV.out.size)
  have q0 := cell_of HBX.out (o := 0) rfl
  have q1 := cell_of HBX.out (o := 1) rfl
  rw [g1] at q0 q1
  clear bb bV1 bV2 zV1 hps hep hC hpn HLN
  rcases HE.out with rfl | rfl
  · go_wp2_with (fail)
    rw [← g1, ← g2]
    clear g1 g2 q0 q1
    go_at_call 15
    refine (HCO.out (by trivial) _ _ V2 HPS2.out HLI.out).mono ?_
    rintro e v2 ⟨y, rfl, hy, bb⟩
    have HY := Lib.hid hy
    have HK2 := Lib.hid (below_join HKV2.out bb HKV2.out.size)
    clear hy bb
    go_wp2_with (fail)
    go_ret2
    exact ⟨y, rfl, HY.out, below_join HB.out HK2.out hle⟩
  · obtain ⟨rfl, rfl⟩ := HNO.out rfl
    go_wp2_with (fail)
    rw [← g1]
    go_ret2
    exact ⟨_, rfl, v6.IntSl.nil _, below_join HB.out HKV.out hle⟩
end Go.Proofs.Ytpokpgnclohiiaa

namespace Go.Proofs.Ytpokpgnclohiiaa
open Go.RowKit
set_option maxRecDepth 100000
set_option linter.unusedVariables false
set_option linter.unusedSimpArgs false

theorem hd_err {r0 : Bool} {heat : Int} {s : SiteD} {k start n : Int} (h : hdOk r0 s k start n = false) : hdE r0 s k start n = 1 ∧ hdL r0 heat s k start n = [] := by
  have h1 : hdE r0 s k start n = 1 := by unfold hdE; rw [h]; rfl
  exact ⟨h1, by unfold hdL; rw [h1]; rfl⟩
theorem hd_no {r0 : Bool} {heat : Int} {s : SiteD} {k start n : Int} (h : hdE r0 s k start n = 1) : hdL r0 heat s k start n = [] := by unfold hdL; rw [h]; rfl
set_option maxHeartbeats 16000000 in
theorem c_heated (z : Sn) (r0 : Bool) (hr0 : r0 = true ↔ z.Ok) (k start n : Int) (w : World) (hz : SnAt w z) (heat : Int) (hh : heatV z r0 k = heat) (r : Int) (hr : hdE r0 z.s k start n = r) (cs : List Int) (hcs : hdL r0 heat z.s k start n = cs) :
    Calls Try.prog 16 #[.agg #[.slice z.p.a1 z.s.feeds.length z.p.c1, .slice z.p.a2 z.s.brks.length z.p.c2, .slice z.p.a3 z.s.loops.length z.p.c3, .slice z.p.a4 z.s.racks.length z.p.c4, .int .i64 z.s.sw, .slice z.p.a5 z.s.links.length z.p.c5, .slice z.p.a6 z.s.hosts.length z.p.c6], .agg #[.slice z.A z.xs.length z.c], .agg #[.slice z.q.a1 z.d.hosts.length z.q.c1, .slice z.q.a2 z.d.reps.length z.q.c2], .int .i64 k, .int .i64 start, .int .i64 n] w fun e w' => ∃ y, e = .returned (.tuple #[y, .int .i64 r]) ∧ v6.IntSl w' y cs ∧ Below w.heap.size w w' := by
  obtain ⟨W1, h1⟩ : ∃ W, W = w.alloc (.cells #[.slice z.p.a1 z.s.feeds.length z.p.c1, .slice z.p.a2 z.s.brks.length z.p.c2, .slice z.p.a3 z.s.loops.length z.p.c3, .slice z.p.a4 z.s.racks.length z.p.c4, .int .i64 z.s.sw, .slice z.p.a5 z.s.links.length z.p.c5, .slice z.p.a6 z.s.hosts.length z.p.c6] 29) := ⟨_, rfl⟩
  obtain ⟨W2, h2⟩ : ∃ W, W = W1.alloc (.cells #[.slice z.A z.xs.length z.c] 34) := ⟨_, rfl⟩
  obtain ⟨W, h3⟩ : ∃ W, W = W2.alloc (.cells #[.slice z.q.a1 z.d.hosts.length z.q.c1, .slice z.q.a2 z.d.reps.length z.q.c2] 38) := ⟨_, rfl⟩
  obtain ⟨B0, X1⟩ := sn_boxes h1 h2 h3
  have z3 : W.heap.size = w.heap.size + 1 + 1 + 1 := sn_size h1 h2 h3
  have HB := Lib.hid B0
  have Z0 := hz.on B0 (Nat.le_refl _)
  have HZ := Lib.hid (fun (X : World) (hX : Below W.heap.size W X) => Z0.on hX (Nat.le_refl _))
  have HF := Lib.hid (fun (X : World) (hX : Below W.heap.size W X) => ((X1.on hX (Nat.le_refl _)).cells : X.cell? ⟨w.heap.size, 0, none⟩ = some (.slice z.p.a1 z.s.feeds.length z.p.c1) ∧ X.cell? ⟨w.heap.size, 1, none⟩ = some (.slice z.p.a2 z.s.brks.length z.p.c2) ∧ X.cell? ⟨w.heap.size, 2, none⟩ = some (.slice z.p.a3 z.s.loops.length z.p.c3) ∧ X.cell? ⟨w.heap.size, 3, none⟩ = some (.slice z.p.a4 z.s.racks.length z.p.c4) ∧ X.cell? ⟨w.heap.size, 4, none⟩ = some (.int .i64 z.s.sw) ∧ X.cell? ⟨w.heap.size, 5, none⟩ = some (.slice z.p.a5 z.s.links.length z.p.c5) ∧ X.cell? ⟨w.heap.size, 6, none⟩ = some (.slice z.p.a6 z.s.hosts.length z.p.c6) ∧ X.cell? ⟨w.heap.size + 1, 0, none⟩ = some (.slice z.A z.xs.length z.c) ∧ X.cell? ⟨w.heap.size + 1 + 1, 0, none⟩ = some (.slice z.q.a1 z.d.hosts.length z.q.c1) ∧ X.cell? ⟨w.heap.size + 1 + 1, 1, none⟩ = some (.slice z.q.a2 z.d.reps.length z.q.c2)))
  have HX := Lib.hid (fun (X : World) (hX : Below W.heap.size W X) => X1.on hX (Nat.le_refl _))
  have HKW := Lib.hid (Below.refl W.heap.size W)
  have hle := HB.out.size
  obtain ⟨n1, n2, n3, n4, n5, n6, n7, n8⟩ := hz.bounds
  have HVV := Lib.hid (fun (X : World) (hX : SnAt X z) => c_vTo z r0 hr0 X hX)
  have HR0 := Lib.hid hr0
  have HR := Lib.hid hr
  have HCS := Lib.hid hcs
  have HH := Lib.hid hh
  have HHB := Lib.hid (show 0 ≤ heat ∧ heat ≤ 24160000 by rw [← hh]; exact heatV_bd hr0 k)
  clear hr0 hr hcs hh
  clear hz B0 X1 z3 Z0
  obtain ⟨f0, f1, f2, f3, f4, f5, f6, g0, g1, g2⟩ := HF.out W HKW.out
  rw [h3, h2, h1] at f0 f1 f2 f3 f4 f5 f6 g0 g1 g2
  generalize hBB : w.heap.size = B at *
  go_enter Try.func16, Try.ntmps16
  go_wp2_with (fail)
  rw [← h1, ← h2, ← h3]
  clear h1 h2 h3 f0 f1 f2 f3 f4 f5 f6 g0 g1 g2
  go_at_call 27
  refine (HVV.out W (HZ.out W HKW.out)).mono ?_
  rintro e v1 ⟨rfl, bb⟩
  have HKv1 := Lib.hid (below_join HKW.out bb HKW.out.size)
  clear bb
  cases r0
  · skip
    have HE := Lib.hid (hd_err (heat := heat) (show hdOk false z.s k start n = false by unfold hdOk; rfl))
    have HR1 := Lib.hid (show r = 1 by rw [← HR.out, HE.out.1])
    have HC1 := Lib.hid (show cs = [] by rw [← HCS.out, HE.out.2])
    go_wp2_with (fail)
    go_ret2
    exact ⟨.slice none 0 0, (show Ending.returned (.tuple #[.slice none 0 0, .int .i64 1]) = .returned (.tuple #[.slice none 0 0, .int .i64 r]) by rw [HR1.out]), by rw [HC1.out]; exact v6.IntSl.nil _, below_join HB.out HKv1.out hle⟩
  obtain ⟨b1, hb1⟩ : ∃ t, (decide (0 ≤ start) && decide (start ≤ 1000000)) = t := ⟨_, rfl⟩
  obtain ⟨b2, hb2⟩ : ∃ t, (decide (0 ≤ n) && decide (n ≤ 1000)) = t := ⟨_, rfl⟩
  have HB1 := Lib.hid hb1
  have HB2 := Lib.hid hb2
  clear hb1 hb2
  go_wp2_with (fail)
  go_at_call 17
  refine (c_coUpTo start 1000000 b1 HB1.out v1).mono ?_
  rintro e v2 ⟨rfl, bb⟩
  have HKv2 := Lib.hid (below_join HKv1.out bb HKv1.out.size)
  clear bb
  cases b1
  · skip
    have HE := Lib.hid (hd_err (heat := heat) (show hdOk true z.s k start n = false by unfold hdOk; rw [HB1.out]; rfl))
    have HR1 := Lib.hid (show r = 1 by rw [← HR.out, HE.out.1])
    have HC1 := Lib.hid (show cs = [] by rw [← HCS.out, HE.out.2])
    go_wp2_with (fail)
    go_ret2
    exact ⟨.slice none 0 0, (show Ending.returned (.tuple #[.slice none 0 0, .int .i64 1]) = .returned (.tuple #[.slice none 0 0, .int .i64 r]) by rw [HR1.out]), by rw [HC1.out]; exact v6.IntSl.nil _, below_join HB.out HKv2.out hle⟩
  go_wp2_with (fail)
  go_at_call 17
  refine (c_coUpTo n 1000 b2 HB2.out v2).mono ?_
  rintro e v3 ⟨rfl, bb⟩
  have HKv3 := Lib.hid (below_join HKv2.out bb HKv2.out.size)
  clear bb
  cases b2
  · skip
    have HE := Lib.hid (hd_err (heat := heat) (show hdOk true z.s k start n = false by unfold hdOk; rw [HB1.out, HB2.out]; rfl))
    have HR1 := Lib.hid (show r = 1 by rw [← HR.out, HE.out.1])
    have HC1 := Lib.hid (show cs = [] by rw [← HCS.out, HE.out.2])
    go_wp2_with (fail)
    go_ret2
    exact ⟨.slice none 0 0, (show Ending.returned (.tuple #[.slice none 0 0, .int .i64 1]) = .returned (.tuple #[.slice none 0 0, .int .i64 r]) by rw [HR1.out]), by rw [HC1.out]; exact v6.IntSl.nil _, below_join HB.out HKv3.out hle⟩
  have hok : hdOk true z.s k start n = true := by unfold hdOk; rw [HB1.out, HB2.out]; rfl
  have hok2 := hdOk_iff.1 hok
  have HCO := Lib.hid (hd_co (heat := heat) hok (by have := HHB.out; omega))
  obtain ⟨m, rfl⟩ : ∃ m : Nat, n = m := ⟨n.toNat, by omega⟩
  have hm : m ≤ 1000 := by omega
  have HCR := Lib.hid (show coE z.s k start (List.replicate m heat) (m : Int) = r by have h := HCO.out.1; rw [Int.toNat_natCast] at h; rw [h, HR.out])
  have HCC := Lib.hid (show coL z.s k start (List.replicate m heat) (m : Int) = cs by have h := HCO.out.2; rw [Int.toNat_natCast] at h; rw [h, HCS.out])
  obtain ⟨i1, hi1, hz1, hz2, hz3⟩ := info_parts int_info
  clear hok hok2
  obtain ⟨f0, f1, f2, f3, f4, f5, f6, g0, g1, g2⟩ := HF.out v3 HKv3.out
  go_wp2_with (fail)
  clear f0 f1 f2 f3 f4 f5 f6 g0 g1 g2
  go_at_call 13
  refine (c_coHeat z true ⟨fun _ => HR0.out.1 trivial, fun _ => rfl⟩ k v3 (HZ.out v3 HKv3.out) heat HH.out).mono ?_
  rintro e v4 ⟨rfl, bb⟩
  have HKv4 := Lib.hid (below_join HKv3.out bb HKv3.out.size)
  clear bb
  go_wp2_with (fail)
  go_loopw [15, 37] (fun v i wr => ∃ j : Nat, j ≤ m ∧ i = .int .i64 (j : Int) ∧ Hid (Below W.heap.size W wr) ∧ Hid (wr.ownsRow W.heap.size 3 1 v j (ints (List.replicate j heat)))) (fun _ i _ => m - (intOf i).toNat)
  case atStart => exact ⟨0, Nat.zero_le _, rfl, HKv4, Lib.hid (World.ownsRow_nil _ _ _ _)⟩
  case round =>
    obtain ⟨j, hj, rfl, hK, ho⟩ := hrel
    have hji : ((j : Nat) : Int).toNat = j := by omega
    by_cases hlt : j < m
    · have hkl : (j : Int) < (m : Int) := by omega
      obtain ⟨As, cs', rfl⟩ := own_shape ho.out
      go_wp2_with (at_builtin; refine wpList_append_lies _ rfl _ _ 30 rfl W.heap.size 3 i1 (.int .i64 0) 1 8 Try.underlying30 hi1 hz1 hz2 hz3 rfl (by decide) (.slice As j cs') j _ rfl (ho.out.alloc _) ⟨wr.heap.size, 0, none⟩ 1 1 [.int .i64 heat] rfl rfl (World.news_of_block (heap_alloc_new _ _)) (by simp [Value.oneCell']) (by decide) (by unfold maxLen; omega) (by omega) (by have := hK.out.size; simp; omega) (wr.heap.size + 1) (by simp) ?_; intro g4 cap4 Z hown hgrow _ _; have HBZ := Lib.hid ((hK.out.alloc hK.out.size _).grown hgrow (by have := hK.out.size; simp; omega) (fun k hk => (ownsRow_lt ho.out hk).1)); have HOZ := Lib.hid hown; clear hown hgrow)
      have HO := Lib.hid (show Z.ownsRow W.heap.size 3 1 (.slice (some ⟨g4, 0, none⟩) (j + 1) cap4) (j + 1) (ints (List.replicate (j + 1) heat)) by
        rw [ints_rep]; exact HOZ.out)
      go_roundw
      case rel => exact ⟨j + 1, by omega, by go_num, HBZ, HO⟩
      case measure => simp only [intOf]; omega
    · obtain rfl : j = m := by omega
      have HIS := Lib.hid (show v6.IntSl wr u15 (List.replicate j heat) from v6.own_intSl (base := W.heap.size) (by rw [List.length_replicate]; exact ho.out))
      obtain ⟨f0, f1, f2, f3, f4, f5, f6, g0, g1, g2⟩ := HF.out wr hK.out
      go_wp2_with (fail)
      clear f0 f1 f2 f3 f4 f5 f6 g0 g1 g2
      go_at_call 7
      refine (c_coCourse z.p z.s k start (List.replicate j heat) u15 (j : Int) wr (HZ.out wr hK.out).si HIS.out r HCR.out cs HCC.out).mono ?_
      rintro e v5 ⟨y, rfl, hy, bb⟩
      have HY := Lib.hid hy
      have HKv5 := Lib.hid (below_join hK.out bb hK.out.size)
      clear hy bb
      go_wp2_with (fail)
      go_ret2
      exact ⟨y, rfl, HY.out, below_join HB.out HKv5.out hle⟩
set_option maxHeartbeats 8000000 in
theorem c_coAfter (z : Sn) (r0 : Bool) (hr0 : r0 = true ↔ z.Ok) (k start n : Int) (w : World) (hz : SnAt w z) (heat : Int) (hh : heatV z r0 k = heat) (r : Int) (hr : hdE r0 z.s k start n = r) (a : Int) (ha : afV r0 heat z.s k start n = a) :
    Calls Try.prog 8 #[.agg #[.slice z.p.a1 z.s.feeds.length z.p.c1, .slice z.p.a2 z.s.brks.length z.p.c2, .slice z.p.a3 z.s.loops.length z.p.c3, .slice z.p.a4 z.s.racks.length z.p.c4, .int .i64 z.s.sw, .slice z.p.a5 z.s.links.length z.p.c5, .slice z.p.a6 z.s.hosts.length z.p.c6], .agg #[.slice z.A z.xs.length z.c], .agg #[.slice z.q.a1 z.d.hosts.length z.q.c1, .slice z.q.a2 z.d.reps.length z.q.c2], .int .i64 k, .int .i64 start, .int .i64 n] w fun e w' => e = .returned (.tuple #[.int .i64 a, .int .i64 r]) ∧ Below w.heap.size w w' := by
  obtain ⟨W1, h1⟩ : ∃ W, W = w.alloc (.cells #[.slice z.p.a1 z.s.feeds.length z.p.c1, .slice z.p.a2 z.s.brks.length z.p.c2, .slice z.p.a3 z.s.loops.length z.p.c3, .slice z.p.a4 z.s.racks.length z.p.c4, .int .i64 z.s.sw, .slice z.p.a5 z.s.links.length z.p.c5, .slice z.p.a6 z.s.hosts.length z.p.c6] 29) := ⟨_, rfl⟩
  obtain ⟨W2, h2⟩ : ∃ W, W = W1.alloc (.cells #[.slice z.A z.xs.length z.c] 34) := ⟨_, rfl⟩
  obtain ⟨W, h3⟩ : ∃ W, W = W2.alloc (.cells #[.slice z.q.a1 z.d.hosts.length z.q.c1, .slice z.q.a2 z.d.reps.length z.q.c2] 38) := ⟨_, rfl⟩
  obtain ⟨B0, X1⟩ := sn_boxes h1 h2 h3
  have z3 : W.heap.size = w.heap.size + 1 + 1 + 1 := sn_size h1 h2 h3
  have HB := Lib.hid B0
  have Z0 := hz.on B0 (Nat.le_refl _)
  have HZ := Lib.hid (fun (X : World) (hX : Below W.heap.size W X) => Z0.on hX (Nat.le_refl _))
  have HF := Lib.hid (fun (X : World) (hX : Below W.heap.size W X) => ((X1.on hX (Nat.le_refl _)).cells : X.cell? ⟨w.heap.size, 0, none⟩ = some (.slice z.p.a1 z.s.feeds.length z.p.c1) ∧ X.cell? ⟨w.heap.size, 1, none⟩ = some (.slice z.p.a2 z.s.brks.length z.p.c2) ∧ X.cell? ⟨w.heap.size, 2, none⟩ = some (.slice z.p.a3 z.s.loops.length z.p.c3) ∧ X.cell? ⟨w.heap.size, 3, none⟩ = some (.slice z.p.a4 z.s.racks.length z.p.c4) ∧ X.cell? ⟨w.heap.size, 4, none⟩ = some (.int .i64 z.s.sw) ∧ X.cell? ⟨w.heap.size, 5, none⟩ = some (.slice z.p.a5 z.s.links.length z.p.c5) ∧ X.cell? ⟨w.heap.size, 6, none⟩ = some (.slice z.p.a6 z.s.hosts.length z.p.c6) ∧ X.cell? ⟨w.heap.size + 1, 0, none⟩ = some (.slice z.A z.xs.length z.c) ∧ X.cell? ⟨w.heap.size + 1 + 1, 0, none⟩ = some (.slice z.q.a1 z.d.hosts.length z.q.c1) ∧ X.cell? ⟨w.heap.size + 1 + 1, 1, none⟩ = some (.slice z.q.a2 z.d.reps.length z.q.c2)))
  have HX := Lib.hid (fun (X : World) (hX : Below W.heap.size W X) => X1.on hX (Nat.le_refl _))
  have HKW := Lib.hid (Below.refl W.heap.size W)
  have hle := HB.out.size
  obtain ⟨n1, n2, n3, n4, n5, n6, n7, n8⟩ := hz.bounds
  have HCH := Lib.hid (fun (X : World) (hX : SnAt X z) => c_heated z r0 hr0 k start n X hX heat hh r hr (hdL r0 heat z.s k start n) rfl)
  have HCS := Lib.hid (show r = 0 → (hdL r0 heat z.s k start n).length = n.toNat + 1 ∧ 0 ≤ n ∧ n ≤ 1000 by
    intro h
    subst h
    exact ⟨hdL_len hr, (hdOk_iff.1 (hdE_zero.1 hr).1).2⟩)
  have HE := Lib.hid (show r = 0 ∨ r = 1 by rw [← hr]; exact hdE_cases _ _ _ _ _)
  have HA := Lib.hid ha
  have HN := Lib.hid (show r = 1 → a = 0 by
    intro h
    rw [← ha]; unfold afV; rw [hd_no (by rw [hr, h])]; rfl)
  have HI := Lib.hid (show r = 0 → (hdL r0 heat z.s k start n)[n.toNat]? = some a by
    intro h
    subst h
    have h1 := hdL_len (heat := heat) hr
    rw [← ha]; unfold afV
    rw [List.getElem?_eq_getElem (by omega)]; rfl)
  obtain ⟨l, hl⟩ : ∃ l, hdL r0 heat z.s k start n = l := ⟨_, rfl⟩
  rw [hl] at HCH HCS HI
  clear hr0 hr ha hh hl HA
  clear hz B0 X1 z3 Z0
  obtain ⟨f0, f1, f2, f3, f4, f5, f6, g0, g1, g2⟩ := HF.out W HKW.out
  rw [h3, h2, h1] at f0 f1 f2 f3 f4 f5 f6 g0 g1 g2
  generalize hBB : w.heap.size = B at *
  go_enter Try.func8, Try.ntmps8
  go_wp2_with (fail)
  rw [← h1, ← h2, ← h3]
  clear h1 h2 h3 f0 f1 f2 f3 f4 f5 f6 g0 g1 g2
  go_at_call 16
  refine (HCH.out W (HZ.out W HKW.out)).mono ?_
  rintro e v1 ⟨y, rfl, hy, bb⟩
  have HKv1 := Lib.hid (below_join HKW.out bb HKW.out.size)
  rcases HE.out with rfl | rfl
  · obtain ⟨h1, h2, h3⟩ := HCS.out (by trivial)
    obtain ⟨m, rfl⟩ : ∃ m : Nat, n = m := ⟨n.toNat, by omega⟩
    have h4 := HI.out (by trivial)
    rw [Int.toNat_natCast] at h1 h4
    obtain ⟨pb, po, pc, rfl, hpb, -, -, x0⟩ := hy.at_ h4
    have hlt : (m : Int) < (l.length : Int) := by omega
    clear h1 h4 hy bb
    go_wp2_with (fail)
    go_ret2
    exact ⟨rfl, below_join HB.out HKv1.out hle⟩
  · have HA0 := Lib.hid (HN.out (by trivial))
    clear hy bb
    go_wp2_with (fail)
    go_ret2
    exact ⟨(show Ending.returned (.tuple #[.int .i64 0, .int .i64 1]) = .returned (.tuple #[.int .i64 a, .int .i64 1]) by rw [HA0.out]), below_join HB.out HKv1.out hle⟩
theorem lonV_no {r0 : Bool} {heat : Int} {s : SiteD} {k start lim : Int} (h : lonE r0 s k start lim ≠ 0) : lonV r0 heat s k start lim = 0 := by unfold lonV; rw [if_neg h]
theorem lonV_yes {r0 : Bool} {heat : Int} {s : SiteD} {k start lim : Int} (h : lonE r0 s k start lim = 0) : lonV r0 heat s k start lim = lastN lim (hdL r0 heat s k start 1000) := by unfold lonV; rw [if_pos h]
set_option maxHeartbeats 16000000 in
theorem c_coLongest (z : Sn) (r0 : Bool) (hr0 : r0 = true ↔ z.Ok) (k start lim : Int) (w : World) (hz : SnAt w z) (heat : Int) (hh : heatV z r0 k = heat) (r : Int) (hr : lonE r0 z.s k start lim = r) (a : Int) (ha : lonV r0 heat z.s k start lim = a) :
    Calls Try.prog 12 #[.agg #[.slice z.p.a1 z.s.feeds.length z.p.c1, .slice z.p.a2 z.s.brks.length z.p.c2, .slice z.p.a3 z.s.loops.length z.p.c3, .slice z.p.a4 z.s.racks.length z.p.c4, .int .i64 z.s.sw, .slice z.p.a5 z.s.links.length z.p.c5, .slice z.p.a6 z.s.hosts.length z.p.c6], .agg #[.slice z.A z.xs.length z.c], .agg #[.slice z.q.a1 z.d.hosts.length z.q.c1, .slice z.q.a2 z.d.reps.length z.q.c2], .int .i64 k, .int .i64 start, .int .i64 lim] w fun e w' => e = .returned (.tuple #[.int .i64 a, .int .i64 r]) ∧ Below w.heap.size w w' := by
  obtain ⟨W1, h1⟩ : ∃ W, W = w.alloc (.cells #[.slice z.p.a1 z.s.feeds.length z.p.c1, .slice z.p.a2 z.s.brks.length z.p.c2, .slice z.p.a3 z.s.loops.length z.p.c3, .slice z.p.a4 z.s.racks.length z.p.c4, .int .i64 z.s.sw, .slice z.p.a5 z.s.links.length z.p.c5, .slice z.p.a6 z.s.hosts.length z.p.c6] 29) := ⟨_, rfl⟩
  obtain ⟨W2, h2⟩ : ∃ W, W = W1.alloc (.cells #[.slice z.A z.xs.length z.c] 34) := ⟨_, rfl⟩
  obtain ⟨W3, h3⟩ : ∃ W, W = W2.alloc (.cells #[.slice z.q.a1 z.d.hosts.length z.q.c1, .slice z.q.a2 z.d.reps.length z.q.c2] 38) := ⟨_, rfl⟩
  obtain ⟨B0, X1⟩ := sn_boxes h1 h2 h3
  have z3 : W3.heap.size = w.heap.size + 1 + 1 + 1 := sn_size h1 h2 h3
  obtain ⟨W, h4⟩ : ∃ W, W = W3.alloc (.cells #[.int .i64 lim] 3) := ⟨_, rfl⟩
  have B1 : Below w.heap.size w W := by rw [h4]; exact B0.alloc B0.size _
  have M0 : W.heap[w.heap.size + 1 + 1 + 1]? = some (.cells #[.int .i64 lim] 3 (0, 0)) := by rw [h4, ← z3]; exact box_new _ _ _
  have z4 : W.heap.size = w.heap.size + 1 + 1 + 1 + 1 := by rw [h4, World.size_alloc, z3]
  have X2 : SnBx W w.heap.size z := by rw [h4]; exact X1.alloc _
  have HB := Lib.hid B1
  have Z0 := hz.on B1 (Nat.le_refl _)
  have HZ := Lib.hid (fun (X : World) (hX : Below W.heap.size W X) => Z0.on hX (Nat.le_refl _))
  have HF := Lib.hid (fun (X : World) (hX : Below W.heap.size W X) => ((X2.on hX (Nat.le_refl _)).cells : X.cell? ⟨w.heap.size, 0, none⟩ = some (.slice z.p.a1 z.s.feeds.length z.p.c1) ∧ X.cell? ⟨w.heap.size, 1, none⟩ = some (.slice z.p.a2 z.s.brks.length z.p.c2) ∧ X.cell? ⟨w.heap.size, 2, none⟩ = some (.slice z.p.a3 z.s.loops.length z.p.c3) ∧ X.cell? ⟨w.heap.size, 3, none⟩ = some (.slice z.p.a4 z.s.racks.length z.p.c4) ∧ X.cell? ⟨w.heap.size, 4, none⟩ = some (.int .i64 z.s.sw) ∧ X.cell? ⟨w.heap.size, 5, none⟩ = some (.slice z.p.a5 z.s.links.length z.p.c5) ∧ X.cell? ⟨w.heap.size, 6, none⟩ = some (.slice z.p.a6 z.s.hosts.length z.p.c6) ∧ X.cell? ⟨w.heap.size + 1, 0, none⟩ = some (.slice z.A z.xs.length z.c) ∧ X.cell? ⟨w.heap.size + 1 + 1, 0, none⟩ = some (.slice z.q.a1 z.d.hosts.length z.q.c1) ∧ X.cell? ⟨w.heap.size + 1 + 1, 1, none⟩ = some (.slice z.q.a2 z.d.reps.length z.q.c2)))
  have HX := Lib.hid (fun (X : World) (hX : Below W.heap.size W X) => X2.on hX (Nat.le_refl _))
  have HM0 := Lib.hid (fun (X : World) (hX : Below W.heap.size W X) => (box_on M0 hX (Nat.le_refl _) : X.heap[w.heap.size + 1 + 1 + 1]? = some (.cells #[.int .i64 lim] 3 (0, 0))))
  have HKW := Lib.hid (Below.refl W.heap.size W)
  have hle := HB.out.size
  obtain ⟨n1, n2, n3, n4, n5, n6, n7, n8⟩ := hz.bounds
  have HCH := Lib.hid (fun (r2 : Int) (hr2 : hdE r0 z.s k start 1000 = r2) (X : World) (hX : SnAt X z) => c_heated z r0 hr0 k start 1000 X hX heat hh r2 hr2 (hdL r0 heat z.s k start 1000) rfl)
  have HE := Lib.hid (hdE_cases r0 z.s k start 1000)
  have HR := Lib.hid hr
  have HA := Lib.hid ha
  obtain ⟨l, hl⟩ : ∃ l, hdL r0 heat z.s k start 1000 = l := ⟨_, rfl⟩
  rw [hl] at HCH
  have HL := Lib.hid hl
  clear hr0 hr ha hh hl
  clear hz B0 X1 z3 Z0 B1 M0 z4 X2
  obtain ⟨f0, f1, f2, f3, f4, f5, f6, g0, g1, g2⟩ := HF.out W HKW.out
  have m00 := cell_of (HM0.out W HKW.out) (o := 0) rfl
  rw [h4, h3, h2, h1] at f0 f1 f2 f3 f4 f5 f6 g0 g1 g2 m00
  generalize hBB : w.heap.size = B at *
  go_enter Try.func12, Try.ntmps12
  go_wp2_with (fail)
  rw [← h1, ← h2, ← h3, ← h4]
  clear h1 h2 h3 h4 f0 f1 f2 f3 f4 f5 f6 g0 g1 g2 m00
  obtain ⟨b1, hb1⟩ : ∃ t, (decide (0 ≤ lim) && decide (lim ≤ 1000000)) = t := ⟨_, rfl⟩
  have HB1 := Lib.hid hb1
  clear hb1
  go_at_call 17
  refine (c_coUpTo lim 1000000 b1 HB1.out W).mono ?_
  rintro e v1 ⟨rfl, bb⟩
  have HKv1 := Lib.hid (below_join HKW.out bb HKW.out.size)
  clear bb
  cases b1
  · have HE1 := Lib.hid (show lonE r0 z.s k start lim = 1 by unfold lonE lonOk; rw [HB1.out]; rfl)
    have HA1 := Lib.hid (show a = 0 by rw [← HA.out]; exact lonV_no (by rw [HE1.out]; decide))
    have HR1 := Lib.hid (show r = 1 by rw [← HR.out, HE1.out])
    go_wp2_with (fail)
    go_ret2
    exact ⟨(show Ending.returned (.tuple #[.int .i64 0, .int .i64 1]) = .returned (.tuple #[.int .i64 a, .int .i64 r]) by rw [HA1.out, HR1.out]), below_join HB.out HKv1.out hle⟩
  have HLE := Lib.hid (show lonE r0 z.s k start lim = hdE r0 z.s k start 1000 by unfold lonE lonOk; rw [HB1.out]; rfl)
  obtain ⟨r2, hr2⟩ : ∃ t, hdE r0 z.s k start 1000 = t := ⟨_, rfl⟩
  rw [hr2] at HE HLE
  have HR2 := Lib.hid hr2
  clear hr2
  obtain ⟨f0, f1, f2, f3, f4, f5, f6, g0, g1, g2⟩ := HF.out v1 HKv1.out
  go_wp2_with (fail)
  clear f0 f1 f2 f3 f4 f5 f6 g0 g1 g2
  go_at_call 16
  refine (HCH.out r2 HR2.out v1 (HZ.out v1 HKv1.out)).mono ?_
  rintro e v2 ⟨y, rfl, hy, bb⟩
  have HKv2 := Lib.hid (below_join HKv1.out bb HKv1.out.size)
  have HY := Lib.hid hy
  clear hy bb
  rcases HE.out with rfl | rfl
  rotate_left
  · have HA1 := Lib.hid (show a = 0 by rw [← HA.out]; exact lonV_no (by rw [HLE.out]; decide))
    have HR1 := Lib.hid (show r = 1 by rw [← HR.out, HLE.out])
    go_wp2_with (fail)
    go_ret2
    exact ⟨(show Ending.returned (.tuple #[.int .i64 0, .int .i64 1]) = .returned (.tuple #[.int .i64 a, .int .i64 r]) by rw [HA1.out, HR1.out]), below_join HB.out HKv2.out hle⟩
  have HR1 := Lib.hid (show r = 0 by rw [← HR.out, HLE.out])
  have HA2 := Lib.hid (show lastN lim l = a by rw [← HA.out, lonV_yes HLE.out, HL.out])
  obtain ⟨f, hf⟩ : ∃ t, v6.frs lim l = t := ⟨_, rfl⟩
  have HFF := Lib.hid hf
  have hfg : -1 ≤ f := by rw [← hf]; exact frs_ge
  have hfl : f < 1001 := by
    rw [← hf]
    have h1 := frs_lt (lim := lim) (l := l)
    have h2 : l.length = 1001 := by rw [← HL.out, hdL_len HR2.out]; rfl
    omega
  clear hf
  obtain ⟨Ay, cy, rfl, -, -⟩ := HY.out.shape
  go_wp2_with (fail)
  go_at_call 19
  refine (c_IF_ints (B + 1 + 1 + 1) lim _ l v2 HY.out (cell_of (HM0.out v2 HKv2.out) rfl) (at_lt (HM0.out v2 HKv2.out)) f HFF.out).mono ?_
  rintro e v3 ⟨rfl, bb⟩
  have HKv3 := Lib.hid (below_join HKv2.out bb HKv2.out.size)
  clear bb
  rcases hp : decide (0 ≤ f) with _ | _
  · have hp' := of_decide_eq_false hp
    have HA3 := Lib.hid (show a = 1000 by rw [← HA2.out]; unfold lastN; rw [HFF.out, if_neg hp'])
    go_wp2_with (fail)
    go_ret2
    exact ⟨(show Ending.returned (.tuple #[.int .i64 1000, .int .i64 0]) = .returned (.tuple #[.int .i64 a, .int .i64 r]) by rw [HA3.out, HR1.out]), below_join HB.out HKv3.out hle⟩
  · have hp' := of_decide_eq_true hp
    have HA3 := Lib.hid (show a = f - 1 by rw [← HA2.out]; unfold lastN; rw [HFF.out, if_pos hp'])
    have hw : IntKind.i64.wrap (f - 1) = f - 1 := wrap_in (by omega) (by omega)
    go_wp2_with (fail)
    go_ret2
    exact ⟨(show Ending.returned (.tuple #[.int .i64 (f - 1), .int .i64 0]) = .returned (.tuple #[.int .i64 a, .int .i64 r]) by rw [HA3.out, HR1.out]), below_join HB.out HKv3.out hle⟩
end Go.Proofs.Ytpokpgnclohiiaa

namespace Go.Proofs.Ytpokpgnclohiiaa
open Go.RowKit
set_option maxRecDepth 100000
set_option linter.unusedVariables false
set_option linter.unusedSimpArgs false

/-- Lists of at most 60 elements. -/
def FewZ (z : Sn) : Prop := z.s.feeds.length ≤ 60 ∧ z.s.brks.length ≤ 60 ∧ z.s.loops.length ≤ 60 ∧ z.s.racks.length ≤ 60 ∧ z.s.links.length ≤ 60 ∧ z.s.hosts.length ≤ 60 ∧ z.xs.length ≤ 60 ∧ z.d.hosts.length ≤ 60 ∧ z.d.reps.length ≤ 60
set_option maxHeartbeats 16000000 in
theorem c_fewZ (z : Sn) (r : Bool) (hr : r = true ↔ FewZ z) (w : World) (hz : SnAt w z) :
    Calls Try.prog 5 #[.agg #[.slice z.p.a1 z.s.feeds.length z.p.c1, .slice z.p.a2 z.s.brks.length z.p.c2, .slice z.p.a3 z.s.loops.length z.p.c3, .slice z.p.a4 z.s.racks.length z.p.c4, .int .i64 z.s.sw, .slice z.p.a5 z.s.links.length z.p.c5, .slice z.p.a6 z.s.hosts.length z.p.c6], .agg #[.slice z.A z.xs.length z.c], .agg #[.slice z.q.a1 z.d.hosts.length z.q.c1, .slice z.q.a2 z.d.reps.length z.q.c2]] w fun e w' => e = .returned (.bool r) ∧ Below w.heap.size w w' := by
  have n9 : z.s.links.length ≤ 9223372036854775807 := by
    have a5 := hz.si.links.1; have b5 := hz.si.links.2.1; unfold maxLen at *; omega
  obtain ⟨W1, h1⟩ : ∃ W, W = w.alloc (.cells #[.slice z.p.a1 z.s.feeds.length z.p.c1, .slice z.p.a2 z.s.brks.length z.p.c2, .slice z.p.a3 z.s.loops.length z.p.c3, .slice z.p.a4 z.s.racks.length z.p.c4, .int .i64 z.s.sw, .slice z.p.a5 z.s.links.length z.p.c5, .slice z.p.a6 z.s.hosts.length z.p.c6] 29) := ⟨_, rfl⟩
  obtain ⟨W2, h2⟩ : ∃ W, W = W1.alloc (.cells #[.slice z.A z.xs.length z.c] 34) := ⟨_, rfl⟩
  obtain ⟨W, h3⟩ : ∃ W, W = W2.alloc (.cells #[.slice z.q.a1 z.d.hosts.length z.q.c1, .slice z.q.a2 z.d.reps.length z.q.c2] 38) := ⟨_, rfl⟩
  obtain ⟨B0, X1⟩ := sn_boxes h1 h2 h3
  have z3 : W.heap.size = w.heap.size + 1 + 1 + 1 := sn_size h1 h2 h3
  have HB := Lib.hid B0
  have Z0 := hz.on B0 (Nat.le_refl _)
  have HZ := Lib.hid (fun (X : World) (hX : Below W.heap.size W X) => Z0.on hX (Nat.le_refl _))
  have HF := Lib.hid (fun (X : World) (hX : Below W.heap.size W X) => ((X1.on hX (Nat.le_refl _)).cells : X.cell? ⟨w.heap.size, 0, none⟩ = some (.slice z.p.a1 z.s.feeds.length z.p.c1) ∧ X.cell? ⟨w.heap.size, 1, none⟩ = some (.slice z.p.a2 z.s.brks.length z.p.c2) ∧ X.cell? ⟨w.heap.size, 2, none⟩ = some (.slice z.p.a3 z.s.loops.length z.p.c3) ∧ X.cell? ⟨w.heap.size, 3, none⟩ = some (.slice z.p.a4 z.s.racks.length z.p.c4) ∧ X.cell? ⟨w.heap.size, 4, none⟩ = some (.int .i64 z.s.sw) ∧ X.cell? ⟨w.heap.size, 5, none⟩ = some (.slice z.p.a5 z.s.links.length z.p.c5) ∧ X.cell? ⟨w.heap.size, 6, none⟩ = some (.slice z.p.a6 z.s.hosts.length z.p.c6) ∧ X.cell? ⟨w.heap.size + 1, 0, none⟩ = some (.slice z.A z.xs.length z.c) ∧ X.cell? ⟨w.heap.size + 1 + 1, 0, none⟩ = some (.slice z.q.a1 z.d.hosts.length z.q.c1) ∧ X.cell? ⟨w.heap.size + 1 + 1, 1, none⟩ = some (.slice z.q.a2 z.d.reps.length z.q.c2)))
  have HX := Lib.hid (fun (X : World) (hX : Below W.heap.size W X) => X1.on hX (Nat.le_refl _))
  have HKW := Lib.hid (Below.refl W.heap.size W)
  have hle := HB.out.size
  obtain ⟨n1, n2, n3, n4, n5, n6, n7, n8⟩ := hz.bounds
  have HR := Lib.hid hr
  clear hr
  clear hz B0 X1 z3 Z0
  obtain ⟨f0, f1, f2, f3, f4, f5, f6, g0, g1, g2⟩ := HF.out W HKW.out
  rw [h3, h2, h1] at f0 f1 f2 f3 f4 f5 f6 g0 g1 g2
  generalize hBB : w.heap.size = B at *
  go_enter Try.func5, Try.ntmps5
  rcases hd0 : decide ((z.s.feeds.length : Int) ≤ 60) with _ | _
  · have HDD := Lib.hid hd0
    obtain rfl : false = r := by
      rcases r with _ | _
      · rfl
      · exact absurd (HR.out.1 rfl) (fun h => by unfold FewZ at h; have h2 := of_decide_eq_false HDD.out; omega)
    clear HDD
    go_wp2_with (fail)
    rw [← h1, ← h2, ← h3]
    go_ret
    exact ⟨rfl, HB.out⟩
  rcases hd1 : decide ((z.s.brks.length : Int) ≤ 60) with _ | _
  · have HDD := Lib.hid hd1
    obtain rfl : false = r := by
      rcases r with _ | _
      · rfl
      · exact absurd (HR.out.1 rfl) (fun h => by unfold FewZ at h; have h2 := of_decide_eq_false HDD.out; omega)
    clear HDD
    go_wp2_with (fail)
    rw [← h1, ← h2, ← h3]
    go_ret
    exact ⟨rfl, HB.out⟩
  rcases hd2 : decide ((z.s.loops.length : Int) ≤ 60) with _ | _
  · have HDD := Lib.hid hd2
    obtain rfl : false = r := by
      rcases r with _ | _
      · rfl
      · exact absurd (HR.out.1 rfl) (fun h => by unfold FewZ at h; have h2 := of_decide_eq_false HDD.out; omega)
    clear HDD
    go_wp2_with (fail)
    rw [← h1, ← h2, ← h3]
    go_ret
    exact ⟨rfl, HB.out⟩
  rcases hd3 : decide ((z.s.racks.length : Int) ≤ 60) with _ | _
  · have HDD := Lib.hid hd3
    obtain rfl : false = r := by
      rcases r with _ | _
      · rfl
      · exact absurd (HR.out.1 rfl) (fun h => by unfold FewZ at h; have h2 := of_decide_eq_false HDD.out; omega)
    clear HDD
    go_wp2_with (fail)
    rw [← h1, ← h2, ← h3]
    go_ret
    exact ⟨rfl, HB.out⟩
  rcases hd4 : decide ((z.s.links.length : Int) ≤ 60) with _ | _
  · have HDD := Lib.hid hd4
    obtain rfl : false = r := by
      rcases r with _ | _
      · rfl
      · exact absurd (HR.out.1 rfl) (fun h => by unfold FewZ at h; have h2 := of_decide_eq_false HDD.out; omega)
    clear HDD
    go_wp2_with (fail)
    rw [← h1, ← h2, ← h3]
    go_ret
    exact ⟨rfl, HB.out⟩
  rcases hd5 : decide ((z.s.hosts.length : Int) ≤ 60) with _ | _
  · have HDD := Lib.hid hd5
    obtain rfl : false = r := by
      rcases r with _ | _
      · rfl
      · exact absurd (HR.out.1 rfl) (fun h => by unfold FewZ at h; have h2 := of_decide_eq_false HDD.out; omega)
    clear HDD
    go_wp2_with (fail)
    rw [← h1, ← h2, ← h3]
    go_ret
    exact ⟨rfl, HB.out⟩
  rcases hd6 : decide ((z.xs.length : Int) ≤ 60) with _ | _
  · have HDD := Lib.hid hd6
    obtain rfl : false = r := by
      rcases r with _ | _
      · rfl
      · exact absurd (HR.out.1 rfl) (fun h => by unfold FewZ at h; have h2 := of_decide_eq_false HDD.out; omega)
    clear HDD
    go_wp2_with (fail)
    rw [← h1, ← h2, ← h3]
    go_ret
    exact ⟨rfl, HB.out⟩
  rcases hd7 : decide ((z.d.hosts.length : Int) ≤ 60) with _ | _
  · have HDD := Lib.hid hd7
    obtain rfl : false = r := by
      rcases r with _ | _
      · rfl
      · exact absurd (HR.out.1 rfl) (fun h => by unfold FewZ at h; have h2 := of_decide_eq_false HDD.out; omega)
    clear HDD
    go_wp2_with (fail)
    rw [← h1, ← h2, ← h3]
    go_ret
    exact ⟨rfl, HB.out⟩
  rcases hd8 : decide ((z.d.reps.length : Int) ≤ 60) with _ | _
  · have HDD := Lib.hid hd8
    obtain rfl : false = r := by
      rcases r with _ | _
      · rfl
      · exact absurd (HR.out.1 rfl) (fun h => by unfold FewZ at h; have h2 := of_decide_eq_false HDD.out; omega)
    clear HDD
    go_wp2_with (fail)
    rw [← h1, ← h2, ← h3]
    go_ret
    exact ⟨rfl, HB.out⟩
  obtain rfl : true = r := by
    refine (HR.out.2 ?_).symm
    unfold FewZ
    have l0 := of_decide_eq_true hd0; have l1 := of_decide_eq_true hd1; have l2 := of_decide_eq_true hd2; have l3 := of_decide_eq_true hd3; have l4 := of_decide_eq_true hd4; have l5 := of_decide_eq_true hd5; have l6 := of_decide_eq_true hd6; have l7 := of_decide_eq_true hd7; have l8 := of_decide_eq_true hd8
    omega
  go_wp2_with (fail)
  rw [← h1, ← h2, ← h3]
  go_ret
  exact ⟨rfl, HB.out⟩
/-- The law's example. -/
def exD : SiteD := ⟨[300], [⟨0, 200, 0, 0⟩, ⟨0, 200, 0, 0⟩], [⟨250, 1⟩], [⟨0, 0, 0, 0⟩, ⟨0, 1, 0, 0⟩], 1, [], [⟨0, 4, 100, 50⟩, ⟨1, 4, 100, 50⟩]⟩
def exP (b : Nat) : SP := ⟨some ⟨b + 1 + 1 + 1, 0, none⟩, 1, some ⟨b + 1 + 1 + 1 + 1, 0, none⟩, 2, some ⟨b + 1 + 1 + 1 + 1 + 1, 0, none⟩, 1, some ⟨b + 1 + 1 + 1 + 1 + 1 + 1, 0, none⟩, 2, none, 0, some ⟨b + 1 + 1 + 1 + 1 + 1 + 1 + 1, 0, none⟩, 2⟩
def wxs : List (Svc × SvA) := [(⟨2, 2, 0, 0, 0, [], [], 0⟩, ⟨none, 0, none, 0⟩)]
def exW : WorldD := ⟨[⟨0, 0⟩, ⟨0, 0⟩], [⟨0, 0⟩, ⟨0, 1⟩]⟩
theorem rw_block14 {α : Type} {k : Nat} {F : α → Nat → Int} {l : List α} {w : World} {b : Nat} {T : TypeId} (h : w.heap[b]? = some (.cells (cellsV k (fun x i => .int .i64 (F x i)) l).toArray T (0, 0))) (hl : l.length ≤ maxLen) : Rw k F w (some ⟨b, 0, none⟩) l.length l := rv_int (rv_block h hl)
theorem ret7 {fn : Func} {a : Act} {W : World} {R : Ending → World → Prop} {b i : Nat} {x0 x1 x2 x3 x4 x5 x6 : Value} (hfn : fn.results = #[.cell i 29]) (hp : a.tmps[i]?.getD undef = .pointer (some ⟨b, 0, none⟩)) (hd : a.defers = [])
    (h : W.heap[b]? = some (.cells #[x0, x1, x2, x3, x4, x5, x6] 29 (0, 0))) (hR : R (.returned (.agg #[x0, x1, x2, x3, x4, x5, x6])) W) : bodyPost Try.prog fn R .ret a W := by
  have c0 : W.cell? ⟨b, 0, none⟩ = some x0 := cell_of h rfl; have c1 : W.cell? ⟨b, 1, none⟩ = some x1 := cell_of h rfl; have c2 : W.cell? ⟨b, 2, none⟩ = some x2 := cell_of h rfl; have c3 : W.cell? ⟨b, 3, none⟩ = some x3 := cell_of h rfl; have c4 : W.cell? ⟨b, 4, none⟩ = some x4 := cell_of h rfl; have c5 : W.cell? ⟨b, 5, none⟩ = some x5 := cell_of h rfl; have c6 : W.cell? ⟨b, 6, none⟩ = some x6 := cell_of h rfl
  exact bodyPost_ret (v := .agg #[x0, x1, x2, x3, x4, x5, x6]) (by simp [results, hfn, hp, go_sem, c0, c1, c2, c3, c4, c5, c6]) hd hR
theorem ret1w {fn : Func} {a : Act} {W : World} {R : Ending → World → Prop} {b i : Nat} {x0 : Value} (hfn : fn.results = #[.cell i 34]) (hp : a.tmps[i]?.getD undef = .pointer (some ⟨b, 0, none⟩)) (hd : a.defers = [])
    (h : W.heap[b]? = some (.cells #[x0] 34 (0, 0))) (hR : R (.returned (.agg #[x0])) W) : bodyPost Try.prog fn R .ret a W := by
  have c0 : W.cell? ⟨b, 0, none⟩ = some x0 := cell_of h rfl
  exact bodyPost_ret (v := .agg #[x0]) (by simp [results, hfn, hp, go_sem, c0]) hd hR
theorem ret2w {fn : Func} {a : Act} {W : World} {R : Ending → World → Prop} {b i : Nat} {x0 x1 : Value} (hfn : fn.results = #[.cell i 38]) (hp : a.tmps[i]?.getD undef = .pointer (some ⟨b, 0, none⟩)) (hd : a.defers = [])
    (h : W.heap[b]? = some (.cells #[x0, x1] 38 (0, 0))) (hR : R (.returned (.agg #[x0, x1])) W) : bodyPost Try.prog fn R .ret a W := by
  have c0 : W.cell? ⟨b, 0, none⟩ = some x0 := cell_of h rfl
  have c1 : W.cell? ⟨b, 1, none⟩ = some x1 := cell_of h rfl
  exact bodyPost_ret (v := .agg #[x0, x1]) (by simp [results, hfn, hp, go_sem, c0, c1]) hd hR
set_option maxHeartbeats 16000000 in
theorem c_site (w : World) : Calls Try.prog 9 #[] w fun e w' => e = .returned (siV (exP w.heap.size) exD) ∧ SiAt w' (exP w.heap.size) exD ∧ Below w.heap.size w w' := by
  obtain ⟨E0, h0⟩ : ∃ X, X = w.alloc (.cells #[.slice (some ⟨w.heap.size + 1 + 1 + 1, 0, none⟩) 1 1, .slice (some ⟨w.heap.size + 1 + 1 + 1 + 1, 0, none⟩) 2 2, .slice (some ⟨w.heap.size + 1 + 1 + 1 + 1 + 1, 0, none⟩) 1 1, .slice (some ⟨w.heap.size + 1 + 1 + 1 + 1 + 1 + 1, 0, none⟩) 2 2, .int .i64 1, .slice none 0 0, .slice (some ⟨w.heap.size + 1 + 1 + 1 + 1 + 1 + 1 + 1, 0, none⟩) 2 2] 29) := ⟨_, rfl⟩
  obtain ⟨E1, h1⟩ : ∃ X, X = E0.alloc (.cells #[.int .i64 0, .int .i64 4, .int .i64 100, .int .i64 50] 60) := ⟨_, rfl⟩
  obtain ⟨E2, h2⟩ : ∃ X, X = E1.alloc (.cells #[.int .i64 1, .int .i64 4, .int .i64 100, .int .i64 50] 60) := ⟨_, rfl⟩
  obtain ⟨E3, h3⟩ : ∃ X, X = E2.alloc (.cells #[.int .i64 300] 62) := ⟨_, rfl⟩
  obtain ⟨E4, h4⟩ : ∃ X, X = E3.alloc (.cells #[.int .i64 0, .int .i64 200, .int .i64 0, .int .i64 0, .int .i64 0, .int .i64 200, .int .i64 0, .int .i64 0] 64) := ⟨_, rfl⟩
  obtain ⟨E5, h5⟩ : ∃ X, X = E4.alloc (.cells #[.int .i64 250, .int .i64 1] 66) := ⟨_, rfl⟩
  obtain ⟨E6, h6⟩ : ∃ X, X = E5.alloc (.cells #[.int .i64 0, .int .i64 0, .int .i64 0, .int .i64 0, .int .i64 0, .int .i64 1, .int .i64 0, .int .i64 0] 68) := ⟨_, rfl⟩
  obtain ⟨E7, h7⟩ : ∃ X, X = E6.alloc (.cells #[.int .i64 0, .int .i64 4, .int .i64 100, .int .i64 50, .int .i64 1, .int .i64 4, .int .i64 100, .int .i64 50] 60) := ⟨_, rfl⟩
  have z0 : E0.heap.size = w.heap.size + 1 := by rw [h0, World.size_alloc]
  have z1 : E1.heap.size = w.heap.size + 1 + 1 := by rw [h1, World.size_alloc, z0]
  have z2 : E2.heap.size = w.heap.size + 1 + 1 + 1 := by rw [h2, World.size_alloc, z1]
  have z3 : E3.heap.size = w.heap.size + 1 + 1 + 1 + 1 := by rw [h3, World.size_alloc, z2]
  have z4 : E4.heap.size = w.heap.size + 1 + 1 + 1 + 1 + 1 := by rw [h4, World.size_alloc, z3]
  have z5 : E5.heap.size = w.heap.size + 1 + 1 + 1 + 1 + 1 + 1 := by rw [h5, World.size_alloc, z4]
  have z6 : E6.heap.size = w.heap.size + 1 + 1 + 1 + 1 + 1 + 1 + 1 := by rw [h6, World.size_alloc, z5]
  have z7 : E7.heap.size = w.heap.size + 1 + 1 + 1 + 1 + 1 + 1 + 1 + 1 := by rw [h7, World.size_alloc, z6]
  have g0 : E0.heap[w.heap.size]? = some (.cells #[.slice (some ⟨w.heap.size + 1 + 1 + 1, 0, none⟩) 1 1, .slice (some ⟨w.heap.size + 1 + 1 + 1 + 1, 0, none⟩) 2 2, .slice (some ⟨w.heap.size + 1 + 1 + 1 + 1 + 1, 0, none⟩) 1 1, .slice (some ⟨w.heap.size + 1 + 1 + 1 + 1 + 1 + 1, 0, none⟩) 2 2, .int .i64 1, .slice none 0 0, .slice (some ⟨w.heap.size + 1 + 1 + 1 + 1 + 1 + 1 + 1, 0, none⟩) 2 2] 29 (0, 0)) := by rw [h0]; exact heap_alloc_new _ _
  have G0 : E7.heap[w.heap.size]? = some (.cells #[.slice (some ⟨w.heap.size + 1 + 1 + 1, 0, none⟩) 1 1, .slice (some ⟨w.heap.size + 1 + 1 + 1 + 1, 0, none⟩) 2 2, .slice (some ⟨w.heap.size + 1 + 1 + 1 + 1 + 1, 0, none⟩) 1 1, .slice (some ⟨w.heap.size + 1 + 1 + 1 + 1 + 1 + 1, 0, none⟩) 2 2, .int .i64 1, .slice none 0 0, .slice (some ⟨w.heap.size + 1 + 1 + 1 + 1 + 1 + 1 + 1, 0, none⟩) 2 2] 29 (0, 0)) := by rw [h7]; refine old_heap _ ?_; rw [h6]; refine old_heap _ ?_; rw [h5]; refine old_heap _ ?_; rw [h4]; refine old_heap _ ?_; rw [h3]; refine old_heap _ ?_; rw [h2]; refine old_heap _ ?_; rw [h1]; refine old_heap _ ?_; exact g0
  have g1 : E1.heap[w.heap.size + 1]? = some (.cells #[.int .i64 0, .int .i64 4, .int .i64 100, .int .i64 50] 60 (0, 0)) := by rw [← z0]; rw [h1]; exact heap_alloc_new _ _
  have G1 : E7.heap[w.heap.size + 1]? = some (.cells #[.int .i64 0, .int .i64 4, .int .i64 100, .int .i64 50] 60 (0, 0)) := by rw [h7]; refine old_heap _ ?_; rw [h6]; refine old_heap _ ?_; rw [h5]; refine old_heap _ ?_; rw [h4]; refine old_heap _ ?_; rw [h3]; refine old_heap _ ?_; rw [h2]; refine old_heap _ ?_; exact g1
  have g2 : E2.heap[w.heap.size + 1 + 1]? = some (.cells #[.int .i64 1, .int .i64 4, .int .i64 100, .int .i64 50] 60 (0, 0)) := by rw [← z1]; rw [h2]; exact heap_alloc_new _ _
  have G2 : E7.heap[w.heap.size + 1 + 1]? = some (.cells #[.int .i64 1, .int .i64 4, .int .i64 100, .int .i64 50] 60 (0, 0)) := by rw [h7]; refine old_heap _ ?_; rw [h6]; refine old_heap _ ?_; rw [h5]; refine old_heap _ ?_; rw [h4]; refine old_heap _ ?_; rw [h3]; refine old_heap _ ?_; exact g2
  have g3 : E3.heap[w.heap.size + 1 + 1 + 1]? = some (.cells #[.int .i64 300] 62 (0, 0)) := by rw [← z2]; rw [h3]; exact heap_alloc_new _ _
  have G3 : E7.heap[w.heap.size + 1 + 1 + 1]? = some (.cells #[.int .i64 300] 62 (0, 0)) := by rw [h7]; refine old_heap _ ?_; rw [h6]; refine old_heap _ ?_; rw [h5]; refine old_heap _ ?_; rw [h4]; refine old_heap _ ?_; exact g3
  have g4 : E4.heap[w.heap.size + 1 + 1 + 1 + 1]? = some (.cells #[.int .i64 0, .int .i64 200, .int .i64 0, .int .i64 0, .int .i64 0, .int .i64 200, .int .i64 0, .int .i64 0] 64 (0, 0)) := by rw [← z3]; rw [h4]; exact heap_alloc_new _ _
  have G4 : E7.heap[w.heap.size + 1 + 1 + 1 + 1]? = some (.cells #[.int .i64 0, .int .i64 200, .int .i64 0, .int .i64 0, .int .i64 0, .int .i64 200, .int .i64 0, .int .i64 0] 64 (0, 0)) := by rw [h7]; refine old_heap _ ?_; rw [h6]; refine old_heap _ ?_; rw [h5]; refine old_heap _ ?_; exact g4
  have g5 : E5.heap[w.heap.size + 1 + 1 + 1 + 1 + 1]? = some (.cells #[.int .i64 250, .int .i64 1] 66 (0, 0)) := by rw [← z4]; rw [h5]; exact heap_alloc_new _ _
  have G5 : E7.heap[w.heap.size + 1 + 1 + 1 + 1 + 1]? = some (.cells #[.int .i64 250, .int .i64 1] 66 (0, 0)) := by rw [h7]; refine old_heap _ ?_; rw [h6]; refine old_heap _ ?_; exact g5
  have g6 : E6.heap[w.heap.size + 1 + 1 + 1 + 1 + 1 + 1]? = some (.cells #[.int .i64 0, .int .i64 0, .int .i64 0, .int .i64 0, .int .i64 0, .int .i64 1, .int .i64 0, .int .i64 0] 68 (0, 0)) := by rw [← z5]; rw [h6]; exact heap_alloc_new _ _
  have G6 : E7.heap[w.heap.size + 1 + 1 + 1 + 1 + 1 + 1]? = some (.cells #[.int .i64 0, .int .i64 0, .int .i64 0, .int .i64 0, .int .i64 0, .int .i64 1, .int .i64 0, .int .i64 0] 68 (0, 0)) := by rw [h7]; refine old_heap _ ?_; exact g6
  have g7 : E7.heap[w.heap.size + 1 + 1 + 1 + 1 + 1 + 1 + 1]? = some (.cells #[.int .i64 0, .int .i64 4, .int .i64 100, .int .i64 50, .int .i64 1, .int .i64 4, .int .i64 100, .int .i64 50] 60 (0, 0)) := by rw [← z6]; rw [h7]; exact heap_alloc_new _ _
  have G7 : E7.heap[w.heap.size + 1 + 1 + 1 + 1 + 1 + 1 + 1]? = some (.cells #[.int .i64 0, .int .i64 4, .int .i64 100, .int .i64 50, .int .i64 1, .int .i64 4, .int .i64 100, .int .i64 50] 60 (0, 0)) := by exact g7
  have BN : Below w.heap.size w E7 := by rw [h7]; refine Below.alloc ?_ (by omega) _; rw [h6]; refine Below.alloc ?_ (by omega) _; rw [h5]; refine Below.alloc ?_ (by omega) _; rw [h4]; refine Below.alloc ?_ (by omega) _; rw [h3]; refine Below.alloc ?_ (by omega) _; rw [h2]; refine Below.alloc ?_ (by omega) _; rw [h1]; refine Below.alloc ?_ (by omega) _; rw [h0]; exact (Below.refl _ _).alloc (Nat.le_refl _) _
  have HG := Lib.hid (And.intro G0 (And.intro G1 (And.intro G2 (And.intro G3 (And.intro G4 (And.intro G5 (And.intro G6 (G7))))))))
  have HB := Lib.hid BN
  have HE := Lib.hid h7
  clear BN g0 G0 z0 g1 G1 z1 g2 G2 z2 g3 G3 z3 g4 G4 z4 g5 G5 z5 g6 G6 z6 g7 G7 z7 h7
  subst h6 h5 h4 h3 h2 h1 h0
  go_enter Try.func9, Try.ntmps9
  go_wp2_with (fail)
  rw [← HE.out]
  obtain ⟨G0, G1, G2, G3, G4, G5, G6, G7⟩ := HG.out
  exact ret7 (i := 0) (b := w.heap.size) rfl rfl rfl G0 ⟨rfl, ⟨rw_block14 (α := Int) (k := 1) (F := inF) (l := [300]) G3 (by simp [maxLen]), rw_block14 (α := Brk) (k := 4) (F := brkF) (l := [⟨0, 200, 0, 0⟩, ⟨0, 200, 0, 0⟩]) G4 (by simp [maxLen]), rw_block14 (α := Lp) (k := 2) (F := lpF) (l := [⟨250, 1⟩]) G5 (by simp [maxLen]), rw_block14 (α := Rk) (k := 4) (F := rkF) (l := [⟨0, 0, 0, 0⟩, ⟨0, 1, 0, 0⟩]) G6 (by simp [maxLen]), Rw.nil _ _, rw_block14 (α := Hs) (k := 4) (F := hsF) (l := [⟨0, 4, 100, 50⟩, ⟨1, 4, 100, 50⟩]) G7 (by simp [maxLen])⟩, HB.out⟩
theorem wxs_at {X : World} {b : Nat} (h : X.heap[b]? = some (.cells (cellsV 8 svV wxs).toArray 72 (0, 0))) : WiAt X (some ⟨b, 0, none⟩) 1 wxs := by
  refine ⟨rv_block (l := wxs) h (by simp [wxs, maxLen]), fun x hx => ?_⟩
  rcases List.mem_cons.1 hx with rfl | hx
  · exact ⟨Rv.nil _, Rv.nil _, by decide⟩
  · cases hx
set_option maxHeartbeats 8000000 in
theorem c_wish (w : World) : Calls Try.prog 10 #[] w fun e w' => e = .returned (.agg #[.slice (some ⟨w.heap.size + 1, 0, none⟩) 1 1]) ∧ WiAt w' (some ⟨w.heap.size + 1, 0, none⟩) 1 wxs ∧ Below w.heap.size w w' := by
  obtain ⟨E0, h0⟩ : ∃ X, X = w.alloc (.cells #[.slice (some ⟨w.heap.size + 1, 0, none⟩) 1 1] 34) := ⟨_, rfl⟩
  obtain ⟨E1, h1⟩ : ∃ X, X = E0.alloc (.cells #[.int .i64 2, .int .i64 2, .int .i64 0, .int .u8 0, .int .i64 0, .slice none 0 0, .slice none 0 0, .int .i64 0] 72) := ⟨_, rfl⟩
  have z0 : E0.heap.size = w.heap.size + 1 := by rw [h0, World.size_alloc]
  have z1 : E1.heap.size = w.heap.size + 1 + 1 := by rw [h1, World.size_alloc, z0]
  have g0 : E0.heap[w.heap.size]? = some (.cells #[.slice (some ⟨w.heap.size + 1, 0, none⟩) 1 1] 34 (0, 0)) := by rw [h0]; exact heap_alloc_new _ _
  have G0 : E1.heap[w.heap.size]? = some (.cells #[.slice (some ⟨w.heap.size + 1, 0, none⟩) 1 1] 34 (0, 0)) := by rw [h1]; refine old_heap _ ?_; exact g0
  have g1 : E1.heap[w.heap.size + 1]? = some (.cells #[.int .i64 2, .int .i64 2, .int .i64 0, .int .u8 0, .int .i64 0, .slice none 0 0, .slice none 0 0, .int .i64 0] 72 (0, 0)) := by rw [← z0]; rw [h1]; exact heap_alloc_new _ _
  have G1 : E1.heap[w.heap.size + 1]? = some (.cells #[.int .i64 2, .int .i64 2, .int .i64 0, .int .u8 0, .int .i64 0, .slice none 0 0, .slice none 0 0, .int .i64 0] 72 (0, 0)) := by exact g1
  have BN : Below w.heap.size w E1 := by rw [h1]; refine Below.alloc ?_ (by omega) _; rw [h0]; exact (Below.refl _ _).alloc (Nat.le_refl _) _
  have HG := Lib.hid (And.intro G0 (G1))
  have HB := Lib.hid BN
  have HE := Lib.hid h1
  clear BN g0 G0 z0 g1 G1 z1 h1
  subst h0
  go_enter Try.func10, Try.ntmps10
  go_wp2_with (fail)
  rw [← HE.out]
  obtain ⟨G0, G1⟩ := HG.out
  exact ret1w (i := 0) (b := w.heap.size) rfl rfl rfl G0 ⟨rfl, wxs_at G1, HB.out⟩
theorem made2 : (madeCells (.agg #[.int .u8 0, .int .i64 0] : Value).cells (2 * 2)).toList = cellsV 2 hstV exW.hosts := by kernel_rfl
theorem own_cur2 {w : World} {base n g : Nat} {T : TypeId} {xs : List Value} (h : w.ownsRow base T 2 (.slice (some ⟨g, 0, none⟩) n n) n xs) : w.heap[g]? = some (.cells xs.toArray T (0, 0)) := by
  obtain ⟨k1, ⟨e, -⟩ | ⟨g', cap', cur, e, k3, k4, k5, k6, k7, k8⟩⟩ := h
  · cases e
  · injection e with e1 _ e2
    injection e1 with e1
    injection e1 with e1
    subst e1 e2
    rw [k4]
    have : cur = xs.toArray := by
      apply Array.ext'
      rw [← k8, List.take_of_length_le (by simp; omega)]
    rw [this]
set_option maxHeartbeats 8000000 in
theorem c_example (w : World) : Calls Try.prog 11 #[] w fun e w' => ∃ p, e = .returned (.agg (woA p exW)) ∧ OwnW w.heap.size w' p exW ∧ Below w.heap.size w w' := by
  obtain ⟨i0, hi0, hz0, hz1, hz2⟩ := info_parts hst_info
  obtain ⟨E0, h0⟩ : ∃ X, X = w.alloc (.cells #[.slice none 0 0, .slice none 0 0] 38) := ⟨_, rfl⟩
  have B0 : Below w.heap.size w E0 := by rw [h0]; exact (Below.refl _ _).alloc (Nat.le_refl _) _
  have b0 : E0.heap[w.heap.size]? = some (.cells #[.slice none 0 0, .slice none 0 0] 38 (0, 0)) := by rw [h0]; exact box_new _ _ _
  have HS := Lib.hid (show E0.heap.size = w.heap.size + 1 by rw [h0, World.size_alloc])
  have HB := Lib.hid B0
  have HB0 := Lib.hid b0
  clear B0 b0
  go_enter Try.func11, Try.ntmps11
  go_wp2_with (at_make; rw [← h0]; refine wpList_make_full (P := Try.prog) _ rfl _ _ 35 rfl E0.heap.size 99 i0 (.agg #[.int .u8 0, .int .i64 0]) 2 Try.underlying35 hi0 hz0 hz1 .i64 .i64 _ _ 2 rfl rfl rfl rfl (by rw [hz2]; decide) (by decide) (Nat.le_refl _) ?_; intro w1 ho1 hg1; have HR1 := Lib.hid (own_cur2 ho1); have HK1 := Lib.hid ((Below.refl E0.heap.size E0).grown hg1 (Nat.le_refl _) (fun k hk => by cases hk)); have HKY := Lib.hid (show Below E0.heap.size E0 (w1.alloc (.cells #[.int .i64 0, .int .i64 0, .int .i64 0, .int .i64 1] 74)) from HK1.out.alloc HK1.out.size _); have v0 : (w1.alloc (.cells #[.int .i64 0, .int .i64 0, .int .i64 0, .int .i64 1] 74)).cell? ⟨w.heap.size, 0, none⟩ = some (.slice none 0 0) := cell_of (box_on HB0.out HKY.out (Nat.le_refl _)) rfl; have v1 : (w1.alloc (.cells #[.int .i64 0, .int .i64 0, .int .i64 0, .int .i64 1] 74)).cell? ⟨w.heap.size, 1, none⟩ = some (.slice none 0 0) := cell_of (box_on HB0.out HKY.out (Nat.le_refl _)) rfl; have u0 : (w1.alloc (.cells #[.int .i64 0, .int .i64 0, .int .i64 0, .int .i64 1] 74)).frozen? ⟨w.heap.size, 0, none⟩ = false := frz (box_on HB0.out HKY.out (Nat.le_refl _)) 0; have u1 : (w1.alloc (.cells #[.int .i64 0, .int .i64 0, .int .i64 0, .int .i64 1] 74)).frozen? ⟨w.heap.size, 1, none⟩ = false := frz (box_on HB0.out HKY.out (Nat.le_refl _)) 1; clear ho1 hg1)
  have e1 := HS.out
  have e2 := HK1.out.size
  have hrow : (w1.alloc (.cells #[.int .i64 0, .int .i64 0, .int .i64 0, .int .i64 1] 74)).heap[w.heap.size + 1]? = some (.cells (cellsV 2 hstV exW.hosts).toArray 99 (0, 0)) := by
    have h := HR1.out
    rw [made2, e1] at h
    exact old_heap _ h
  refine ret2w (i := 0) (b := w.heap.size) rfl rfl rfl (row_store2 (box_on HB0.out HKY.out (Nat.le_refl _)) _ _) ⟨⟨some ⟨w.heap.size + 1, 0, none⟩, 2, some ⟨w1.heap.size, 0, none⟩, 2⟩, rfl, ⟨own_block2 (n := 2) (by omega) (set_else (set_else hrow (by omega)) (by omega)) rfl (by decide), own_block2 (n := 2) (by omega) (set_else (set_else (box_new _ _ _) (by omega)) (by omega)) rfl (by decide)⟩, ?_⟩
  exact (((HB.out.trans (HKY.out.mono HB.out.size)).setCell (p := ⟨w.heap.size, 0, none⟩) (Nat.le_refl _) _).setCell (p := ⟨w.heap.size, 1, none⟩) (Nat.le_refl _) _)
theorem exWish : WishOk (svs wxs) := by
  refine ⟨by decide, fun i s h => ?_, by decide⟩
  match i, h with
  | 0, h => obtain rfl : _ = s := Option.some.inj h; decide +kernel
theorem exOk : WorldOk exD (svs wxs) exW := ⟨by decide +kernel, exWish, by decide, by decide +kernel, by decide, by decide +kernel, by decide +kernel⟩
def exZ (p : SP) (A : Option Addr) (c : Nat) (q : WP) : Sn := ⟨p, exD, A, c, wxs, q, exW⟩
theorem exZ_ok (p : SP) (A : Option Addr) (c : Nat) (q : WP) : true = true ↔ (exZ p A c q).Ok := ⟨fun _ => exOk, fun _ => rfl⟩
theorem ex_heat (p : SP) (A : Option Addr) (c : Nat) (q : WP) : heatV (exZ p A c q) true 0 = 400 := by
  show loadN exD (svs wxs) exW (isLoop exD 0) = 400; decide +kernel
theorem ex_heat1 (p : SP) (A : Option Addr) (c : Nat) (q : WP) : heatV (exZ p A c q) true 1 = 0 := by
  show loadN exD (svs wxs) exW (isLoop exD 1) = 0; decide +kernel
theorem ex_lon : lonE true exD 0 0 200 = 0 ∧ lonV true 400 exD 0 0 200 = 2 := by
  constructor
  · decide +kernel
  · have h0 : hdE true exD 0 0 1000 = 0 := by decide +kernel
    rw [lonV_yes (by decide +kernel)]
    have e1000 : (1000 : Int).toNat = 1000 := by decide
    have hg : ∀ i : Nat, i ≤ 3 → (hdL true 400 exD 0 0 1000)[i]? = some (v6.lvE 250 0 ((v6.amts [(0, 1, 1)] [List.replicate 1000 400] 1000).take i)) := by
      intro i hi
      unfold hdL
      rw [if_pos h0]
      exact crs_get _ _ _ _ _ (by omega)
    have hl : (hdL true 400 exD 0 0 1000).length = 1001 := by rw [hdL_len h0, e1000]
    have ht : ∀ i : Nat, i ≤ 3 → (v6.amts [(0, 1, 1)] [List.replicate 1000 400] 1000).take i = ([0, 400, 400] : List Int).take i := by
      intro i hi
      have h3 : (v6.amts [(0, 1, 1)] [List.replicate 1000 400] 1000).take 3 = [0, 400, 400] := by decide +kernel
      rw [← h3, List.take_take, Nat.min_eq_left hi]
    rw [last_found (m := 3) hl (fun j y hj hy => by
      rw [hg j (by omega), ht j (by omega)] at hy
      injection hy with hy
      subst hy
      match j, hj with
      | 0, _ => decide +kernel
      | 1, _ => decide +kernel
      | 2, _ => decide +kernel) (by omega) (.inr ⟨_, by rw [hg 3 (by omega), ht 3 (by omega)], by decide +kernel⟩)]
    rfl
theorem c_siteTo (w : World) : Calls Try.prog 9 #[] w fun e w' => ∃ p, e = .returned (siV p exD) ∧ SiAt w' p exD ∧ Below w.heap.size w w' := (c_site w).mono fun e w' h => ⟨_, h.1, h.2.1, h.2.2⟩
theorem c_wishTo (w : World) : Calls Try.prog 10 #[] w fun e w' => ∃ A c, e = .returned (.agg #[.slice A wxs.length c]) ∧ WiAt w' A c wxs ∧ Below w.heap.size w w' := (c_wish w).mono fun e w' h => ⟨_, _, h.1, h.2.1, h.2.2⟩
theorem c_exTo (w : World) : Calls Try.prog 11 #[] w fun e w' => ∃ p, e = .returned (.agg #[.slice p.a1 exW.hosts.length p.c1, .slice p.a2 exW.reps.length p.c2]) ∧ WoAt w' p exW ∧ Below w.heap.size w w' := by
  refine (c_example w).mono ?_
  rintro e w' ⟨p, rfl, h, b⟩
  exact ⟨p, rfl, h.wo (by decide), b⟩
theorem exAfter (p : SP) (A : Option Addr) (c : Nat) (q : WP) (k start n r a : Int) (hk : k = 0) (hr : hdE true exD k start n = r) (ha : afV true 400 exD k start n = a) (w : World) (h1 : SiAt w p exD) (h2 : WiAt w A c wxs) (h3 : WoAt w q exW) :
    Calls Try.prog 8 #[.agg #[.slice p.a1 exD.feeds.length p.c1, .slice p.a2 exD.brks.length p.c2, .slice p.a3 exD.loops.length p.c3, .slice p.a4 exD.racks.length p.c4, .int .i64 exD.sw, .slice p.a5 exD.links.length p.c5, .slice p.a6 exD.hosts.length p.c6], .agg #[.slice A wxs.length c], .agg #[.slice q.a1 exW.hosts.length q.c1, .slice q.a2 exW.reps.length q.c2], .int .i64 k, .int .i64 start, .int .i64 n] w fun e w' => e = .returned (.tuple #[.int .i64 a, .int .i64 r]) ∧ Below w.heap.size w w' := c_coAfter (exZ p A c q) true (exZ_ok p A c q) k start n w ⟨h1, h2, h3⟩ 400 (by subst hk; exact ex_heat p A c q) r hr a ha
theorem exLon (p : SP) (A : Option Addr) (c : Nat) (q : WP) (start lim r a : Int) (hr : lonE true exD 0 start lim = r) (ha : lonV true 400 exD 0 start lim = a) (w : World) (h1 : SiAt w p exD) (h2 : WiAt w A c wxs) (h3 : WoAt w q exW) :
    Calls Try.prog 12 #[.agg #[.slice p.a1 exD.feeds.length p.c1, .slice p.a2 exD.brks.length p.c2, .slice p.a3 exD.loops.length p.c3, .slice p.a4 exD.racks.length p.c4, .int .i64 exD.sw, .slice p.a5 exD.links.length p.c5, .slice p.a6 exD.hosts.length p.c6], .agg #[.slice A wxs.length c], .agg #[.slice q.a1 exW.hosts.length q.c1, .slice q.a2 exW.reps.length q.c2], .int .i64 0, .int .i64 start, .int .i64 lim] w fun e w' => e = .returned (.tuple #[.int .i64 a, .int .i64 r]) ∧ Below w.heap.size w w' := c_coLongest (exZ p A c q) true (exZ_ok p A c q) 0 start lim w ⟨h1, h2, h3⟩ 400 (ex_heat p A c q) r hr a ha
theorem exHeat (p : SP) (A : Option Addr) (c : Nat) (q : WP) (k v : Int) (hv : heatV (exZ p A c q) true k = v) (w : World) (h1 : SiAt w p exD) (h2 : WiAt w A c wxs) (h3 : WoAt w q exW) :
    Calls Try.prog 13 #[.agg #[.slice p.a1 exD.feeds.length p.c1, .slice p.a2 exD.brks.length p.c2, .slice p.a3 exD.loops.length p.c3, .slice p.a4 exD.racks.length p.c4, .int .i64 exD.sw, .slice p.a5 exD.links.length p.c5, .slice p.a6 exD.hosts.length p.c6], .agg #[.slice A wxs.length c], .agg #[.slice q.a1 exW.hosts.length q.c1, .slice q.a2 exW.reps.length q.c2], .int .i64 k] w fun e w' => e = .returned (.int .i64 v) ∧ Below w.heap.size w w' := c_coHeat (exZ p A c q) true (exZ_ok p A c q) k w ⟨h1, h2, h3⟩ v hv
theorem ex_a2 : hdE true exD 0 0 2 = 0 ∧ afV true 400 exD 0 0 2 = 150 := by constructor <;> decide +kernel
set_option maxHeartbeats 16000000 in
theorem c_live (w : World) : Calls Try.prog 6 #[] w fun e w' => e = .returned (.bool true) ∧ Below w.heap.size w w' := by
  have HBw := Lib.hid (Below.refl w.heap.size w)
  go_enter Try.func6, Try.ntmps6
  go_wp2_with (fail)
  go_at_call 9
  refine (c_siteTo w).mono ?_
  rintro e v1 ⟨p, rfl, h1, bb⟩
  have HBv1 := Lib.hid (below_join HBw.out bb HBw.out.size)
  have S1v1 := Lib.hid h1; clear h1
  clear bb
  unfold siV
  go_wp2_with (fail)
  go_at_call 10
  refine (c_wishTo v1).mono ?_
  rintro e v2 ⟨A, c, rfl, h1, bb⟩
  have HBv2 := Lib.hid (below_join HBv1.out bb HBv1.out.size)
  have S1v2 := Lib.hid (S1v1.out.on bb (Nat.le_refl _))
  have S2v2 := Lib.hid h1; clear h1
  clear bb
  go_wp2_with (fail)
  go_at_call 11
  refine (c_exTo v2).mono ?_
  rintro e v3 ⟨q, rfl, h1, bb⟩
  have HBv3 := Lib.hid (below_join HBv2.out bb HBv2.out.size)
  have S1v3 := Lib.hid (S1v2.out.on bb (Nat.le_refl _))
  have S2v3 := Lib.hid (S2v2.out.on bb (Nat.le_refl _))
  have S3v3 := Lib.hid h1; clear h1
  clear bb
  go_wp2_with (fail)
  go_at_call 8
  refine (exAfter p A c q 0 0 2 0 150 rfl ex_a2.1 ex_a2.2 v3 S1v3.out S2v3.out S3v3.out).mono ?_
  rintro e v4 ⟨rfl, bb⟩
  have HBv4 := Lib.hid (below_join HBv3.out bb HBv3.out.size)
  have S1v4 := Lib.hid (S1v3.out.on bb (Nat.le_refl _))
  have S2v4 := Lib.hid (S2v3.out.on bb (Nat.le_refl _))
  have S3v4 := Lib.hid (S3v3.out.on bb (Nat.le_refl _))
  clear bb
  go_wp2_with (fail)
  go_at_call 9
  refine (c_siteTo v4).mono ?_
  rintro e v5 ⟨p, rfl, h1, bb⟩
  have HBv5 := Lib.hid (below_join HBv4.out bb HBv4.out.size)
  have S1v5 := Lib.hid h1; clear h1
  clear bb
  unfold siV
  go_wp2_with (fail)
  go_at_call 10
  refine (c_wishTo v5).mono ?_
  rintro e v6 ⟨A, c, rfl, h1, bb⟩
  have HBv6 := Lib.hid (below_join HBv5.out bb HBv5.out.size)
  have S1v6 := Lib.hid (S1v5.out.on bb (Nat.le_refl _))
  have S2v6 := Lib.hid h1; clear h1
  clear bb
  go_wp2_with (fail)
  go_at_call 11
  refine (c_exTo v6).mono ?_
  rintro e v7 ⟨q, rfl, h1, bb⟩
  have HBv7 := Lib.hid (below_join HBv6.out bb HBv6.out.size)
  have S1v7 := Lib.hid (S1v6.out.on bb (Nat.le_refl _))
  have S2v7 := Lib.hid (S2v6.out.on bb (Nat.le_refl _))
  have S3v7 := Lib.hid h1; clear h1
  clear bb
  go_wp2_with (fail)
  go_at_call 12
  refine (exLon p A c q 0 200 0 2 ex_lon.1 ex_lon.2 v7 S1v7.out S2v7.out S3v7.out).mono ?_
  rintro e v8 ⟨rfl, bb⟩
  have HBv8 := Lib.hid (below_join HBv7.out bb HBv7.out.size)
  have S1v8 := Lib.hid (S1v7.out.on bb (Nat.le_refl _))
  have S2v8 := Lib.hid (S2v7.out.on bb (Nat.le_refl _))
  have S3v8 := Lib.hid (S3v7.out.on bb (Nat.le_refl _))
  clear bb
  go_wp2_with (fail)
  go_at_call 9
  refine (c_siteTo v8).mono ?_
  rintro e v9 ⟨p, rfl, h1, bb⟩
  have HBv9 := Lib.hid (below_join HBv8.out bb HBv8.out.size)
  have S1v9 := Lib.hid h1; clear h1
  clear bb
  unfold siV
  go_wp2_with (fail)
  go_at_call 10
  refine (c_wishTo v9).mono ?_
  rintro e v10 ⟨A, c, rfl, h1, bb⟩
  have HBv10 := Lib.hid (below_join HBv9.out bb HBv9.out.size)
  have S1v10 := Lib.hid (S1v9.out.on bb (Nat.le_refl _))
  have S2v10 := Lib.hid h1; clear h1
  clear bb
  go_wp2_with (fail)
  go_at_call 11
  refine (c_exTo v10).mono ?_
  rintro e v11 ⟨q, rfl, h1, bb⟩
  have HBv11 := Lib.hid (below_join HBv10.out bb HBv10.out.size)
  have S1v11 := Lib.hid (S1v10.out.on bb (Nat.le_refl _))
  have S2v11 := Lib.hid (S2v10.out.on bb (Nat.le_refl _))
  have S3v11 := Lib.hid h1; clear h1
  clear bb
  go_wp2_with (fail)
  go_at_call 13
  refine (exHeat p A c q 0 400 (ex_heat p A c q) v11 S1v11.out S2v11.out S3v11.out).mono ?_
  rintro e v12 ⟨rfl, bb⟩
  have HBv12 := Lib.hid (below_join HBv11.out bb HBv11.out.size)
  have S1v12 := Lib.hid (S1v11.out.on bb (Nat.le_refl _))
  have S2v12 := Lib.hid (S2v11.out.on bb (Nat.le_refl _))
  have S3v12 := Lib.hid (S3v11.out.on bb (Nat.le_refl _))
  clear bb
  go_wp2_with (fail)
  go_ret
  exact ⟨rfl, HBv12.out⟩
end Go.Proofs.Ytpokpgnclohiiaa

namespace Go.Proofs.Ytpokpgnclohiiaa
open Go.RowKit
set_option maxRecDepth 100000
set_option linter.unusedVariables false
set_option linter.unusedSimpArgs false

def zS (p : SP) (s : SiteD) : Sn := ⟨p, s, none, 0, [], ⟨none, 0, none, 0⟩, ⟨[], []⟩⟩
def FewS (s : SiteD) : Prop := s.feeds.length ≤ 60 ∧ s.brks.length ≤ 60 ∧ s.loops.length ≤ 60 ∧ s.racks.length ≤ 60 ∧ s.links.length ≤ 60 ∧ s.hosts.length ≤ 60
theorem zS_at {w : World} {p : SP} {s : SiteD} (h : SiAt w p s) : SnAt w (zS p s) := ⟨h, ⟨Rv.nil _, fun x hx => by cases hx⟩, ⟨Rv.nil _, Rv.nil _, fun h hh => by cases hh⟩⟩
theorem fewS_iff (p : SP) (s : SiteD) : FewZ (zS p s) ↔ FewS s := by
  unfold FewZ FewS zS
  simp
theorem c_fewS (p : SP) (s : SiteD) (r : Bool) (hr : r = true ↔ FewS s) (w : World) (h : SiAt w p s) :
    Calls Try.prog 5 #[.agg #[.slice p.a1 s.feeds.length p.c1, .slice p.a2 s.brks.length p.c2, .slice p.a3 s.loops.length p.c3, .slice p.a4 s.racks.length p.c4, .int .i64 s.sw, .slice p.a5 s.links.length p.c5, .slice p.a6 s.hosts.length p.c6], .agg #[.slice none 0 0], .agg #[.slice none 0 0, .slice none 0 0]] w fun e w' => e = .returned (.bool r) ∧ Below w.heap.size w w' :=
  c_fewZ (zS p s) r (hr.trans (fewS_iff p s).symm) w (zS_at h)
end Go.Proofs.Ytpokpgnclohiiaa
