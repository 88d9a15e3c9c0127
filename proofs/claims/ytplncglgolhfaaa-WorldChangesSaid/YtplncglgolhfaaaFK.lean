/-
  DERIVED. The law WorldChanges (written by gen/world_FK.py).
-/
import Derived.Test.YtplncglgolhfaaaEV
import Derived.Test.YtplncglgolhfaaaFJ
namespace Go.Proofs.Ytplncglgolhfaaa
open Go.RowKit
set_option maxRecDepth 100000
set_option linter.unusedVariables false
set_option linter.unusedSimpArgs false

theorem c_wrStartTo (p : WP) (d : WorldD) (x : Rep) (d' : WorldD) (n : Int) (hq : startP d x = (d', n)) (hm : d.reps.length ≤ 1000) (hm2 : d.hosts.length ≤ 1000) (w : World) (h : WoAt w p d) :
    Calls Try.prog 27 #[.agg #[.slice p.a1 d.hosts.length p.c1, .slice p.a2 d.reps.length p.c2], .agg #[.int .i64 x.svc, .int .i64 x.host]] w (ToW w d' n) := (c_wrStart p d x hm hm2 w h).mono fun e w' h => resW_to hq h
theorem c_wrStopTo (p : WP) (d : WorldD) (x : Rep) (d' : WorldD) (n : Int) (hq : stopP d x = (d', n)) (hm : d.reps.length ≤ 1000) (hm2 : d.hosts.length ≤ 1000) (w : World) (h : WoAt w p d) :
    Calls Try.prog 30 #[.agg #[.slice p.a1 d.hosts.length p.c1, .slice p.a2 d.reps.length p.c2], .agg #[.int .i64 x.svc, .int .i64 x.host]] w (ToW w d' n) := (c_wrStop p d x hm hm2 w h).mono fun e w' h => resW_to hq h
theorem c_wrSetTo (p : WP) (d : WorldD) (host : Int) (x : Hst) (d' : WorldD) (n : Int) (hq : setP d host x = (d', n)) (hm : d.reps.length ≤ 1000) (hm2 : d.hosts.length ≤ 1000) (w : World) (h : WoAt w p d) :
    Calls Try.prog 33 #[.agg #[.slice p.a1 d.hosts.length p.c1, .slice p.a2 d.reps.length p.c2], .int .i64 host, .agg #[.int .u8 (x.phase : Int), .int .i64 x.fw]] w (ToW w d' n) := (c_wrSet p d host x hm hm2 w h).mono fun e w' h => resW_to hq h
theorem c_wsTo (p q : WP) (d e : WorldD) (r : Bool) (hr : sameB d e = r) (w : World) (hd : WoAt w p d) (he : WoAt w q e) :
    Calls Try.prog 31 #[.agg #[.slice p.a1 d.hosts.length p.c1, .slice p.a2 d.reps.length p.c2], .agg #[.slice q.a1 e.hosts.length q.c1, .slice q.a2 e.reps.length q.c2]] w fun e w' => e = .returned (.bool r) ∧ Below w.heap.size w w' := c_woSame p q d e r hr w hd he
theorem start_ph {d d' : WorldD} {x : Rep} {n : Int} (h : startP d x = (d', n)) (hp : ∀ y ∈ d.hosts, y.phase < 256) : ∀ y ∈ d'.hosts, y.phase < 256 := by
  rcases startP_cases d x with ⟨e, -⟩ | ⟨m, -, e⟩
  · rw [e] at h; injection h with h _; subst h; exact hp
  · rw [e] at h; injection h with h _; subst h; exact zeroD_phase
theorem stop_ph {d d' : WorldD} {x : Rep} {n : Int} (h : stopP d x = (d', n)) (hp : ∀ y ∈ d.hosts, y.phase < 256) : ∀ y ∈ d'.hosts, y.phase < 256 := by
  rcases stopP_cases d x with ⟨e, -⟩ | ⟨m, -, e⟩
  · rw [e] at h; injection h with h _; subst h; exact hp
  · rw [e] at h; injection h with h _; subst h; exact zeroD_phase
theorem set_ph {d d' : WorldD} {host : Int} {x : Hst} {n : Int} (h : setP d host x = (d', n)) (hp : ∀ y ∈ d.hosts, y.phase < 256) (hx : x.phase < 256) : ∀ y ∈ d'.hosts, y.phase < 256 := by
  unfold setP at h
  split at h
  · injection h with h _
    subst h
    intro y hy
    rcases List.mem_or_eq_of_mem_set hy with hy | rfl
    · exact hp y hy
    · exact hx
  · injection h with h _; subst h; exact zeroD_phase
theorem Bx.hs {w : World} {b : Nat} {x : Hst} {T : TypeId} (h : Bx w b #[.int .u8 (x.phase : Int), .int .i64 x.fw] T) : w.cell? ⟨b, 0, none⟩ = some (.int .u8 (x.phase : Int)) ∧ w.cell? ⟨b, 1, none⟩ = some (.int .i64 x.fw) := ⟨cell_of h rfl, cell_of h rfl⟩
theorem num_set {w : World} {q : Addr} (h : ∃ m, w.cell? q = some (.int .i64 m)) (b : Addr) (z : Int) : ∃ m, (w.setCell b (.int .i64 z)).cell? q = some (.int .i64 m) := by
  obtain ⟨m, hm⟩ := h
  rcases Classical.em (b = q) with rfl | e
  · exact ⟨z, World.cell?_setCell_same _ _ _ hm⟩
  · exact ⟨m, by rw [World.cell?_setCell_other _ _ _ _ e, hm]⟩
/-- A row of pairs, a number second in each, above S and below b. -/
def IntsAt (S b : Nat) (w : World) (A : Option Addr) (n : Nat) : Prop :=
  ∀ k, k < n → ∃ g, A = some ⟨g, 0, none⟩ ∧ S ≤ g ∧ g < b ∧ w.frozen? ⟨g, k * 2 + 1, none⟩ = false ∧ ∃ m, w.cell? ⟨g, k * 2 + 1, none⟩ = some (.int .i64 m)
theorem frozen_set (w : World) (b o : Nat) (v : Value) (x : Addr) : (w.setCell ⟨b, o, none⟩ v).frozen? x = w.frozen? x := World.frozen?_setCells b [v] o w x
theorem IntsAt.set {S b g o : Nat} {w : World} {A : Option Addr} {n : Nat} (h : IntsAt S b w A n) (m : Int) : IntsAt S b (w.setCell ⟨g, o, none⟩ (.int .i64 m)) A n := fun k hk => by
  obtain ⟨g', e, h1, h2, h3, h4⟩ := h k hk
  exact ⟨g', e, h1, h2, (frozen_set _ _ _ _ _).trans h3, num_set h4 _ _⟩
theorem ints_own {α : Type} {F : α → Nat → Value} {S : Nat} {w : World} {T : TypeId} {A : Option Addr} {c : Nat} {l : List α} (h : w.ownsRow S T 2 (.slice A l.length c) l.length (cellsV 2 F l)) (hF : ∀ x, ∃ m, F x 1 = .int .i64 m) : IntsAt S w.heap.size w A l.length := fun k hk => by
  obtain ⟨g, cap, e, h1, h2⟩ := World.ownsRow.form h (by omega)
  injection e with e _ e'
  subst e e'
  obtain ⟨x, hx⟩ : ∃ x, l[k]? = some x := ⟨_, List.getElem?_eq_getElem hk⟩
  obtain ⟨m, hm⟩ := hF x
  exact ⟨g, rfl, h1, h2, World.ownsRow.frozenAt h _, m, (World.ownsRow.cellAt h _ (by omega)).trans ((cellsV_at (F := F) hx 1 (by omega)).trans (by rw [hm]))⟩
/-- The loops of the law: what lies below S is as it was; the rows hold numbers. -/
def LInv (S b : Nat) (V wr : World) (cs : Array Value) (rows : List (Option Addr × Nat)) : Prop :=
  Below S V wr ∧ Bx wr b cs 36 ∧ ∀ x ∈ rows, IntsAt S b wr x.1 x.2
theorem LInv.store {S b : Nat} {V wr : World} {cs : Array Value} {rows : List (Option Addr × Nat)} (h : LInv S b V wr cs rows) {A : Option Addr} {n : Nat} (hx : (A, n) ∈ rows) {k : Nat} (hk : k < n) :
    ∃ g m, A = some ⟨g, 0, none⟩ ∧ wr.frozen? ⟨g, k * 2 + 1, none⟩ = false ∧ wr.cell? ⟨g, k * 2 + 1, none⟩ = some (.int .i64 m) ∧ ∀ m', LInv S b V (wr.setCell ⟨g, k * 2 + 1, none⟩ (.int .i64 m')) cs rows := by
  obtain ⟨g, e, h1, h2, h3, m, h4⟩ := h.2.2 _ hx k hk
  refine ⟨g, m, e, h3, h4, fun m' => ⟨h.1.setCell (p := ⟨g, k * 2 + 1, none⟩) h1 _, set_else h.2.1 (by omega), fun x hx => (h.2.2 x hx).set m'⟩⟩
theorem three_rows {a1 a2 b1 b2 c1 c2 : Value} {i : Nat} (P : Value → Value → Prop) (hi : i < 3) (ha : P a1 a2) (hb : P b1 b2) (hc : P c1 c2) : ∃ v1 v2, (#[a1, a2, b1, b2, c1, c2] : Array Value)[i * 2]? = some v1 ∧ (#[a1, a2, b1, b2, c1, c2] : Array Value)[i * 2 + 1]? = some v2 ∧ P v1 v2 := by
  match i, hi with
  | 0, _ => exact ⟨_, _, rfl, rfl, ha⟩
  | 1, _ => exact ⟨_, _, rfl, rfl, hb⟩
  | 2, _ => exact ⟨_, _, rfl, rfl, hc⟩
def InRows (rows : List (Option Addr × Nat)) (v1 v2 : Value) : Prop := ∃ A n c A' n' c', v1 = .slice A n c ∧ v2 = .slice A' n' c' ∧ (A, n) ∈ rows ∧ (A', n') ∈ rows ∧ n ≤ 2 ^ 63 - 1 ∧ n' ≤ 2 ^ 63 - 1
theorem OwnW.bounds {base : Nat} {w : World} {p : WP} {d : WorldD} (h : OwnW base w p d) : d.hosts.length ≤ 2 ^ 63 - 1 ∧ d.reps.length ≤ 2 ^ 63 - 1 := by
  obtain ⟨A1, c1, -, r1⟩ := own_rv h.1
  obtain ⟨A2, c2, -, r2⟩ := own_rv h.2
  have e1 := r1.1; have e2 := r1.2.1; have e3 := r2.1; have e4 := r2.2.1
  unfold maxLen at e2 e4
  omega
set_option maxHeartbeats 64000000 in
theorem row_WorldChanges (w : World) (p : WP) (d : WorldD) (h : WoAt w p d) (x : Rep) (host : Int) (y : Hst) (hy : y.phase < 256) :
    Calls Try.prog 5 #[.agg #[.slice p.a1 d.hosts.length p.c1, .slice p.a2 d.reps.length p.c2], .agg #[.int .i64 x.svc, .int .i64 x.host], .int .i64 host, .agg #[.int .u8 (y.phase : Int), .int .i64 y.fw]] w fun e w' => e = .returned (.bool true) ∧ Below w.heap.size w w' := by
  have HLV := Lib.hid (fun (X : World) => c_live X)
  have hph := Lib.hid h.phase
  have hyp := Lib.hid hy
  have HBw := Lib.hid (Below.refl w.heap.size w)
  have PAw := Lib.hid h
  have n1 := h.hosts.1; have n2 := h.hosts.2.1; have n3 := h.reps.1; have n4 := h.reps.2.1
  unfold maxLen at n2 n4
  clear h hy
  obtain ⟨X1, hX1⟩ : ∃ X, X = w.alloc (.cells #[.slice p.a1 d.hosts.length p.c1, .slice p.a2 d.reps.length p.c2] 36) := ⟨_, rfl⟩
  have b1 : Below w.heap.size w X1 := by subst hX1; exact (Below.refl _ _).alloc (Nat.le_refl _) _
  have HBX1 := Lib.hid (below_join HBw.out b1 HBw.out.size)
  have PAX1 := Lib.hid (PAw.out.on b1 (Nat.le_refl _))
  have BWX1 := Lib.hid (show Bx X1 w.heap.size (woA p d) 36 by subst hX1; exact bx_new _ _ _)
  clear b1
  obtain ⟨X2, hX2⟩ : ∃ X, X = X1.alloc (.cells #[.int .i64 x.svc, .int .i64 x.host] 41) := ⟨_, rfl⟩
  have b2 : Below X1.heap.size X1 X2 := by subst hX2; exact (Below.refl _ _).alloc (Nat.le_refl _) _
  have HBX2 := Lib.hid (below_join HBX1.out b2 HBX1.out.size)
  have PAX2 := Lib.hid (PAX1.out.on b2 (Nat.le_refl _))
  have BWX2 := Lib.hid (BWX1.out.on b2 (Nat.le_refl _))
  have BRX2 := Lib.hid (show Bx X2 X1.heap.size #[.int .i64 x.svc, .int .i64 x.host] 41 by subst hX2; exact bx_new _ _ _)
  clear b2
  obtain ⟨X3, hX3⟩ : ∃ X, X = X2.alloc (.cells #[.int .u8 (y.phase : Int), .int .i64 y.fw] 51) := ⟨_, rfl⟩
  have b3 : Below X2.heap.size X2 X3 := by subst hX3; exact (Below.refl _ _).alloc (Nat.le_refl _) _
  have HBX3 := Lib.hid (below_join HBX2.out b3 HBX2.out.size)
  have PAX3 := Lib.hid (PAX2.out.on b3 (Nat.le_refl _))
  have BWX3 := Lib.hid (BWX2.out.on b3 (Nat.le_refl _))
  have BRX3 := Lib.hid (BRX2.out.on b3 (Nat.le_refl _))
  have BHX3 := Lib.hid (show Bx X3 X2.heap.size #[.int .u8 (y.phase : Int), .int .i64 y.fw] 51 by subst hX3; exact bx_new _ _ _)
  clear b3
  have s1 : X1.heap.size = w.heap.size + 1 := by rw [hX1, World.size_alloc]
  have s2 : X2.heap.size = w.heap.size + 1 + 1 := by rw [hX2, World.size_alloc, s1]
  rw [s1] at BRX3
  rw [s2] at BHX3
  clear s1 s2
  obtain ⟨x0, x1⟩ := BWX3.out.wo
  obtain ⟨y0, y1⟩ := BRX3.out.rp
  rw [hX3, hX2, hX1] at x0 x1 y0 y1
  go_enter Try.func5, Try.ntmps5
  go_wp2_with (fail)
  rw [← hX1, ← hX2, ← hX3]
  clear hX1 hX2 hX3 x0 x1 y0 y1
  obtain ⟨r, hr⟩ : ∃ b : Bool, b = true ↔ d.hosts.length ≤ 60 ∧ d.reps.length ≤ 60 := ⟨decide (d.hosts.length ≤ 60 ∧ d.reps.length ≤ 60), by simp⟩
  have HR := Lib.hid hr
  clear hr
  go_at_call 10
  refine (c_few0 p d r HR.out X3 PAX3.out).mono ?_
  rintro e v4 ⟨rfl, bb⟩
  have HBv4 := Lib.hid (below_join HBX3.out bb HBX3.out.size)
  have PAv4 := Lib.hid (PAX3.out.on bb (Nat.le_refl _))
  have BWv4 := Lib.hid (BWX3.out.on bb (Nat.le_refl _))
  have BRv4 := Lib.hid (BRX3.out.on bb (Nat.le_refl _))
  have BHv4 := Lib.hid (BHX3.out.on bb (Nat.le_refl _))
  clear bb
  cases r
  · skip
    go_wp2_with (fail)
    go_at_call 11
    refine (HLV.out v4).mono ?_
    rintro e v105 ⟨rfl, bb⟩
    have HBv105 := Lib.hid (below_join HBv4.out bb HBv4.out.size)
    have PAv105 := Lib.hid (PAv4.out.on bb (Nat.le_refl _))
    have BWv105 := Lib.hid (BWv4.out.on bb (Nat.le_refl _))
    have BRv105 := Lib.hid (BRv4.out.on bb (Nat.le_refl _))
    have BHv105 := Lib.hid (BHv4.out.on bb (Nat.le_refl _))
    clear bb
    go_wp2_with (fail)
    go_ret
    exact ⟨rfl, HBv105.out⟩
  obtain ⟨hl1, hl2⟩ := HR.out.1 (by trivial)
  obtain ⟨⟨d1, e1⟩, hS⟩ : ∃ q, startP d x = q := ⟨_, rfl⟩
  obtain ⟨⟨d2, e2⟩, hT⟩ : ∃ q, stopP d x = q := ⟨_, rfl⟩
  obtain ⟨⟨d3, e3⟩, hU⟩ : ∃ q, setP d host y = q := ⟨_, rfl⟩
  have HS1 := Lib.hid hS
  have HT1 := Lib.hid hT
  have HU1 := Lib.hid hU
  clear hS hT hU
  have HP1 := Lib.hid (start_ph HS1.out hph.out)
  have HP2 := Lib.hid (stop_ph HT1.out hph.out)
  have HP3 := Lib.hid (set_ph HU1.out hph.out hyp.out)
  obtain ⟨r1, hr1⟩ : ∃ r, sameB d1 d2 = r := ⟨_, rfl⟩
  obtain ⟨r2, hr2⟩ : ∃ r, sameB d d3 = r := ⟨_, rfl⟩
  have HR1 := Lib.hid hr1
  have HR2 := Lib.hid hr2
  clear hr1 hr2
  obtain ⟨x0, x1⟩ := BWv4.out.wo
  go_wp2_with (fail)
  clear x0 x1
  go_at_call 25
  refine (c_CopyTo p d (by omega) (by omega) v4 PAv4.out).mono ?_
  rintro e v156 ⟨A1, c1, A2, c2, rfl, oo, bb⟩
  have HBv156 := Lib.hid (below_join HBv4.out bb HBv4.out.size)
  have PAv156 := Lib.hid (PAv4.out.on bb (Nat.le_refl _))
  have BWv156 := Lib.hid (BWv4.out.on bb (Nat.le_refl _))
  have BRv156 := Lib.hid (BRv4.out.on bb (Nat.le_refl _))
  have BHv156 := Lib.hid (BHv4.out.on bb (Nat.le_refl _))
  have POv156 := Lib.hid (oo.wo hph.out)
  clear oo
  clear bb
  obtain ⟨p0, hp0⟩ : ∃ p0 : WP, p0 = ⟨A1, c1, A2, c2⟩ := ⟨_, rfl⟩
  have POv156 := Lib.hid (show WoAt v156 p0 d by rw [hp0]; exact POv156.out)
  obtain ⟨rfl, rfl, rfl, rfl⟩ : A1 = p0.a1 ∧ c1 = p0.c1 ∧ A2 = p0.a2 ∧ c2 = p0.c2 := by rw [hp0]; exact ⟨rfl, rfl, rfl, rfl⟩
  clear hp0
  obtain ⟨X157, hX157⟩ : ∃ X, X = v156.alloc (.cells #[.slice p0.a1 d.hosts.length p0.c1, .slice p0.a2 d.reps.length p0.c2] 36) := ⟨_, rfl⟩
  have b157 : Below v156.heap.size v156 X157 := by subst hX157; exact (Below.refl _ _).alloc (Nat.le_refl _) _
  have HBX157 := Lib.hid (below_join HBv156.out b157 HBv156.out.size)
  have PAX157 := Lib.hid (PAv156.out.on b157 (Nat.le_refl _))
  have BWX157 := Lib.hid (BWv156.out.on b157 (Nat.le_refl _))
  have BRX157 := Lib.hid (BRv156.out.on b157 (Nat.le_refl _))
  have BHX157 := Lib.hid (BHv156.out.on b157 (Nat.le_refl _))
  have POX157 := Lib.hid (POv156.out.on b157 (Nat.le_refl _))
  have BOX157 := Lib.hid (show Bx X157 v156.heap.size (woA p0 d) 36 by subst hX157; exact bx_new _ _ _)
  clear b157
  have HSX157 := Lib.hid (Below.refl X157.heap.size X157)
  obtain ⟨x0, x1⟩ := BWX157.out.wo
  obtain ⟨y0, y1⟩ := BRX157.out.rp
  rw [hX157] at x0 x1 y0 y1
  go_wp2_with (fail)
  rw [← hX157]
  clear hX157
  clear x0 x1 y0 y1
  go_at_call 26
  refine (c_startTo p d x d1 e1 HS1.out (by omega) (by omega) X157 PAX157.out).mono ?_
  rintro e v158 ⟨p1, rfl, oo, bb⟩
  have HBv158 := Lib.hid (below_join HBX157.out bb HBX157.out.size)
  have HSv158 := Lib.hid (below_join HSX157.out bb HSX157.out.size)
  have PAv158 := Lib.hid (PAX157.out.on bb (Nat.le_refl _))
  have BWv158 := Lib.hid (BWX157.out.on bb (Nat.le_refl _))
  have BRv158 := Lib.hid (BRX157.out.on bb (Nat.le_refl _))
  have BHv158 := Lib.hid (BHX157.out.on bb (Nat.le_refl _))
  have POv158 := Lib.hid (POX157.out.on bb (Nat.le_refl _))
  have BOv158 := Lib.hid (BOX157.out.on bb (Nat.le_refl _))
  have Ep1v158 := Lib.hid (oo.wo HP1.out)
  have Gp1v158 := Lib.hid (oo.mono HSX157.out.size)
  clear oo
  clear bb
  obtain ⟨X159, hX159⟩ : ∃ X, X = v158.alloc (.cells #[.slice p1.a1 d1.hosts.length p1.c1, .slice p1.a2 d1.reps.length p1.c2] 36) := ⟨_, rfl⟩
  have b159 : Below v158.heap.size v158 X159 := by subst hX159; exact (Below.refl _ _).alloc (Nat.le_refl _) _
  have HBX159 := Lib.hid (below_join HBv158.out b159 HBv158.out.size)
  have HSX159 := Lib.hid (below_join HSv158.out b159 HSv158.out.size)
  have PAX159 := Lib.hid (PAv158.out.on b159 (Nat.le_refl _))
  have BWX159 := Lib.hid (BWv158.out.on b159 (Nat.le_refl _))
  have BRX159 := Lib.hid (BRv158.out.on b159 (Nat.le_refl _))
  have BHX159 := Lib.hid (BHv158.out.on b159 (Nat.le_refl _))
  have POX159 := Lib.hid (POv158.out.on b159 (Nat.le_refl _))
  have BOX159 := Lib.hid (BOv158.out.on b159 (Nat.le_refl _))
  have Ep1X159 := Lib.hid (Ep1v158.out.on b159 (Nat.le_refl _))
  have Gp1X159 := Lib.hid (Gp1v158.out.on b159 (Nat.le_refl _))
  have C1X159 := Lib.hid (show Bx X159 v158.heap.size (woA p1 d1) 36 by subst hX159; exact bx_new _ _ _)
  clear b159
  obtain ⟨x0, x1⟩ := BOX159.out.wo
  obtain ⟨y0, y1⟩ := BRX159.out.rp
  rw [hX159] at x0 x1 y0 y1
  go_wp2_with (fail)
  rw [← hX159]
  clear hX159
  clear x0 x1 y0 y1
  go_at_call 27
  refine (c_wrStartTo p0 d x d1 e1 HS1.out (by omega) (by omega) X159 POX159.out).mono ?_
  rintro e v160 ⟨p2, rfl, oo, bb⟩
  have HBv160 := Lib.hid (below_join HBX159.out bb HBX159.out.size)
  have HSv160 := Lib.hid (below_join HSX159.out bb HSX159.out.size)
  have PAv160 := Lib.hid (PAX159.out.on bb (Nat.le_refl _))
  have BWv160 := Lib.hid (BWX159.out.on bb (Nat.le_refl _))
  have BRv160 := Lib.hid (BRX159.out.on bb (Nat.le_refl _))
  have BHv160 := Lib.hid (BHX159.out.on bb (Nat.le_refl _))
  have POv160 := Lib.hid (POX159.out.on bb (Nat.le_refl _))
  have BOv160 := Lib.hid (BOX159.out.on bb (Nat.le_refl _))
  have Ep1v160 := Lib.hid (Ep1X159.out.on bb (Nat.le_refl _))
  have Gp1v160 := Lib.hid (Gp1X159.out.on bb (Nat.le_refl _))
  have C1v160 := Lib.hid (C1X159.out.on bb (Nat.le_refl _))
  have Ep2v160 := Lib.hid (oo.wo HP1.out)
  clear oo
  clear bb
  obtain ⟨X161, hX161⟩ : ∃ X, X = v160.alloc (.cells #[.slice p2.a1 d1.hosts.length p2.c1, .slice p2.a2 d1.reps.length p2.c2] 36) := ⟨_, rfl⟩
  have b161 : Below v160.heap.size v160 X161 := by subst hX161; exact (Below.refl _ _).alloc (Nat.le_refl _) _
  have HBX161 := Lib.hid (below_join HBv160.out b161 HBv160.out.size)
  have HSX161 := Lib.hid (below_join HSv160.out b161 HSv160.out.size)
  have PAX161 := Lib.hid (PAv160.out.on b161 (Nat.le_refl _))
  have BWX161 := Lib.hid (BWv160.out.on b161 (Nat.le_refl _))
  have BRX161 := Lib.hid (BRv160.out.on b161 (Nat.le_refl _))
  have BHX161 := Lib.hid (BHv160.out.on b161 (Nat.le_refl _))
  have POX161 := Lib.hid (POv160.out.on b161 (Nat.le_refl _))
  have BOX161 := Lib.hid (BOv160.out.on b161 (Nat.le_refl _))
  have Ep1X161 := Lib.hid (Ep1v160.out.on b161 (Nat.le_refl _))
  have Gp1X161 := Lib.hid (Gp1v160.out.on b161 (Nat.le_refl _))
  have C1X161 := Lib.hid (C1v160.out.on b161 (Nat.le_refl _))
  have Ep2X161 := Lib.hid (Ep2v160.out.on b161 (Nat.le_refl _))
  have C2X161 := Lib.hid (show Bx X161 v160.heap.size (woA p2 d1) 36 by subst hX161; exact bx_new _ _ _)
  clear b161
  obtain ⟨x0, x1⟩ := C1X161.out.wo
  obtain ⟨y0, y1⟩ := C2X161.out.wo
  rw [hX161] at x0 x1 y0 y1
  go_wp2_with (fail)
  rw [← hX161]
  clear hX161
  clear x0 x1 y0 y1
  go_at_call 28
  refine (c_sameTo p1 p2 d1 d1 true (same_refl d1) X161 Ep1X161.out Ep2X161.out).mono ?_
  rintro e v162 ⟨rfl, bb⟩
  have HBv162 := Lib.hid (below_join HBX161.out bb HBX161.out.size)
  have HSv162 := Lib.hid (below_join HSX161.out bb HSX161.out.size)
  have PAv162 := Lib.hid (PAX161.out.on bb (Nat.le_refl _))
  have BWv162 := Lib.hid (BWX161.out.on bb (Nat.le_refl _))
  have BRv162 := Lib.hid (BRX161.out.on bb (Nat.le_refl _))
  have BHv162 := Lib.hid (BHX161.out.on bb (Nat.le_refl _))
  have POv162 := Lib.hid (POX161.out.on bb (Nat.le_refl _))
  have BOv162 := Lib.hid (BOX161.out.on bb (Nat.le_refl _))
  have Ep1v162 := Lib.hid (Ep1X161.out.on bb (Nat.le_refl _))
  have Gp1v162 := Lib.hid (Gp1X161.out.on bb (Nat.le_refl _))
  have C1v162 := Lib.hid (C1X161.out.on bb (Nat.le_refl _))
  have Ep2v162 := Lib.hid (Ep2X161.out.on bb (Nat.le_refl _))
  have C2v162 := Lib.hid (C2X161.out.on bb (Nat.le_refl _))
  clear bb
  obtain ⟨x0, x1⟩ := BWv162.out.wo
  obtain ⟨y0, y1⟩ := BOv162.out.wo
  go_wp2_with (fail)
  clear x0 x1 y0 y1
  go_at_call 28
  refine (c_sameTo p p0 d d true (same_refl d) v162 PAv162.out POv162.out).mono ?_
  rintro e v163 ⟨rfl, bb⟩
  have HBv163 := Lib.hid (below_join HBv162.out bb HBv162.out.size)
  have HSv163 := Lib.hid (below_join HSv162.out bb HSv162.out.size)
  have PAv163 := Lib.hid (PAv162.out.on bb (Nat.le_refl _))
  have BWv163 := Lib.hid (BWv162.out.on bb (Nat.le_refl _))
  have BRv163 := Lib.hid (BRv162.out.on bb (Nat.le_refl _))
  have BHv163 := Lib.hid (BHv162.out.on bb (Nat.le_refl _))
  have POv163 := Lib.hid (POv162.out.on bb (Nat.le_refl _))
  have BOv163 := Lib.hid (BOv162.out.on bb (Nat.le_refl _))
  have Ep1v163 := Lib.hid (Ep1v162.out.on bb (Nat.le_refl _))
  have Gp1v163 := Lib.hid (Gp1v162.out.on bb (Nat.le_refl _))
  have C1v163 := Lib.hid (C1v162.out.on bb (Nat.le_refl _))
  have Ep2v163 := Lib.hid (Ep2v162.out.on bb (Nat.le_refl _))
  have C2v163 := Lib.hid (C2v162.out.on bb (Nat.le_refl _))
  clear bb
  obtain ⟨x0, x1⟩ := BWv163.out.wo
  obtain ⟨y0, y1⟩ := BRv163.out.rp
  go_wp2_with (fail)
  clear x0 x1 y0 y1
  go_at_call 29
  refine (c_stopTo p d x d2 e2 HT1.out (by omega) (by omega) v163 PAv163.out).mono ?_
  rintro e v164 ⟨p3, rfl, oo, bb⟩
  have HBv164 := Lib.hid (below_join HBv163.out bb HBv163.out.size)
  have HSv164 := Lib.hid (below_join HSv163.out bb HSv163.out.size)
  have PAv164 := Lib.hid (PAv163.out.on bb (Nat.le_refl _))
  have BWv164 := Lib.hid (BWv163.out.on bb (Nat.le_refl _))
  have BRv164 := Lib.hid (BRv163.out.on bb (Nat.le_refl _))
  have BHv164 := Lib.hid (BHv163.out.on bb (Nat.le_refl _))
  have POv164 := Lib.hid (POv163.out.on bb (Nat.le_refl _))
  have BOv164 := Lib.hid (BOv163.out.on bb (Nat.le_refl _))
  have Ep1v164 := Lib.hid (Ep1v163.out.on bb (Nat.le_refl _))
  have Gp1v164 := Lib.hid (Gp1v163.out.on bb (Nat.le_refl _))
  have C1v164 := Lib.hid (C1v163.out.on bb (Nat.le_refl _))
  have Ep2v164 := Lib.hid (Ep2v163.out.on bb (Nat.le_refl _))
  have C2v164 := Lib.hid (C2v163.out.on bb (Nat.le_refl _))
  have Ep3v164 := Lib.hid (oo.wo HP2.out)
  have Gp3v164 := Lib.hid (oo.mono HSv163.out.size)
  clear oo
  clear bb
  obtain ⟨X165, hX165⟩ : ∃ X, X = v164.alloc (.cells #[.slice p3.a1 d2.hosts.length p3.c1, .slice p3.a2 d2.reps.length p3.c2] 36) := ⟨_, rfl⟩
  have b165 : Below v164.heap.size v164 X165 := by subst hX165; exact (Below.refl _ _).alloc (Nat.le_refl _) _
  have HBX165 := Lib.hid (below_join HBv164.out b165 HBv164.out.size)
  have HSX165 := Lib.hid (below_join HSv164.out b165 HSv164.out.size)
  have PAX165 := Lib.hid (PAv164.out.on b165 (Nat.le_refl _))
  have BWX165 := Lib.hid (BWv164.out.on b165 (Nat.le_refl _))
  have BRX165 := Lib.hid (BRv164.out.on b165 (Nat.le_refl _))
  have BHX165 := Lib.hid (BHv164.out.on b165 (Nat.le_refl _))
  have POX165 := Lib.hid (POv164.out.on b165 (Nat.le_refl _))
  have BOX165 := Lib.hid (BOv164.out.on b165 (Nat.le_refl _))
  have Ep1X165 := Lib.hid (Ep1v164.out.on b165 (Nat.le_refl _))
  have Gp1X165 := Lib.hid (Gp1v164.out.on b165 (Nat.le_refl _))
  have C1X165 := Lib.hid (C1v164.out.on b165 (Nat.le_refl _))
  have Ep2X165 := Lib.hid (Ep2v164.out.on b165 (Nat.le_refl _))
  have C2X165 := Lib.hid (C2v164.out.on b165 (Nat.le_refl _))
  have Ep3X165 := Lib.hid (Ep3v164.out.on b165 (Nat.le_refl _))
  have Gp3X165 := Lib.hid (Gp3v164.out.on b165 (Nat.le_refl _))
  have C3X165 := Lib.hid (show Bx X165 v164.heap.size (woA p3 d2) 36 by subst hX165; exact bx_new _ _ _)
  clear b165
  obtain ⟨x0, x1⟩ := BOX165.out.wo
  obtain ⟨y0, y1⟩ := BRX165.out.rp
  rw [hX165] at x0 x1 y0 y1
  go_wp2_with (fail)
  rw [← hX165]
  clear hX165
  clear x0 x1 y0 y1
  go_at_call 30
  refine (c_wrStopTo p0 d x d2 e2 HT1.out (by omega) (by omega) X165 POX165.out).mono ?_
  rintro e v166 ⟨p4, rfl, oo, bb⟩
  have HBv166 := Lib.hid (below_join HBX165.out bb HBX165.out.size)
  have HSv166 := Lib.hid (below_join HSX165.out bb HSX165.out.size)
  have PAv166 := Lib.hid (PAX165.out.on bb (Nat.le_refl _))
  have BWv166 := Lib.hid (BWX165.out.on bb (Nat.le_refl _))
  have BRv166 := Lib.hid (BRX165.out.on bb (Nat.le_refl _))
  have BHv166 := Lib.hid (BHX165.out.on bb (Nat.le_refl _))
  have POv166 := Lib.hid (POX165.out.on bb (Nat.le_refl _))
  have BOv166 := Lib.hid (BOX165.out.on bb (Nat.le_refl _))
  have Ep1v166 := Lib.hid (Ep1X165.out.on bb (Nat.le_refl _))
  have Gp1v166 := Lib.hid (Gp1X165.out.on bb (Nat.le_refl _))
  have C1v166 := Lib.hid (C1X165.out.on bb (Nat.le_refl _))
  have Ep2v166 := Lib.hid (Ep2X165.out.on bb (Nat.le_refl _))
  have C2v166 := Lib.hid (C2X165.out.on bb (Nat.le_refl _))
  have Ep3v166 := Lib.hid (Ep3X165.out.on bb (Nat.le_refl _))
  have Gp3v166 := Lib.hid (Gp3X165.out.on bb (Nat.le_refl _))
  have C3v166 := Lib.hid (C3X165.out.on bb (Nat.le_refl _))
  have Ep4v166 := Lib.hid (oo.wo HP2.out)
  clear oo
  clear bb
  obtain ⟨X167, hX167⟩ : ∃ X, X = v166.alloc (.cells #[.slice p4.a1 d2.hosts.length p4.c1, .slice p4.a2 d2.reps.length p4.c2] 36) := ⟨_, rfl⟩
  have b167 : Below v166.heap.size v166 X167 := by subst hX167; exact (Below.refl _ _).alloc (Nat.le_refl _) _
  have HBX167 := Lib.hid (below_join HBv166.out b167 HBv166.out.size)
  have HSX167 := Lib.hid (below_join HSv166.out b167 HSv166.out.size)
  have PAX167 := Lib.hid (PAv166.out.on b167 (Nat.le_refl _))
  have BWX167 := Lib.hid (BWv166.out.on b167 (Nat.le_refl _))
  have BRX167 := Lib.hid (BRv166.out.on b167 (Nat.le_refl _))
  have BHX167 := Lib.hid (BHv166.out.on b167 (Nat.le_refl _))
  have POX167 := Lib.hid (POv166.out.on b167 (Nat.le_refl _))
  have BOX167 := Lib.hid (BOv166.out.on b167 (Nat.le_refl _))
  have Ep1X167 := Lib.hid (Ep1v166.out.on b167 (Nat.le_refl _))
  have Gp1X167 := Lib.hid (Gp1v166.out.on b167 (Nat.le_refl _))
  have C1X167 := Lib.hid (C1v166.out.on b167 (Nat.le_refl _))
  have Ep2X167 := Lib.hid (Ep2v166.out.on b167 (Nat.le_refl _))
  have C2X167 := Lib.hid (C2v166.out.on b167 (Nat.le_refl _))
  have Ep3X167 := Lib.hid (Ep3v166.out.on b167 (Nat.le_refl _))
  have Gp3X167 := Lib.hid (Gp3v166.out.on b167 (Nat.le_refl _))
  have C3X167 := Lib.hid (C3v166.out.on b167 (Nat.le_refl _))
  have Ep4X167 := Lib.hid (Ep4v166.out.on b167 (Nat.le_refl _))
  have C4X167 := Lib.hid (show Bx X167 v166.heap.size (woA p4 d2) 36 by subst hX167; exact bx_new _ _ _)
  clear b167
  go_wp2_with (fail)
  rw [← hX167]
  clear hX167
  obtain ⟨z0, z1⟩ := C3X167.out.wo
  obtain ⟨z2, z3⟩ := C4X167.out.wo
  obtain ⟨z4, z5⟩ := C1X167.out.wo
  obtain ⟨z6, z7⟩ := C2X167.out.wo
  go_region_held3 (fun X => X.cell? ⟨v164.heap.size, 0, none⟩ = some (.slice p3.a1 d2.hosts.length p3.c1) ∧ X.cell? ⟨v164.heap.size, 1, none⟩ = some (.slice p3.a2 d2.reps.length p3.c2) ∧ X.cell? ⟨v166.heap.size, 0, none⟩ = some (.slice p4.a1 d2.hosts.length p4.c1) ∧ X.cell? ⟨v166.heap.size, 1, none⟩ = some (.slice p4.a2 d2.reps.length p4.c2) ∧ X.cell? ⟨v158.heap.size, 0, none⟩ = some (.slice p1.a1 d1.hosts.length p1.c1) ∧ X.cell? ⟨v158.heap.size, 1, none⟩ = some (.slice p1.a2 d1.reps.length p1.c2) ∧ X.cell? ⟨v160.heap.size, 0, none⟩ = some (.slice p2.a1 d1.hosts.length p2.c1) ∧ X.cell? ⟨v160.heap.size, 1, none⟩ = some (.slice p2.a2 d1.reps.length p2.c2))
    (first | exact ⟨C3v170.out.wo.1, C3v170.out.wo.2, C4v170.out.wo.1, C4v170.out.wo.2, C1v170.out.wo.1, C1v170.out.wo.2, C2v170.out.wo.1, C2v170.out.wo.2⟩ | exact ⟨C3v169.out.wo.1, C3v169.out.wo.2, C4v169.out.wo.1, C4v169.out.wo.2, C1v169.out.wo.1, C1v169.out.wo.2, C2v169.out.wo.1, C2v169.out.wo.2⟩ | exact ⟨C3v168.out.wo.1, C3v168.out.wo.2, C4v168.out.wo.1, C4v168.out.wo.2, C1v168.out.wo.1, C1v168.out.wo.2, C2v168.out.wo.1, C2v168.out.wo.2⟩ | exact ⟨C3X167.out.wo.1, C3X167.out.wo.2, C4X167.out.wo.1, C4X167.out.wo.2, C1X167.out.wo.1, C1X167.out.wo.2, C2X167.out.wo.1, C2X167.out.wo.2⟩ | fail)
    (first
      | (go_at_call 28; (with_reducible refine (c_sameTo p3 p4 d2 d2 true (same_refl d2) X167.drew (Ep3X167.out.on (Below.refl X167.heap.size X167).drew (Nat.le_refl _)) (Ep4X167.out.on (Below.refl X167.heap.size X167).drew (Nat.le_refl _))).mono ?_); rintro e v168 ⟨rfl, bb0⟩; have bb := below_join (Below.refl X167.heap.size X167).drew bb0 (Nat.le_refl _); have HBv168 := Lib.hid (below_join HBX167.out bb HBX167.out.size); have HSv168 := Lib.hid (below_join HSX167.out bb HSX167.out.size); have PAv168 := Lib.hid (PAX167.out.on bb (Nat.le_refl _)); have BWv168 := Lib.hid (BWX167.out.on bb (Nat.le_refl _)); have BRv168 := Lib.hid (BRX167.out.on bb (Nat.le_refl _)); have BHv168 := Lib.hid (BHX167.out.on bb (Nat.le_refl _)); have POv168 := Lib.hid (POX167.out.on bb (Nat.le_refl _)); have BOv168 := Lib.hid (BOX167.out.on bb (Nat.le_refl _)); have Ep1v168 := Lib.hid (Ep1X167.out.on bb (Nat.le_refl _)); have Gp1v168 := Lib.hid (Gp1X167.out.on bb (Nat.le_refl _)); have C1v168 := Lib.hid (C1X167.out.on bb (Nat.le_refl _)); have Ep2v168 := Lib.hid (Ep2X167.out.on bb (Nat.le_refl _)); have C2v168 := Lib.hid (C2X167.out.on bb (Nat.le_refl _)); have Ep3v168 := Lib.hid (Ep3X167.out.on bb (Nat.le_refl _)); have Gp3v168 := Lib.hid (Gp3X167.out.on bb (Nat.le_refl _)); have C3v168 := Lib.hid (C3X167.out.on bb (Nat.le_refl _)); have Ep4v168 := Lib.hid (Ep4X167.out.on bb (Nat.le_refl _)); have C4v168 := Lib.hid (C4X167.out.on bb (Nat.le_refl _)); clear bb bb0)
      | (go_at_call 31; (with_reducible refine (c_wsTo p1 p3 d1 d2 r1 HR1.out v168 Ep1v168.out Ep3v168.out).mono ?_); rintro e v169 ⟨rfl, bb0⟩; have bb := below_join (Below.refl v168.heap.size v168) bb0 (Nat.le_refl _); have HBv169 := Lib.hid (below_join HBv168.out bb HBv168.out.size); have HSv169 := Lib.hid (below_join HSv168.out bb HSv168.out.size); have PAv169 := Lib.hid (PAv168.out.on bb (Nat.le_refl _)); have BWv169 := Lib.hid (BWv168.out.on bb (Nat.le_refl _)); have BRv169 := Lib.hid (BRv168.out.on bb (Nat.le_refl _)); have BHv169 := Lib.hid (BHv168.out.on bb (Nat.le_refl _)); have POv169 := Lib.hid (POv168.out.on bb (Nat.le_refl _)); have BOv169 := Lib.hid (BOv168.out.on bb (Nat.le_refl _)); have Ep1v169 := Lib.hid (Ep1v168.out.on bb (Nat.le_refl _)); have Gp1v169 := Lib.hid (Gp1v168.out.on bb (Nat.le_refl _)); have C1v169 := Lib.hid (C1v168.out.on bb (Nat.le_refl _)); have Ep2v169 := Lib.hid (Ep2v168.out.on bb (Nat.le_refl _)); have C2v169 := Lib.hid (C2v168.out.on bb (Nat.le_refl _)); have Ep3v169 := Lib.hid (Ep3v168.out.on bb (Nat.le_refl _)); have Gp3v169 := Lib.hid (Gp3v168.out.on bb (Nat.le_refl _)); have C3v169 := Lib.hid (C3v168.out.on bb (Nat.le_refl _)); have Ep4v169 := Lib.hid (Ep4v168.out.on bb (Nat.le_refl _)); have C4v169 := Lib.hid (C4v168.out.on bb (Nat.le_refl _)); clear bb bb0)
      | (go_at_call 28; (with_reducible refine (c_sameTo p2 p4 d1 d2 r1 HR1.out v169 Ep2v169.out Ep4v169.out).mono ?_); rintro e v170 ⟨rfl, bb0⟩; have bb := below_join (Below.refl v169.heap.size v169) bb0 (Nat.le_refl _); have HBv170 := Lib.hid (below_join HBv169.out bb HBv169.out.size); have HSv170 := Lib.hid (below_join HSv169.out bb HSv169.out.size); have PAv170 := Lib.hid (PAv169.out.on bb (Nat.le_refl _)); have BWv170 := Lib.hid (BWv169.out.on bb (Nat.le_refl _)); have BRv170 := Lib.hid (BRv169.out.on bb (Nat.le_refl _)); have BHv170 := Lib.hid (BHv169.out.on bb (Nat.le_refl _)); have POv170 := Lib.hid (POv169.out.on bb (Nat.le_refl _)); have BOv170 := Lib.hid (BOv169.out.on bb (Nat.le_refl _)); have Ep1v170 := Lib.hid (Ep1v169.out.on bb (Nat.le_refl _)); have Gp1v170 := Lib.hid (Gp1v169.out.on bb (Nat.le_refl _)); have C1v170 := Lib.hid (C1v169.out.on bb (Nat.le_refl _)); have Ep2v170 := Lib.hid (Ep2v169.out.on bb (Nat.le_refl _)); have C2v170 := Lib.hid (C2v169.out.on bb (Nat.le_refl _)); have Ep3v170 := Lib.hid (Ep3v169.out.on bb (Nat.le_refl _)); have Gp3v170 := Lib.hid (Gp3v169.out.on bb (Nat.le_refl _)); have C3v170 := Lib.hid (C3v169.out.on bb (Nat.le_refl _)); have Ep4v170 := Lib.hid (Ep4v169.out.on bb (Nat.le_refl _)); have C4v170 := Lib.hid (C4v169.out.on bb (Nat.le_refl _)); clear bb bb0)
      | fail)
  clear z0 z1 z2 z3 z4 z5 z6 z7
  obtain ⟨x0, x1⟩ := BWv170.out.wo
  obtain ⟨y0, y1⟩ := BHv170.out.hs
  go_wp2_with (fail)
  clear x0 x1 y0 y1
  go_at_call 32
  refine (c_setTo p d host y d3 e3 HU1.out (by omega) (by omega) v170 PAv170.out).mono ?_
  rintro e v171 ⟨p5, rfl, oo, bb⟩
  have HBv171 := Lib.hid (below_join HBv170.out bb HBv170.out.size)
  have HSv171 := Lib.hid (below_join HSv170.out bb HSv170.out.size)
  have PAv171 := Lib.hid (PAv170.out.on bb (Nat.le_refl _))
  have BWv171 := Lib.hid (BWv170.out.on bb (Nat.le_refl _))
  have BRv171 := Lib.hid (BRv170.out.on bb (Nat.le_refl _))
  have BHv171 := Lib.hid (BHv170.out.on bb (Nat.le_refl _))
  have POv171 := Lib.hid (POv170.out.on bb (Nat.le_refl _))
  have BOv171 := Lib.hid (BOv170.out.on bb (Nat.le_refl _))
  have Ep1v171 := Lib.hid (Ep1v170.out.on bb (Nat.le_refl _))
  have Gp1v171 := Lib.hid (Gp1v170.out.on bb (Nat.le_refl _))
  have C1v171 := Lib.hid (C1v170.out.on bb (Nat.le_refl _))
  have Ep2v171 := Lib.hid (Ep2v170.out.on bb (Nat.le_refl _))
  have C2v171 := Lib.hid (C2v170.out.on bb (Nat.le_refl _))
  have Ep3v171 := Lib.hid (Ep3v170.out.on bb (Nat.le_refl _))
  have Gp3v171 := Lib.hid (Gp3v170.out.on bb (Nat.le_refl _))
  have C3v171 := Lib.hid (C3v170.out.on bb (Nat.le_refl _))
  have Ep4v171 := Lib.hid (Ep4v170.out.on bb (Nat.le_refl _))
  have C4v171 := Lib.hid (C4v170.out.on bb (Nat.le_refl _))
  have Ep5v171 := Lib.hid (oo.wo HP3.out)
  have Gp5v171 := Lib.hid (oo.mono HSv170.out.size)
  clear oo
  clear bb
  obtain ⟨X172, hX172⟩ : ∃ X, X = v171.alloc (.cells #[.slice p5.a1 d3.hosts.length p5.c1, .slice p5.a2 d3.reps.length p5.c2] 36) := ⟨_, rfl⟩
  have b172 : Below v171.heap.size v171 X172 := by subst hX172; exact (Below.refl _ _).alloc (Nat.le_refl _) _
  have HBX172 := Lib.hid (below_join HBv171.out b172 HBv171.out.size)
  have HSX172 := Lib.hid (below_join HSv171.out b172 HSv171.out.size)
  have PAX172 := Lib.hid (PAv171.out.on b172 (Nat.le_refl _))
  have BWX172 := Lib.hid (BWv171.out.on b172 (Nat.le_refl _))
  have BRX172 := Lib.hid (BRv171.out.on b172 (Nat.le_refl _))
  have BHX172 := Lib.hid (BHv171.out.on b172 (Nat.le_refl _))
  have POX172 := Lib.hid (POv171.out.on b172 (Nat.le_refl _))
  have BOX172 := Lib.hid (BOv171.out.on b172 (Nat.le_refl _))
  have Ep1X172 := Lib.hid (Ep1v171.out.on b172 (Nat.le_refl _))
  have Gp1X172 := Lib.hid (Gp1v171.out.on b172 (Nat.le_refl _))
  have C1X172 := Lib.hid (C1v171.out.on b172 (Nat.le_refl _))
  have Ep2X172 := Lib.hid (Ep2v171.out.on b172 (Nat.le_refl _))
  have C2X172 := Lib.hid (C2v171.out.on b172 (Nat.le_refl _))
  have Ep3X172 := Lib.hid (Ep3v171.out.on b172 (Nat.le_refl _))
  have Gp3X172 := Lib.hid (Gp3v171.out.on b172 (Nat.le_refl _))
  have C3X172 := Lib.hid (C3v171.out.on b172 (Nat.le_refl _))
  have Ep4X172 := Lib.hid (Ep4v171.out.on b172 (Nat.le_refl _))
  have C4X172 := Lib.hid (C4v171.out.on b172 (Nat.le_refl _))
  have Ep5X172 := Lib.hid (Ep5v171.out.on b172 (Nat.le_refl _))
  have Gp5X172 := Lib.hid (Gp5v171.out.on b172 (Nat.le_refl _))
  have C5X172 := Lib.hid (show Bx X172 v171.heap.size (woA p5 d3) 36 by subst hX172; exact bx_new _ _ _)
  clear b172
  obtain ⟨x0, x1⟩ := BOX172.out.wo
  obtain ⟨y0, y1⟩ := BHX172.out.hs
  rw [hX172] at x0 x1 y0 y1
  go_wp2_with (fail)
  rw [← hX172]
  clear hX172
  clear x0 x1 y0 y1
  go_at_call 33
  refine (c_wrSetTo p0 d host y d3 e3 HU1.out (by omega) (by omega) X172 POX172.out).mono ?_
  rintro e v173 ⟨p6, rfl, oo, bb⟩
  have HBv173 := Lib.hid (below_join HBX172.out bb HBX172.out.size)
  have HSv173 := Lib.hid (below_join HSX172.out bb HSX172.out.size)
  have PAv173 := Lib.hid (PAX172.out.on bb (Nat.le_refl _))
  have BWv173 := Lib.hid (BWX172.out.on bb (Nat.le_refl _))
  have BRv173 := Lib.hid (BRX172.out.on bb (Nat.le_refl _))
  have BHv173 := Lib.hid (BHX172.out.on bb (Nat.le_refl _))
  have POv173 := Lib.hid (POX172.out.on bb (Nat.le_refl _))
  have BOv173 := Lib.hid (BOX172.out.on bb (Nat.le_refl _))
  have Ep1v173 := Lib.hid (Ep1X172.out.on bb (Nat.le_refl _))
  have Gp1v173 := Lib.hid (Gp1X172.out.on bb (Nat.le_refl _))
  have C1v173 := Lib.hid (C1X172.out.on bb (Nat.le_refl _))
  have Ep2v173 := Lib.hid (Ep2X172.out.on bb (Nat.le_refl _))
  have C2v173 := Lib.hid (C2X172.out.on bb (Nat.le_refl _))
  have Ep3v173 := Lib.hid (Ep3X172.out.on bb (Nat.le_refl _))
  have Gp3v173 := Lib.hid (Gp3X172.out.on bb (Nat.le_refl _))
  have C3v173 := Lib.hid (C3X172.out.on bb (Nat.le_refl _))
  have Ep4v173 := Lib.hid (Ep4X172.out.on bb (Nat.le_refl _))
  have C4v173 := Lib.hid (C4X172.out.on bb (Nat.le_refl _))
  have Ep5v173 := Lib.hid (Ep5X172.out.on bb (Nat.le_refl _))
  have Gp5v173 := Lib.hid (Gp5X172.out.on bb (Nat.le_refl _))
  have C5v173 := Lib.hid (C5X172.out.on bb (Nat.le_refl _))
  have Ep6v173 := Lib.hid (oo.wo HP3.out)
  clear oo
  clear bb
  obtain ⟨X174, hX174⟩ : ∃ X, X = v173.alloc (.cells #[.slice p6.a1 d3.hosts.length p6.c1, .slice p6.a2 d3.reps.length p6.c2] 36) := ⟨_, rfl⟩
  have b174 : Below v173.heap.size v173 X174 := by subst hX174; exact (Below.refl _ _).alloc (Nat.le_refl _) _
  have HBX174 := Lib.hid (below_join HBv173.out b174 HBv173.out.size)
  have HSX174 := Lib.hid (below_join HSv173.out b174 HSv173.out.size)
  have PAX174 := Lib.hid (PAv173.out.on b174 (Nat.le_refl _))
  have BWX174 := Lib.hid (BWv173.out.on b174 (Nat.le_refl _))
  have BRX174 := Lib.hid (BRv173.out.on b174 (Nat.le_refl _))
  have BHX174 := Lib.hid (BHv173.out.on b174 (Nat.le_refl _))
  have POX174 := Lib.hid (POv173.out.on b174 (Nat.le_refl _))
  have BOX174 := Lib.hid (BOv173.out.on b174 (Nat.le_refl _))
  have Ep1X174 := Lib.hid (Ep1v173.out.on b174 (Nat.le_refl _))
  have Gp1X174 := Lib.hid (Gp1v173.out.on b174 (Nat.le_refl _))
  have C1X174 := Lib.hid (C1v173.out.on b174 (Nat.le_refl _))
  have Ep2X174 := Lib.hid (Ep2v173.out.on b174 (Nat.le_refl _))
  have C2X174 := Lib.hid (C2v173.out.on b174 (Nat.le_refl _))
  have Ep3X174 := Lib.hid (Ep3v173.out.on b174 (Nat.le_refl _))
  have Gp3X174 := Lib.hid (Gp3v173.out.on b174 (Nat.le_refl _))
  have C3X174 := Lib.hid (C3v173.out.on b174 (Nat.le_refl _))
  have Ep4X174 := Lib.hid (Ep4v173.out.on b174 (Nat.le_refl _))
  have C4X174 := Lib.hid (C4v173.out.on b174 (Nat.le_refl _))
  have Ep5X174 := Lib.hid (Ep5v173.out.on b174 (Nat.le_refl _))
  have Gp5X174 := Lib.hid (Gp5v173.out.on b174 (Nat.le_refl _))
  have C5X174 := Lib.hid (C5v173.out.on b174 (Nat.le_refl _))
  have Ep6X174 := Lib.hid (Ep6v173.out.on b174 (Nat.le_refl _))
  have C6X174 := Lib.hid (show Bx X174 v173.heap.size (woA p6 d3) 36 by subst hX174; exact bx_new _ _ _)
  clear b174
  go_wp2_with (fail)
  rw [← hX174]
  clear hX174
  obtain ⟨z0, z1⟩ := C5X174.out.wo
  obtain ⟨z2, z3⟩ := C6X174.out.wo
  obtain ⟨z4, z5⟩ := BWX174.out.wo
  obtain ⟨z6, z7⟩ := BOX174.out.wo
  go_region_held3 (fun X => X.cell? ⟨v171.heap.size, 0, none⟩ = some (.slice p5.a1 d3.hosts.length p5.c1) ∧ X.cell? ⟨v171.heap.size, 1, none⟩ = some (.slice p5.a2 d3.reps.length p5.c2) ∧ X.cell? ⟨v173.heap.size, 0, none⟩ = some (.slice p6.a1 d3.hosts.length p6.c1) ∧ X.cell? ⟨v173.heap.size, 1, none⟩ = some (.slice p6.a2 d3.reps.length p6.c2) ∧ X.cell? ⟨w.heap.size, 0, none⟩ = some (.slice p.a1 d.hosts.length p.c1) ∧ X.cell? ⟨w.heap.size, 1, none⟩ = some (.slice p.a2 d.reps.length p.c2) ∧ X.cell? ⟨v156.heap.size, 0, none⟩ = some (.slice p0.a1 d.hosts.length p0.c1) ∧ X.cell? ⟨v156.heap.size, 1, none⟩ = some (.slice p0.a2 d.reps.length p0.c2))
    (first | exact ⟨C5v178.out.wo.1, C5v178.out.wo.2, C6v178.out.wo.1, C6v178.out.wo.2, BWv178.out.wo.1, BWv178.out.wo.2, BOv178.out.wo.1, BOv178.out.wo.2⟩ | exact ⟨C5v177.out.wo.1, C5v177.out.wo.2, C6v177.out.wo.1, C6v177.out.wo.2, BWv177.out.wo.1, BWv177.out.wo.2, BOv177.out.wo.1, BOv177.out.wo.2⟩ | exact ⟨C5v176.out.wo.1, C5v176.out.wo.2, C6v176.out.wo.1, C6v176.out.wo.2, BWv176.out.wo.1, BWv176.out.wo.2, BOv176.out.wo.1, BOv176.out.wo.2⟩ | exact ⟨C5v175.out.wo.1, C5v175.out.wo.2, C6v175.out.wo.1, C6v175.out.wo.2, BWv175.out.wo.1, BWv175.out.wo.2, BOv175.out.wo.1, BOv175.out.wo.2⟩ | exact ⟨C5X174.out.wo.1, C5X174.out.wo.2, C6X174.out.wo.1, C6X174.out.wo.2, BWX174.out.wo.1, BWX174.out.wo.2, BOX174.out.wo.1, BOX174.out.wo.2⟩ | fail)
    (first
      | (go_at_call 28; (with_reducible refine (c_sameTo p5 p6 d3 d3 true (same_refl d3) X174.drew (Ep5X174.out.on (Below.refl X174.heap.size X174).drew (Nat.le_refl _)) (Ep6X174.out.on (Below.refl X174.heap.size X174).drew (Nat.le_refl _))).mono ?_); rintro e v175 ⟨rfl, bb0⟩; have bb := below_join (Below.refl X174.heap.size X174).drew bb0 (Nat.le_refl _); have HBv175 := Lib.hid (below_join HBX174.out bb HBX174.out.size); have HSv175 := Lib.hid (below_join HSX174.out bb HSX174.out.size); have PAv175 := Lib.hid (PAX174.out.on bb (Nat.le_refl _)); have BWv175 := Lib.hid (BWX174.out.on bb (Nat.le_refl _)); have BRv175 := Lib.hid (BRX174.out.on bb (Nat.le_refl _)); have BHv175 := Lib.hid (BHX174.out.on bb (Nat.le_refl _)); have POv175 := Lib.hid (POX174.out.on bb (Nat.le_refl _)); have BOv175 := Lib.hid (BOX174.out.on bb (Nat.le_refl _)); have Ep1v175 := Lib.hid (Ep1X174.out.on bb (Nat.le_refl _)); have Gp1v175 := Lib.hid (Gp1X174.out.on bb (Nat.le_refl _)); have C1v175 := Lib.hid (C1X174.out.on bb (Nat.le_refl _)); have Ep2v175 := Lib.hid (Ep2X174.out.on bb (Nat.le_refl _)); have C2v175 := Lib.hid (C2X174.out.on bb (Nat.le_refl _)); have Ep3v175 := Lib.hid (Ep3X174.out.on bb (Nat.le_refl _)); have Gp3v175 := Lib.hid (Gp3X174.out.on bb (Nat.le_refl _)); have C3v175 := Lib.hid (C3X174.out.on bb (Nat.le_refl _)); have Ep4v175 := Lib.hid (Ep4X174.out.on bb (Nat.le_refl _)); have C4v175 := Lib.hid (C4X174.out.on bb (Nat.le_refl _)); have Ep5v175 := Lib.hid (Ep5X174.out.on bb (Nat.le_refl _)); have Gp5v175 := Lib.hid (Gp5X174.out.on bb (Nat.le_refl _)); have C5v175 := Lib.hid (C5X174.out.on bb (Nat.le_refl _)); have Ep6v175 := Lib.hid (Ep6X174.out.on bb (Nat.le_refl _)); have C6v175 := Lib.hid (C6X174.out.on bb (Nat.le_refl _)); clear bb bb0)
      | (go_at_call 31; (with_reducible refine (c_wsTo p p5 d d3 r2 HR2.out v175 PAv175.out Ep5v175.out).mono ?_); rintro e v176 ⟨rfl, bb0⟩; have bb := below_join (Below.refl v175.heap.size v175) bb0 (Nat.le_refl _); have HBv176 := Lib.hid (below_join HBv175.out bb HBv175.out.size); have HSv176 := Lib.hid (below_join HSv175.out bb HSv175.out.size); have PAv176 := Lib.hid (PAv175.out.on bb (Nat.le_refl _)); have BWv176 := Lib.hid (BWv175.out.on bb (Nat.le_refl _)); have BRv176 := Lib.hid (BRv175.out.on bb (Nat.le_refl _)); have BHv176 := Lib.hid (BHv175.out.on bb (Nat.le_refl _)); have POv176 := Lib.hid (POv175.out.on bb (Nat.le_refl _)); have BOv176 := Lib.hid (BOv175.out.on bb (Nat.le_refl _)); have Ep1v176 := Lib.hid (Ep1v175.out.on bb (Nat.le_refl _)); have Gp1v176 := Lib.hid (Gp1v175.out.on bb (Nat.le_refl _)); have C1v176 := Lib.hid (C1v175.out.on bb (Nat.le_refl _)); have Ep2v176 := Lib.hid (Ep2v175.out.on bb (Nat.le_refl _)); have C2v176 := Lib.hid (C2v175.out.on bb (Nat.le_refl _)); have Ep3v176 := Lib.hid (Ep3v175.out.on bb (Nat.le_refl _)); have Gp3v176 := Lib.hid (Gp3v175.out.on bb (Nat.le_refl _)); have C3v176 := Lib.hid (C3v175.out.on bb (Nat.le_refl _)); have Ep4v176 := Lib.hid (Ep4v175.out.on bb (Nat.le_refl _)); have C4v176 := Lib.hid (C4v175.out.on bb (Nat.le_refl _)); have Ep5v176 := Lib.hid (Ep5v175.out.on bb (Nat.le_refl _)); have Gp5v176 := Lib.hid (Gp5v175.out.on bb (Nat.le_refl _)); have C5v176 := Lib.hid (C5v175.out.on bb (Nat.le_refl _)); have Ep6v176 := Lib.hid (Ep6v175.out.on bb (Nat.le_refl _)); have C6v176 := Lib.hid (C6v175.out.on bb (Nat.le_refl _)); clear bb bb0)
      | (go_at_call 28; (with_reducible refine (c_sameTo p0 p6 d d3 r2 HR2.out v176 POv176.out Ep6v176.out).mono ?_); rintro e v177 ⟨rfl, bb0⟩; have bb := below_join (Below.refl v176.heap.size v176) bb0 (Nat.le_refl _); have HBv177 := Lib.hid (below_join HBv176.out bb HBv176.out.size); have HSv177 := Lib.hid (below_join HSv176.out bb HSv176.out.size); have PAv177 := Lib.hid (PAv176.out.on bb (Nat.le_refl _)); have BWv177 := Lib.hid (BWv176.out.on bb (Nat.le_refl _)); have BRv177 := Lib.hid (BRv176.out.on bb (Nat.le_refl _)); have BHv177 := Lib.hid (BHv176.out.on bb (Nat.le_refl _)); have POv177 := Lib.hid (POv176.out.on bb (Nat.le_refl _)); have BOv177 := Lib.hid (BOv176.out.on bb (Nat.le_refl _)); have Ep1v177 := Lib.hid (Ep1v176.out.on bb (Nat.le_refl _)); have Gp1v177 := Lib.hid (Gp1v176.out.on bb (Nat.le_refl _)); have C1v177 := Lib.hid (C1v176.out.on bb (Nat.le_refl _)); have Ep2v177 := Lib.hid (Ep2v176.out.on bb (Nat.le_refl _)); have C2v177 := Lib.hid (C2v176.out.on bb (Nat.le_refl _)); have Ep3v177 := Lib.hid (Ep3v176.out.on bb (Nat.le_refl _)); have Gp3v177 := Lib.hid (Gp3v176.out.on bb (Nat.le_refl _)); have C3v177 := Lib.hid (C3v176.out.on bb (Nat.le_refl _)); have Ep4v177 := Lib.hid (Ep4v176.out.on bb (Nat.le_refl _)); have C4v177 := Lib.hid (C4v176.out.on bb (Nat.le_refl _)); have Ep5v177 := Lib.hid (Ep5v176.out.on bb (Nat.le_refl _)); have Gp5v177 := Lib.hid (Gp5v176.out.on bb (Nat.le_refl _)); have C5v177 := Lib.hid (C5v176.out.on bb (Nat.le_refl _)); have Ep6v177 := Lib.hid (Ep6v176.out.on bb (Nat.le_refl _)); have C6v177 := Lib.hid (C6v176.out.on bb (Nat.le_refl _)); clear bb bb0)
      | (go_at_call 28; (with_reducible refine (c_sameTo p p0 d d true (same_refl d) v177 PAv177.out POv177.out).mono ?_); rintro e v178 ⟨rfl, bb0⟩; have bb := below_join (Below.refl v177.heap.size v177) bb0 (Nat.le_refl _); have HBv178 := Lib.hid (below_join HBv177.out bb HBv177.out.size); have HSv178 := Lib.hid (below_join HSv177.out bb HSv177.out.size); have PAv178 := Lib.hid (PAv177.out.on bb (Nat.le_refl _)); have BWv178 := Lib.hid (BWv177.out.on bb (Nat.le_refl _)); have BRv178 := Lib.hid (BRv177.out.on bb (Nat.le_refl _)); have BHv178 := Lib.hid (BHv177.out.on bb (Nat.le_refl _)); have POv178 := Lib.hid (POv177.out.on bb (Nat.le_refl _)); have BOv178 := Lib.hid (BOv177.out.on bb (Nat.le_refl _)); have Ep1v178 := Lib.hid (Ep1v177.out.on bb (Nat.le_refl _)); have Gp1v178 := Lib.hid (Gp1v177.out.on bb (Nat.le_refl _)); have C1v178 := Lib.hid (C1v177.out.on bb (Nat.le_refl _)); have Ep2v178 := Lib.hid (Ep2v177.out.on bb (Nat.le_refl _)); have C2v178 := Lib.hid (C2v177.out.on bb (Nat.le_refl _)); have Ep3v178 := Lib.hid (Ep3v177.out.on bb (Nat.le_refl _)); have Gp3v178 := Lib.hid (Gp3v177.out.on bb (Nat.le_refl _)); have C3v178 := Lib.hid (C3v177.out.on bb (Nat.le_refl _)); have Ep4v178 := Lib.hid (Ep4v177.out.on bb (Nat.le_refl _)); have C4v178 := Lib.hid (C4v177.out.on bb (Nat.le_refl _)); have Ep5v178 := Lib.hid (Ep5v177.out.on bb (Nat.le_refl _)); have Gp5v178 := Lib.hid (Gp5v177.out.on bb (Nat.le_refl _)); have C5v178 := Lib.hid (C5v177.out.on bb (Nat.le_refl _)); have Ep6v178 := Lib.hid (Ep6v177.out.on bb (Nat.le_refl _)); have C6v178 := Lib.hid (C6v177.out.on bb (Nat.le_refl _)); clear bb bb0)
      | fail)
  clear z0 z1 z2 z3 z4 z5 z6 z7
  obtain ⟨X179, hX179⟩ : ∃ X, X = v178.alloc (.cells #[.slice p1.a1 d1.hosts.length p1.c1, .slice p1.a2 d1.reps.length p1.c2, .slice p3.a1 d2.hosts.length p3.c1, .slice p3.a2 d2.reps.length p3.c2, .slice p5.a1 d3.hosts.length p5.c1, .slice p5.a2 d3.reps.length p5.c2] 36) := ⟨_, rfl⟩
  have b179 : Below v178.heap.size v178 X179 := by subst hX179; exact (Below.refl _ _).alloc (Nat.le_refl _) _
  have HBX179 := Lib.hid (below_join HBv178.out b179 HBv178.out.size)
  have HSX179 := Lib.hid (below_join HSv178.out b179 HSv178.out.size)
  have PAX179 := Lib.hid (PAv178.out.on b179 (Nat.le_refl _))
  have BWX179 := Lib.hid (BWv178.out.on b179 (Nat.le_refl _))
  have BRX179 := Lib.hid (BRv178.out.on b179 (Nat.le_refl _))
  have BHX179 := Lib.hid (BHv178.out.on b179 (Nat.le_refl _))
  have POX179 := Lib.hid (POv178.out.on b179 (Nat.le_refl _))
  have BOX179 := Lib.hid (BOv178.out.on b179 (Nat.le_refl _))
  have Ep1X179 := Lib.hid (Ep1v178.out.on b179 (Nat.le_refl _))
  have Gp1X179 := Lib.hid (Gp1v178.out.on b179 (Nat.le_refl _))
  have C1X179 := Lib.hid (C1v178.out.on b179 (Nat.le_refl _))
  have Ep2X179 := Lib.hid (Ep2v178.out.on b179 (Nat.le_refl _))
  have C2X179 := Lib.hid (C2v178.out.on b179 (Nat.le_refl _))
  have Ep3X179 := Lib.hid (Ep3v178.out.on b179 (Nat.le_refl _))
  have Gp3X179 := Lib.hid (Gp3v178.out.on b179 (Nat.le_refl _))
  have C3X179 := Lib.hid (C3v178.out.on b179 (Nat.le_refl _))
  have Ep4X179 := Lib.hid (Ep4v178.out.on b179 (Nat.le_refl _))
  have C4X179 := Lib.hid (C4v178.out.on b179 (Nat.le_refl _))
  have Ep5X179 := Lib.hid (Ep5v178.out.on b179 (Nat.le_refl _))
  have Gp5X179 := Lib.hid (Gp5v178.out.on b179 (Nat.le_refl _))
  have C5X179 := Lib.hid (C5v178.out.on b179 (Nat.le_refl _))
  have Ep6X179 := Lib.hid (Ep6v178.out.on b179 (Nat.le_refl _))
  have C6X179 := Lib.hid (C6v178.out.on b179 (Nat.le_refl _))
  have CLX179 := Lib.hid (show Bx X179 v178.heap.size #[.slice p1.a1 d1.hosts.length p1.c1, .slice p1.a2 d1.reps.length p1.c2, .slice p3.a1 d2.hosts.length p3.c1, .slice p3.a2 d2.reps.length p3.c2, .slice p5.a1 d3.hosts.length p5.c1, .slice p5.a2 d3.reps.length p5.c2] 36 by subst hX179; exact bx_new _ _ _)
  clear b179
  obtain ⟨rows, hrows⟩ : ∃ rows : List (Option Addr × Nat), rows = [(p1.a1, d1.hosts.length), (p1.a2, d1.reps.length), (p3.a1, d2.hosts.length), (p3.a2, d2.reps.length), (p5.a1, d3.hosts.length), (p5.a2, d3.reps.length)] := ⟨_, rfl⟩
  have HIR := Lib.hid (show ∀ i, i < 3 → ∃ v1 v2, (#[.slice p1.a1 d1.hosts.length p1.c1, .slice p1.a2 d1.reps.length p1.c2, .slice p3.a1 d2.hosts.length p3.c1, .slice p3.a2 d2.reps.length p3.c2, .slice p5.a1 d3.hosts.length p5.c1, .slice p5.a2 d3.reps.length p5.c2] : Array Value)[i * 2]? = some v1 ∧ (#[.slice p1.a1 d1.hosts.length p1.c1, .slice p1.a2 d1.reps.length p1.c2, .slice p3.a1 d2.hosts.length p3.c1, .slice p3.a2 d2.reps.length p3.c2, .slice p5.a1 d3.hosts.length p5.c1, .slice p5.a2 d3.reps.length p5.c2] : Array Value)[i * 2 + 1]? = some v2 ∧ InRows rows v1 v2 from fun i hi => by
    have m1 := Gp1v178.out.bounds; have m3 := Gp3v178.out.bounds; have m5 := Gp5v178.out.bounds
    exact three_rows (InRows rows) hi ⟨_, _, _, _, _, _, rfl, rfl, by rw [hrows]; simp, by rw [hrows]; simp, m1.1, m1.2⟩ ⟨_, _, _, _, _, _, rfl, rfl, by rw [hrows]; simp, by rw [hrows]; simp, m3.1, m3.2⟩ ⟨_, _, _, _, _, _, rfl, rfl, by rw [hrows]; simp, by rw [hrows]; simp, m5.1, m5.2⟩)
  obtain ⟨bl, hbl⟩ : ∃ bl, v178.heap.size = bl := ⟨_, rfl⟩
  obtain ⟨six, hsix⟩ : ∃ six : Array Value, six = #[.slice p1.a1 d1.hosts.length p1.c1, .slice p1.a2 d1.reps.length p1.c2, .slice p3.a1 d2.hosts.length p3.c1, .slice p3.a2 d2.reps.length p3.c2, .slice p5.a1 d3.hosts.length p5.c1, .slice p5.a2 d3.reps.length p5.c2] := ⟨_, rfl⟩
  have HI0 := Lib.hid (show LInv X157.heap.size bl X157 X179 six rows from ⟨HSX179.out, by rw [← hbl, hsix]; exact CLX179.out, fun z hz => by
    have hsz : v178.heap.size ≤ X179.heap.size := by rw [hX179, World.size_alloc]; omega
    have bb : Below v178.heap.size v178 X179 := by rw [hX179]; exact (Below.refl _ _).alloc (Nat.le_refl _) _
    have hr : ∀ (A : Option Addr) (n : Nat), IntsAt X157.heap.size v178.heap.size v178 A n → IntsAt X157.heap.size bl X179 A n := fun A n h k hk => by
      obtain ⟨g, q1, q2, q3, q4, m, q5⟩ := h k hk
      exact ⟨g, q1, q2, by omega, (bb.frozen q3).trans q4, m, (bb.cell q3).trans q5⟩
    have hF1 : ∀ x, ∃ m, hstV x 1 = .int .i64 m := fun x => ⟨_, rfl⟩
    have hF2 : ∀ x, ∃ m, repV x 1 = .int .i64 m := fun x => ⟨_, rfl⟩
    rw [hrows] at hz
    simp only [List.mem_cons, List.not_mem_nil, or_false] at hz
    rcases hz with rfl | rfl | rfl | rfl | rfl | rfl
    · exact hr _ _ (ints_own Gp1v178.out.1 hF1)
    · exact hr _ _ (ints_own Gp1v178.out.2 hF2)
    · exact hr _ _ (ints_own Gp3v178.out.1 hF1)
    · exact hr _ _ (ints_own Gp3v178.out.2 hF2)
    · exact hr _ _ (ints_own Gp5v178.out.1 hF1)
    · exact hr _ _ (ints_own Gp5v178.out.2 hF2)⟩)
  rw [← hsix] at HIR
  have HBL := Lib.hid hbl
  clear hrows
  obtain ⟨z0, z1⟩ := C1v178.out.wo
  obtain ⟨z2, z3⟩ := C3v178.out.wo
  obtain ⟨z4, z5⟩ := C5v178.out.wo
  go_wp2_with (fail)
  rw [← hX179]
  clear hX179 hbl hsix z0 z1 z2 z3 z4 z5
  go_loopw [19] (fun i wr => ∃ k : Nat, k ≤ 3 ∧ i = .int .i64 (k : Int) ∧ Hid (LInv X157.heap.size bl X157 wr six rows)) (fun i _ => 3 - (intOf i).toNat)
  case atStart => exact ⟨0, by omega, rfl, HI0⟩
  case round =>
    obtain ⟨k, hk, rfl, hL⟩ := hrel
    have hki : ((k : Nat) : Int).toNat = k := by omega
    by_cases hlt : k < 3
    · obtain ⟨v1, v2, hv1, hv2, A, n, c, A', n', c', rfl, rfl, hm1, hm2, hn1, hn2⟩ := HIR.out k hlt
      have HV1 := Lib.hid hv1
      have HV2 := Lib.hid hv2
      have HM1 := Lib.hid hm1
      have HM2 := Lib.hid hm2
      have hkl : (k : Int) < 3 := by omega
      clear hv1 hv2 hm1 hm2
      go_wp2_with (fail)
      go_loopw [20] (fun j wr => ∃ t : Nat, t ≤ n ∧ j = .int .i64 (t : Int) ∧ Hid (LInv X157.heap.size bl X157 wr six rows)) (fun j _ => n - (intOf j).toNat)
      case atStart => exact ⟨0, Nat.zero_le _, rfl, hL⟩
      case round =>
        obtain ⟨t, ht, rfl, hM⟩ := hrel
        have hti : ((t : Nat) : Int).toNat = t := by omega
        have y0 := cell_of hM.out.2.1 (o := k * 2) HV1.out
        by_cases hlt2 : t < n
        · obtain ⟨g, m, rfl, q1, q2, hst⟩ := hM.out.store HM1.out hlt2
          have HST := Lib.hid hst
          have htl : (t : Int) < (n : Int) := by omega
          clear hst
          go_wp2_with (fail)
          go_roundw
          case rel => exact ⟨t + 1, by omega, by go_num, Lib.hid (HST.out _)⟩
          case measure => simp only [intOf]; omega
        · obtain rfl : t = n := by omega
          go_wp2_with (fail)
          clear y0
          go_loopw [21] (fun j wr => ∃ t : Nat, t ≤ n' ∧ j = .int .i64 (t : Int) ∧ Hid (LInv X157.heap.size bl X157 wr six rows)) (fun j _ => n' - (intOf j).toNat)
          case atStart => exact ⟨0, Nat.zero_le _, rfl, hM⟩
          case round =>
            obtain ⟨s, hs, rfl, hN⟩ := hrel
            have hsi : ((s : Nat) : Int).toNat = s := by omega
            have y0 := cell_of hN.out.2.1 (o := k * 2 + 1) HV2.out
            by_cases hlt3 : s < n'
            · obtain ⟨g, m, rfl, q1, q2, hst⟩ := hN.out.store HM2.out hlt3
              have HST := Lib.hid hst
              have htl : (s : Int) < (n' : Int) := by omega
              clear hst
              go_wp2_with (fail)
              go_roundw
              case rel => exact ⟨s + 1, by omega, by go_num, Lib.hid (HST.out _)⟩
              case measure => simp only [intOf]; omega
            · obtain rfl : s = n' := by omega
              go_wp2_with (fail)
              go_roundw
              case rel => exact ⟨k + 1, by omega, by go_num, hN⟩
              case measure => simp only [intOf]; omega
    · obtain rfl : k = 3 := by omega
      have LA := Lib.hid (PAX157.out.on hL.out.1 (Nat.le_refl _))
      have LO := Lib.hid (POX157.out.on hL.out.1 (Nat.le_refl _))
      obtain ⟨x0, x1⟩ := (BWX157.out.on hL.out.1 (Nat.le_refl _)).wo
      obtain ⟨y0, y1⟩ := (BOX157.out.on hL.out.1 (Nat.le_refl _)).wo
      have LB := Lib.hid (below_join HBX157.out hL.out.1 HBX157.out.size)
      go_wp2_with (fail)
      clear x0 x1 y0 y1
      go_at_call 28
      refine (c_sameTo p p0 d d true (same_refl d) wr LA.out LO.out).mono ?_
      rintro e v1 ⟨rfl, bb⟩
      have LB1 := Lib.hid (below_join LB.out bb LB.out.size)
      clear bb
      go_wp2_with (fail)
      go_at_call 11
      refine (HLV.out v1).mono ?_
      rintro e v2 ⟨rfl, bb⟩
      have LB2 := Lib.hid (below_join LB1.out bb LB1.out.size)
      clear bb
      go_wp2_with (fail)
      go_ret
      exact ⟨rfl, LB2.out⟩
end Go.Proofs.Ytplncglgolhfaaa
