/-
  DERIVED. live of the law (written by gen/world_EU.py).
-/
import Derived.Test.YtplncglgolhfaaaEG
import Derived.Test.YtplncglgolhfaaaEJ
import Derived.Test.YtplncglgolhfaaaEK
import Derived.Test.YtplncglgolhfaaaEQ
import Derived.Test.YtplncglgolhfaaaET
import Derived.Test.YtplncglgolhfaaaCF
namespace Go.Proofs.Ytplncglgolhfaaa
open Go.RowKit
set_option maxRecDepth 100000
set_option linter.unusedVariables false
set_option linter.unusedSimpArgs false

/-- A block of cells. -/
def Bx (w : World) (b : Nat) (cs : Array Value) (T : TypeId) : Prop := w.heap[b]? = some (.cells cs T (0, 0))
theorem Bx.on {w w' : World} {b : Nat} {cs : Array Value} {T : TypeId} {B : Nat} (h : Bx w b cs T) (hb : Below B w w') (hB : w.heap.size ≤ B) : Bx w' b cs T := box_on h hb hB
theorem bx_new (w : World) (cs : Array Value) (T : TypeId) : Bx (w.alloc (.cells cs T)) w.heap.size cs T := box_new _ _ _
theorem Bx.wo {w : World} {b : Nat} {p : WP} {d : WorldD} {T : TypeId} (h : Bx w b (woA p d) T) : w.cell? ⟨b, 0, none⟩ = some (.slice p.a1 d.hosts.length p.c1) ∧ w.cell? ⟨b, 1, none⟩ = some (.slice p.a2 d.reps.length p.c2) := ⟨cell_of h rfl, cell_of h rfl⟩
theorem Bx.rp {w : World} {b : Nat} {x : Rep} {T : TypeId} (h : Bx w b #[.int .i64 x.svc, .int .i64 x.host] T) : w.cell? ⟨b, 0, none⟩ = some (.int .i64 x.svc) ∧ w.cell? ⟨b, 1, none⟩ = some (.int .i64 x.host) := ⟨cell_of h rfl, cell_of h rfl⟩
/-- A result that is known. -/
def ToW (w : World) (d : WorldD) (n : Int) (e : Ending) (w' : World) : Prop :=
  ∃ p, e = .returned (.tuple #[.agg #[.slice p.a1 d.hosts.length p.c1, .slice p.a2 d.reps.length p.c2], .int .i64 n]) ∧ OwnW w.heap.size w' p d ∧ Below w.heap.size w w'
theorem resW_to {w w' : World} {q : WorldD × Int} {d : WorldD} {n : Int} {e : Ending} (hq : q = (d, n)) (h : ResW w q e w') : ToW w d n e w' := by subst hq; exact h
theorem c_startTo (p : WP) (d : WorldD) (x : Rep) (d' : WorldD) (n : Int) (hq : startP d x = (d', n)) (hm : d.reps.length ≤ 1000) (hm2 : d.hosts.length ≤ 1000) (w : World) (h : WoAt w p d) :
    Calls Try.prog 26 #[.agg #[.slice p.a1 d.hosts.length p.c1, .slice p.a2 d.reps.length p.c2], .agg #[.int .i64 x.svc, .int .i64 x.host]] w (ToW w d' n) := (c_woStart p d x hm hm2 w h).mono fun e w' h => resW_to hq h
theorem c_stopTo (p : WP) (d : WorldD) (x : Rep) (d' : WorldD) (n : Int) (hq : stopP d x = (d', n)) (hm : d.reps.length ≤ 1000) (hm2 : d.hosts.length ≤ 1000) (w : World) (h : WoAt w p d) :
    Calls Try.prog 29 #[.agg #[.slice p.a1 d.hosts.length p.c1, .slice p.a2 d.reps.length p.c2], .agg #[.int .i64 x.svc, .int .i64 x.host]] w (ToW w d' n) := (c_woStop p d x hm hm2 w h).mono fun e w' h => resW_to hq h
theorem c_setTo (p : WP) (d : WorldD) (host : Int) (x : Hst) (d' : WorldD) (n : Int) (hq : setP d host x = (d', n)) (hm : d.reps.length ≤ 1000) (hm2 : d.hosts.length ≤ 1000) (w : World) (h : WoAt w p d) :
    Calls Try.prog 32 #[.agg #[.slice p.a1 d.hosts.length p.c1, .slice p.a2 d.reps.length p.c2], .int .i64 host, .agg #[.int .u8 (x.phase : Int), .int .i64 x.fw]] w (ToW w d' n) := (c_woSet p d host x hm hm2 w h).mono fun e w' h => resW_to hq h
theorem c_siteTo (w : World) : Calls Try.prog 36 #[] w fun e w' => ∃ p, e = .returned (siV p exD) ∧ SiAt w' p exD ∧ Below w.heap.size w w' := (c_site w).mono fun e w' h => ⟨_, h.1, h.2.1, h.2.2⟩
theorem c_wishTo (w : World) : Calls Try.prog 35 #[] w fun e w' => ∃ A c, e = .returned (.agg #[.slice A wxs.length c]) ∧ WiAt w' A c wxs ∧ Below w.heap.size w w' := (c_wish w).mono fun e w' h => ⟨_, _, h.1, h.2.1, h.2.2⟩
theorem c_exTo (w : World) : Calls Try.prog 34 #[] w fun e w' => ∃ p, e = .returned (.agg #[.slice p.a1 exW.hosts.length p.c1, .slice p.a2 exW.reps.length p.c2]) ∧ OwnW w.heap.size w' p exW ∧ Below w.heap.size w w' := c_example w
theorem c_usedTo (A : Option Addr) (c : Nat) (xs : List (Svc × SvA)) (p : WP) (d : WorldD) (host z : Int) (hz : usedD (svs xs) d.reps host = z) (w : World) (hx : WiAt w A c xs) (h : WoAt w p d) :
    Calls Try.prog 23 #[.agg #[.slice A xs.length c], .agg #[.slice p.a1 d.hosts.length p.c1, .slice p.a2 d.reps.length p.c2], .int .i64 host] w fun e w' => e = .returned (.int .i64 z) ∧ Below w.heap.size w w' := by subst hz; exact c_woUsed A c xs p d host w hx h
theorem c_whereTo (p : WP) (d : WorldD) (s : Int) (l : List Int) (hl : whereD d.reps s = l) (hm : d.reps.length ≤ 1000) (w : World) (h : WoAt w p d) :
    Calls Try.prog 19 #[.agg #[.slice p.a1 d.hosts.length p.c1, .slice p.a2 d.reps.length p.c2], .int .i64 s] w fun e w' => ∃ A c, e = .returned (.slice A l.length c) ∧ Rw 1 inF w' A c l ∧ Below w.heap.size w w' := by
  subst hl
  refine (c_woWhere p d s hm w h).mono ?_
  rintro e w' ⟨v, rfl, ho, b⟩
  obtain ⟨A, c, rfl, hr⟩ := own_rw ho
  exact ⟨A, c, rfl, hr, b⟩
theorem c_runsTo (p : WP) (d : WorldD) (s z : Int) (hz : ((whereD d.reps s).length : Int) = z) (hm : d.reps.length ≤ 1000) (w : World) (h : WoAt w p d) :
    Calls Try.prog 16 #[.agg #[.slice p.a1 d.hosts.length p.c1, .slice p.a2 d.reps.length p.c2], .int .i64 s] w fun e w' => e = .returned (.int .i64 z) ∧ Below w.heap.size w w' := by subst hz; exact c_woRuns p d s hm w h
def dA : WorldD := ⟨[⟨0, 0⟩, ⟨0, 0⟩, ⟨0, 0⟩], [⟨0, 0⟩, ⟨0, 1⟩, ⟨0, 2⟩, ⟨1, 0⟩]⟩
def dB : WorldD := ⟨[⟨0, 0⟩, ⟨0, 0⟩, ⟨0, 0⟩], [⟨0, 0⟩, ⟨1, 0⟩]⟩
theorem startA : startP exW ⟨0, 1⟩ = (dA, 0) := by kernel_rfl
theorem stopB : stopP exW ⟨0, 2⟩ = (dB, 0) := by kernel_rfl
theorem exWish : WishOk (svs wxs) := by
  refine ⟨by decide, fun i s h => ?_, by decide⟩
  match i, h with
  | 0, h => obtain rfl : _ = s := Option.some.inj h; decide +kernel
  | 1, h => obtain rfl : _ = s := Option.some.inj h; decide +kernel
theorem exOk : WorldOk exD (svs wxs) exW := ⟨by decide +kernel, exWish, by decide, by decide +kernel, by decide, by decide +kernel, by decide +kernel⟩
set_option maxHeartbeats 16000000 in
theorem c_live (w : World) : Calls Try.prog 11 #[] w fun e w' => e = .returned (.bool true) ∧ Below w.heap.size w w' := by
  have HBw := Lib.hid (Below.refl w.heap.size w)
  have HEX := Lib.hid (fun (X : World) => c_exTo X)
  have HSI := Lib.hid (fun (X : World) => c_siteTo X)
  have HWI := Lib.hid (fun (X : World) => c_wishTo X)
  have HV := Lib.hid (fun (p : SP) (A : Option Addr) (c : Nat) (q : WP) (X : World) (h1 : SiAt X p exD) (h2 : WiAt X A c wxs) (h3 : WoAt X q exW) => (show Calls Try.prog 14 #[siV p exD, .agg #[.slice A wxs.length c], .agg #[.slice q.a1 exW.hosts.length q.c1, .slice q.a2 exW.reps.length q.c2]] X fun e w' => e = .returned (.bool true) ∧ Below X.heap.size X w' from c_woValid p exD A c wxs q exW true ⟨fun _ => exOk, fun _ => rfl⟩ X h1 h2 h3))
  go_enter Try.func11, Try.ntmps11
  go_wp2_with (fail)
  go_at_call 34
  refine (HEX.out w).mono ?_
  rintro e v1 ⟨p1, rfl, o1, bb⟩
  have HBv1 := Lib.hid (below_join HBw.out bb HBw.out.size)
  have E1v1 := Lib.hid (o1.wo (by simp [exW])); clear o1
  clear bb
  go_wp2_with (fail)
  go_at_call 26
  refine (c_startTo p1 exW ⟨0, 1⟩ dA 0 startA (by decide) (by decide) v1 E1v1.out).mono ?_
  rintro e v2 ⟨p2, rfl, o2, bb⟩
  have HBv2 := Lib.hid (below_join HBv1.out bb HBv1.out.size)
  have E1v2 := Lib.hid (E1v1.out.on bb (Nat.le_refl _))
  have E2v2 := Lib.hid (o2.wo (by simp [dA])); clear o2
  clear bb
  obtain ⟨X3, hX3⟩ : ∃ X, X = v2.alloc (.cells #[.slice p2.a1 dA.hosts.length p2.c1, .slice p2.a2 dA.reps.length p2.c2] 36) := ⟨_, rfl⟩
  have b3 : Below v2.heap.size v2 X3 := by subst hX3; exact (Below.refl _ _).alloc (Nat.le_refl _) _
  have HBX3 := Lib.hid (below_join HBv2.out b3 HBv2.out.size)
  have E2X3 := Lib.hid (E2v2.out.on b3 (Nat.le_refl _))
  have BAX3 := Lib.hid (show Bx X3 v2.heap.size (woA p2 dA) 36 by subst hX3; exact bx_new _ _ _)
  clear b3
  go_wp2_with (fail)
  rw [← hX3]
  clear hX3
  go_at_call 34
  refine (HEX.out X3).mono ?_
  rintro e v4 ⟨p3, rfl, o3, bb⟩
  have HBv4 := Lib.hid (below_join HBX3.out bb HBX3.out.size)
  have E2v4 := Lib.hid (E2X3.out.on bb (Nat.le_refl _))
  have BAv4 := Lib.hid (BAX3.out.on bb (Nat.le_refl _))
  have E3v4 := Lib.hid (o3.wo (by simp [exW])); clear o3
  clear bb
  go_wp2_with (fail)
  go_at_call 29
  refine (c_stopTo p3 exW ⟨0, 2⟩ dB 0 stopB (by decide) (by decide) v4 E3v4.out).mono ?_
  rintro e v5 ⟨p4, rfl, o4, bb⟩
  have HBv5 := Lib.hid (below_join HBv4.out bb HBv4.out.size)
  have E2v5 := Lib.hid (E2v4.out.on bb (Nat.le_refl _))
  have BAv5 := Lib.hid (BAv4.out.on bb (Nat.le_refl _))
  have E3v5 := Lib.hid (E3v4.out.on bb (Nat.le_refl _))
  have E4v5 := Lib.hid (o4.wo (by simp [dB])); clear o4
  clear bb
  obtain ⟨X6, hX6⟩ : ∃ X, X = v5.alloc (.cells #[.slice p4.a1 dB.hosts.length p4.c1, .slice p4.a2 dB.reps.length p4.c2] 36) := ⟨_, rfl⟩
  have b6 : Below v5.heap.size v5 X6 := by subst hX6; exact (Below.refl _ _).alloc (Nat.le_refl _) _
  have HBX6 := Lib.hid (below_join HBv5.out b6 HBv5.out.size)
  have E2X6 := Lib.hid (E2v5.out.on b6 (Nat.le_refl _))
  have BAX6 := Lib.hid (BAv5.out.on b6 (Nat.le_refl _))
  have E4X6 := Lib.hid (E4v5.out.on b6 (Nat.le_refl _))
  have BBX6 := Lib.hid (show Bx X6 v5.heap.size (woA p4 dB) 36 by subst hX6; exact bx_new _ _ _)
  clear b6
  go_wp2_with (fail)
  rw [← hX6]
  clear hX6
  go_at_call 36
  refine (HSI.out X6).mono ?_
  rintro e v7 ⟨ps, rfl, os, bb⟩
  have HBv7 := Lib.hid (below_join HBX6.out bb HBX6.out.size)
  have E2v7 := Lib.hid (E2X6.out.on bb (Nat.le_refl _))
  have BAv7 := Lib.hid (BAX6.out.on bb (Nat.le_refl _))
  have E4v7 := Lib.hid (E4X6.out.on bb (Nat.le_refl _))
  have BBv7 := Lib.hid (BBX6.out.on bb (Nat.le_refl _))
  have S5v7 := Lib.hid os; clear os
  clear bb
  go_wp2_with (fail)
  go_at_call 35
  refine (HWI.out v7).mono ?_
  rintro e v8 ⟨Aw, cw, rfl, ow, bb⟩
  have HBv8 := Lib.hid (below_join HBv7.out bb HBv7.out.size)
  have E2v8 := Lib.hid (E2v7.out.on bb (Nat.le_refl _))
  have BAv8 := Lib.hid (BAv7.out.on bb (Nat.le_refl _))
  have E4v8 := Lib.hid (E4v7.out.on bb (Nat.le_refl _))
  have BBv8 := Lib.hid (BBv7.out.on bb (Nat.le_refl _))
  have S5v8 := Lib.hid (S5v7.out.on bb (Nat.le_refl _))
  have W6v8 := Lib.hid ow; clear ow
  clear bb
  go_wp2_with (fail)
  go_at_call 34
  refine (HEX.out v8).mono ?_
  rintro e v9 ⟨p7, rfl, o7, bb⟩
  have HBv9 := Lib.hid (below_join HBv8.out bb HBv8.out.size)
  have E2v9 := Lib.hid (E2v8.out.on bb (Nat.le_refl _))
  have BAv9 := Lib.hid (BAv8.out.on bb (Nat.le_refl _))
  have E4v9 := Lib.hid (E4v8.out.on bb (Nat.le_refl _))
  have BBv9 := Lib.hid (BBv8.out.on bb (Nat.le_refl _))
  have S5v9 := Lib.hid (S5v8.out.on bb (Nat.le_refl _))
  have W6v9 := Lib.hid (W6v8.out.on bb (Nat.le_refl _))
  have E7v9 := Lib.hid (o7.wo (by simp [exW])); clear o7
  clear bb
  go_wp2_with (fail)
  go_at_call 14
  refine (HV.out ps Aw cw p7 v9 S5v9.out W6v9.out E7v9.out).mono ?_
  rintro e v10 ⟨rfl, bb⟩
  have HBv10 := Lib.hid (below_join HBv9.out bb HBv9.out.size)
  have E2v10 := Lib.hid (E2v9.out.on bb (Nat.le_refl _))
  have BAv10 := Lib.hid (BAv9.out.on bb (Nat.le_refl _))
  have E4v10 := Lib.hid (E4v9.out.on bb (Nat.le_refl _))
  have BBv10 := Lib.hid (BBv9.out.on bb (Nat.le_refl _))
  have S5v10 := Lib.hid (S5v9.out.on bb (Nat.le_refl _))
  have W6v10 := Lib.hid (W6v9.out.on bb (Nat.le_refl _))
  have E7v10 := Lib.hid (E7v9.out.on bb (Nat.le_refl _))
  clear bb
  go_wp2_with (fail)
  go_at_call 35
  refine (HWI.out v10).mono ?_
  rintro e v11 ⟨Ax, cx, rfl, ow, bb⟩
  have HBv11 := Lib.hid (below_join HBv10.out bb HBv10.out.size)
  have E2v11 := Lib.hid (E2v10.out.on bb (Nat.le_refl _))
  have BAv11 := Lib.hid (BAv10.out.on bb (Nat.le_refl _))
  have E4v11 := Lib.hid (E4v10.out.on bb (Nat.le_refl _))
  have BBv11 := Lib.hid (BBv10.out.on bb (Nat.le_refl _))
  have W8v11 := Lib.hid ow; clear ow
  clear bb
  go_wp2_with (fail)
  go_at_call 34
  refine (HEX.out v11).mono ?_
  rintro e v12 ⟨p9, rfl, o9, bb⟩
  have HBv12 := Lib.hid (below_join HBv11.out bb HBv11.out.size)
  have E2v12 := Lib.hid (E2v11.out.on bb (Nat.le_refl _))
  have BAv12 := Lib.hid (BAv11.out.on bb (Nat.le_refl _))
  have E4v12 := Lib.hid (E4v11.out.on bb (Nat.le_refl _))
  have BBv12 := Lib.hid (BBv11.out.on bb (Nat.le_refl _))
  have W8v12 := Lib.hid (W8v11.out.on bb (Nat.le_refl _))
  have E9v12 := Lib.hid (o9.wo (by simp [exW])); clear o9
  clear bb
  go_wp2_with (fail)
  go_at_call 23
  refine (c_usedTo Ax cx wxs p9 exW 0 3 (by decide +kernel) v12 W8v12.out E9v12.out).mono ?_
  rintro e v13 ⟨rfl, bb⟩
  have HBv13 := Lib.hid (below_join HBv12.out bb HBv12.out.size)
  have E2v13 := Lib.hid (E2v12.out.on bb (Nat.le_refl _))
  have BAv13 := Lib.hid (BAv12.out.on bb (Nat.le_refl _))
  have E4v13 := Lib.hid (E4v12.out.on bb (Nat.le_refl _))
  have BBv13 := Lib.hid (BBv12.out.on bb (Nat.le_refl _))
  have W8v13 := Lib.hid (W8v12.out.on bb (Nat.le_refl _))
  have E9v13 := Lib.hid (E9v12.out.on bb (Nat.le_refl _))
  clear bb
  go_wp2_with (fail)
  go_at_call 34
  refine (HEX.out v13).mono ?_
  rintro e v14 ⟨p10, rfl, o10, bb⟩
  have HBv14 := Lib.hid (below_join HBv13.out bb HBv13.out.size)
  have E2v14 := Lib.hid (E2v13.out.on bb (Nat.le_refl _))
  have BAv14 := Lib.hid (BAv13.out.on bb (Nat.le_refl _))
  have E4v14 := Lib.hid (E4v13.out.on bb (Nat.le_refl _))
  have BBv14 := Lib.hid (BBv13.out.on bb (Nat.le_refl _))
  have E10v14 := Lib.hid (o10.wo (by simp [exW])); clear o10
  clear bb
  go_wp2_with (fail)
  go_at_call 19
  refine (c_whereTo p10 exW 0 [0, 2] (by decide +kernel) (by decide) v14 E10v14.out).mono ?_
  rintro e v15 ⟨Ay, cy, rfl, oy, bb⟩
  have HBv15 := Lib.hid (below_join HBv14.out bb HBv14.out.size)
  have E2v15 := Lib.hid (E2v14.out.on bb (Nat.le_refl _))
  have BAv15 := Lib.hid (BAv14.out.on bb (Nat.le_refl _))
  have E4v15 := Lib.hid (E4v14.out.on bb (Nat.le_refl _))
  have BBv15 := Lib.hid (BBv14.out.on bb (Nat.le_refl _))
  have E10v15 := Lib.hid (E10v14.out.on bb (Nat.le_refl _))
  have R11v15 := Lib.hid oy; clear oy
  clear bb
  obtain ⟨X16, hX16⟩ : ∃ X, X = v15.alloc (.cells #[.int .i64 0, .int .i64 2] 3) := ⟨_, rfl⟩
  have b16 : Below v15.heap.size v15 X16 := by subst hX16; exact (Below.refl _ _).alloc (Nat.le_refl _) _
  have HBX16 := Lib.hid (below_join HBv15.out b16 HBv15.out.size)
  have E2X16 := Lib.hid (E2v15.out.on b16 (Nat.le_refl _))
  have BAX16 := Lib.hid (BAv15.out.on b16 (Nat.le_refl _))
  have E4X16 := Lib.hid (E4v15.out.on b16 (Nat.le_refl _))
  have BBX16 := Lib.hid (BBv15.out.on b16 (Nat.le_refl _))
  have R11X16 := Lib.hid (R11v15.out.on b16 (Nat.le_refl _))
  have R12X16 := Lib.hid (show Rw 1 inF X16 (some ⟨v15.heap.size, 0, none⟩) 2 [(0 : Int), 2] by subst hX16; exact rw_lit [0, 2] (by decide) _)
  clear b16
  go_wp2_with (fail)
  rw [← hX16]
  clear hX16
  go_at_call 18
  refine (c_Ints Ay (some ⟨v15.heap.size, 0, none⟩) cy 2 [0, 2] [0, 2] X16 R11X16.out R12X16.out true (by decide)).mono ?_
  rintro e v17 ⟨rfl, bb⟩
  have HBv17 := Lib.hid (below_join HBX16.out bb HBX16.out.size)
  have E2v17 := Lib.hid (E2X16.out.on bb (Nat.le_refl _))
  have BAv17 := Lib.hid (BAX16.out.on bb (Nat.le_refl _))
  have E4v17 := Lib.hid (E4X16.out.on bb (Nat.le_refl _))
  have BBv17 := Lib.hid (BBX16.out.on bb (Nat.le_refl _))
  have R11v17 := Lib.hid (R11X16.out.on bb (Nat.le_refl _))
  have R12v17 := Lib.hid (R12X16.out.on bb (Nat.le_refl _))
  clear bb
  obtain ⟨X18, hX18⟩ : ∃ X, X = v17.alloc (.cells #[.int .i64 0, .int .i64 0, .int .i64 0, .int .i64 1, .int .i64 0, .int .i64 2, .int .i64 1, .int .i64 0] 41) := ⟨_, rfl⟩
  have b18 : Below v17.heap.size v17 X18 := by subst hX18; exact (Below.refl _ _).alloc (Nat.le_refl _) _
  have HBX18 := Lib.hid (below_join HBv17.out b18 HBv17.out.size)
  have E2X18 := Lib.hid (E2v17.out.on b18 (Nat.le_refl _))
  have BAX18 := Lib.hid (BAv17.out.on b18 (Nat.le_refl _))
  have E4X18 := Lib.hid (E4v17.out.on b18 (Nat.le_refl _))
  have BBX18 := Lib.hid (BBv17.out.on b18 (Nat.le_refl _))
  have RLX18 := Lib.hid (show Rv 2 repV X18 (some ⟨v17.heap.size, 0, none⟩) 4 ([⟨0, 0⟩, ⟨0, 1⟩, ⟨0, 2⟩, ⟨1, 0⟩] : List Rep) by subst hX18; exact rv_block (α := Rep) (k := 2) (F := repV) (l := [⟨0, 0⟩, ⟨0, 1⟩, ⟨0, 2⟩, ⟨1, 0⟩]) (box_new _ _ _) (by simp [maxLen]))
  clear b18
  obtain ⟨x0, x1⟩ := BAv17.out.wo
  go_wp2_with (fail)
  rw [← hX18]
  clear hX18
  clear x0 x1
  go_at_call 37
  refine (c_replicas p2 dA (some ⟨v17.heap.size, 0, none⟩) 4 [⟨0, 0⟩, ⟨0, 1⟩, ⟨0, 2⟩, ⟨1, 0⟩] true (by decide) X18 E2X18.out.reps RLX18.out).mono ?_
  rintro e v19 ⟨rfl, bb⟩
  have HBv19 := Lib.hid (below_join HBX18.out bb HBX18.out.size)
  have E2v19 := Lib.hid (E2X18.out.on bb (Nat.le_refl _))
  have BAv19 := Lib.hid (BAX18.out.on bb (Nat.le_refl _))
  have E4v19 := Lib.hid (E4X18.out.on bb (Nat.le_refl _))
  have BBv19 := Lib.hid (BBX18.out.on bb (Nat.le_refl _))
  have RLv19 := Lib.hid (RLX18.out.on bb (Nat.le_refl _))
  clear bb
  obtain ⟨X20, hX20⟩ : ∃ X, X = v19.alloc (.cells #[.int .i64 0, .int .i64 0, .int .i64 1, .int .i64 0] 41) := ⟨_, rfl⟩
  have b20 : Below v19.heap.size v19 X20 := by subst hX20; exact (Below.refl _ _).alloc (Nat.le_refl _) _
  have HBX20 := Lib.hid (below_join HBv19.out b20 HBv19.out.size)
  have E4X20 := Lib.hid (E4v19.out.on b20 (Nat.le_refl _))
  have BBX20 := Lib.hid (BBv19.out.on b20 (Nat.le_refl _))
  have RLX20 := Lib.hid (show Rv 2 repV X20 (some ⟨v19.heap.size, 0, none⟩) 2 ([⟨0, 0⟩, ⟨1, 0⟩] : List Rep) by subst hX20; exact rv_block (α := Rep) (k := 2) (F := repV) (l := [⟨0, 0⟩, ⟨1, 0⟩]) (box_new _ _ _) (by simp [maxLen]))
  clear b20
  obtain ⟨x0, x1⟩ := BBv19.out.wo
  go_wp2_with (fail)
  rw [← hX20]
  clear hX20
  clear x0 x1
  go_at_call 37
  refine (c_replicas p4 dB (some ⟨v19.heap.size, 0, none⟩) 2 [⟨0, 0⟩, ⟨1, 0⟩] true (by decide) X20 E4X20.out.reps RLX20.out).mono ?_
  rintro e v21 ⟨rfl, bb⟩
  have HBv21 := Lib.hid (below_join HBX20.out bb HBX20.out.size)
  have E4v21 := Lib.hid (E4X20.out.on bb (Nat.le_refl _))
  have BBv21 := Lib.hid (BBX20.out.on bb (Nat.le_refl _))
  have RLv21 := Lib.hid (RLX20.out.on bb (Nat.le_refl _))
  clear bb
  go_wp2_with (fail)
  go_ret
  exact ⟨rfl, HBv21.out⟩
end Go.Proofs.Ytplncglgolhfaaa
