/-
  DERIVED. the law SiteKnown (written by gen/site_CC.py).
-/
import Derived.Test.YtoknombajocjlaaCI
namespace Go.Proofs.Ytoknombajocjlaa
open Go.RowKit
set_option maxRecDepth 100000
set_option linter.unusedVariables false
set_option linter.unusedSimpArgs false

def noD : SiteD := ⟨[], [], [], [], 0, [], []⟩
def noP : SP := ⟨none, 0, none, 0, none, 0, none, 0, none, 0, none, 0⟩
theorem c_noValid (w : World) : Calls Try.prog 10 #[.agg #[.slice none 0 0, .slice none 0 0, .slice none 0 0, .slice none 0 0, .int .i64 0, .slice none 0 0, .slice none 0 0]] w fun e w' => e = .returned (.bool false) ∧ Below w.heap.size w w' :=
  c_stValid noP noD false (by decide +kernel) w ⟨Rw.nil _ _, Rw.nil _ _, Rw.nil _ _, Rw.nil _ _, Rw.nil _ _, Rw.nil _ _⟩
theorem c_kCount (d : Nat) (hd : d < 256) (n : Int) (hn : cntD exD d = n) (p : SP) (w : World) (h : SiAt w p exD) : Calls Try.prog 12 #[.agg #[.slice p.a1 exD.feeds.length p.c1, .slice p.a2 exD.brks.length p.c2, .slice p.a3 exD.loops.length p.c3, .slice p.a4 exD.racks.length p.c4, .int .i64 exD.sw, .slice p.a5 exD.links.length p.c5, .slice p.a6 exD.hosts.length p.c6], .int .u8 (d : Int)] w fun e w' => e = .returned (.int .i64 n) ∧ Below w.heap.size w w' := c_Count p exD d hd n hn w h
theorem c_kDom (d : Nat) (hd : d < 256) (k n : Int) (hn : domD exD d k = n) (p : SP) (w : World) (h : SiAt w p exD) : Calls Try.prog 14 #[.agg #[.slice p.a1 exD.feeds.length p.c1, .slice p.a2 exD.brks.length p.c2, .slice p.a3 exD.loops.length p.c3, .slice p.a4 exD.racks.length p.c4, .int .i64 exD.sw, .slice p.a5 exD.links.length p.c5, .slice p.a6 exD.hosts.length p.c6], .int .u8 (d : Int), .int .i64 k] w fun e w' => e = .returned (.int .i64 n) ∧ Below w.heap.size w w' := c_DomainOf p exD d hd k n hn w h
theorem c_kMem (d : Nat) (hd : d < 256) (k : Int) (l : List Int) (hl : memD exD d k = l) (p : SP) (w : World) (h : SiAt w p exD) : Calls Try.prog 17 #[.agg #[.slice p.a1 exD.feeds.length p.c1, .slice p.a2 exD.brks.length p.c2, .slice p.a3 exD.loops.length p.c3, .slice p.a4 exD.racks.length p.c4, .int .i64 exD.sw, .slice p.a5 exD.links.length p.c5, .slice p.a6 exD.hosts.length p.c6], .int .u8 (d : Int), .int .i64 k] w fun e w' => ∃ A c, e = .returned (.slice A l.length c) ∧ Rw 1 inF w' A c l ∧ Below w.heap.size w w' := by
  have h1 := c_Members p exD d hd k w h
  rw [hl] at h1
  unfold siV at h1
  refine h1.mono ?_
  rintro e w' ⟨v, rfl, ho, b⟩
  obtain ⟨A, c, rfl, hr⟩ := own_rw ho
  exact ⟨A, c, rfl, hr, b⟩
set_option maxHeartbeats 16000000 in
theorem row_SiteKnown (w : World) : Calls Try.prog 7 #[] w fun e w' => e = .returned (.bool true) ∧ Below w.heap.size w w' := by
  have HE := Lib.hid (fun (X : World) => c_example X)
  have HL := Lib.hid (fun (X : World) => c_live X)
  go_enter Try.func7, Try.ntmps7
  go_wp2_with (fail)
  go_at_call 19
  refine (HE.out w).mono ?_
  rintro e w1 ⟨rfl, a1, b1⟩
  have A1 := Lib.hid a1
  have K1 := Lib.hid b1
  clear a1 b1
  obtain ⟨p, hp⟩ : ∃ p, exP w.heap.size = p := ⟨_, rfl⟩
  rw [hp] at A1 ⊢
  clear hp
  unfold siV
  obtain ⟨V, hV⟩ : ∃ V, V = w1.alloc (.cells #[.slice p.a1 exD.feeds.length p.c1, .slice p.a2 exD.brks.length p.c2, .slice p.a3 exD.loops.length p.c3, .slice p.a4 exD.racks.length p.c4, .int .i64 exD.sw, .slice p.a5 exD.links.length p.c5, .slice p.a6 exD.hosts.length p.c6] 29) := ⟨_, rfl⟩
  have bV : Below w1.heap.size w1 V := by subst hV; exact (Below.refl _ _).alloc (Nat.le_refl _) _
  have HX := Lib.hid (show SiBox V w1.heap.size p exD by subst hV; exact siBox_new _ _ _)
  have HA := Lib.hid (A1.out.on bV (Nat.le_refl _))
  have KV := Lib.hid (below_join K1.out bV K1.out.size)
  have HF := Lib.hid (fun (X : World) (hX : Below V.heap.size V X) => (let z := HX.out.on hX (Nat.le_refl _); ⟨z.c0, z.c1, z.c2, z.c3, z.c4, z.c5, z.c6⟩ : X.cell? ⟨w1.heap.size, 0, none⟩ = some (.slice p.a1 exD.feeds.length p.c1) ∧ X.cell? ⟨w1.heap.size, 1, none⟩ = some (.slice p.a2 exD.brks.length p.c2) ∧ X.cell? ⟨w1.heap.size, 2, none⟩ = some (.slice p.a3 exD.loops.length p.c3) ∧ X.cell? ⟨w1.heap.size, 3, none⟩ = some (.slice p.a4 exD.racks.length p.c4) ∧ X.cell? ⟨w1.heap.size, 4, none⟩ = some (.int .i64 exD.sw) ∧ X.cell? ⟨w1.heap.size, 5, none⟩ = some (.slice p.a5 exD.links.length p.c5) ∧ X.cell? ⟨w1.heap.size, 6, none⟩ = some (.slice p.a6 exD.hosts.length p.c6)))
  have J1 := Lib.hid (Below.refl V.heap.size V)
  have hl1 : w1.heap.size < V.heap.size := HX.out.lt
  clear bV
  obtain ⟨f0, f1, f2, f3, f4, f5, f6⟩ := HF.out V J1.out
  rw [hV] at f0 f1 f2 f3 f4 f5 f6
  go_wp2_with (fail)
  rw [← hV]
  clear hV f0 f1 f2 f3 f4 f5 f6
  go_at_call 10
  refine (c_noValid V).mono ?_
  rintro e w2 ⟨rfl, b2⟩
  have J2 := Lib.hid (below_join J1.out b2 J1.out.size)
  clear b2
  obtain ⟨f0, f1, f2, f3, f4, f5, f6⟩ := HF.out w2 J2.out
  go_wp2_with (fail)
  clear f0 f1 f2 f3 f4 f5 f6
  go_at_call 12
  refine (c_kCount 1 (by decide) 3 (by decide +kernel) p w2 (HA.out.on J2.out (Nat.le_refl _))).mono ?_
  rintro e w3 ⟨rfl, bb⟩
  have J3 := Lib.hid (below_join J2.out bb J2.out.size)
  clear bb
  obtain ⟨f0, f1, f2, f3, f4, f5, f6⟩ := HF.out w3 J3.out
  go_wp2_with (fail)
  clear f0 f1 f2 f3 f4 f5 f6
  go_at_call 12
  refine (c_kCount 2 (by decide) 2 (by decide +kernel) p w3 (HA.out.on J3.out (Nat.le_refl _))).mono ?_
  rintro e w4 ⟨rfl, bb⟩
  have J4 := Lib.hid (below_join J3.out bb J3.out.size)
  clear bb
  obtain ⟨f0, f1, f2, f3, f4, f5, f6⟩ := HF.out w4 J4.out
  go_wp2_with (fail)
  clear f0 f1 f2 f3 f4 f5 f6
  go_at_call 12
  refine (c_kCount 0 (by decide) 0 (by decide +kernel) p w4 (HA.out.on J4.out (Nat.le_refl _))).mono ?_
  rintro e w5 ⟨rfl, bb⟩
  have J5 := Lib.hid (below_join J4.out bb J4.out.size)
  clear bb
  obtain ⟨f0, f1, f2, f3, f4, f5, f6⟩ := HF.out w5 J5.out
  go_wp2_with (fail)
  clear f0 f1 f2 f3 f4 f5 f6
  go_at_call 14
  refine (c_kDom 2 (by decide) 1 0 (by decide +kernel) p w5 (HA.out.on J5.out (Nat.le_refl _))).mono ?_
  rintro e w6 ⟨rfl, bb⟩
  have J6 := Lib.hid (below_join J5.out bb J5.out.size)
  clear bb
  obtain ⟨f0, f1, f2, f3, f4, f5, f6⟩ := HF.out w6 J6.out
  go_wp2_with (fail)
  clear f0 f1 f2 f3 f4 f5 f6
  go_at_call 14
  refine (c_kDom 2 (by decide) 3 (-1) (by decide +kernel) p w6 (HA.out.on J6.out (Nat.le_refl _))).mono ?_
  rintro e w7 ⟨rfl, bb⟩
  have J7 := Lib.hid (below_join J6.out bb J6.out.size)
  clear bb
  obtain ⟨f0, f1, f2, f3, f4, f5, f6⟩ := HF.out w7 J7.out
  go_wp2_with (fail)
  clear f0 f1 f2 f3 f4 f5 f6
  go_at_call 14
  refine (c_kDom 6 (by decide) 0 (-1) (by decide +kernel) p w7 (HA.out.on J7.out (Nat.le_refl _))).mono ?_
  rintro e w8 ⟨rfl, bb⟩
  have J8 := Lib.hid (below_join J7.out bb J7.out.size)
  clear bb
  obtain ⟨f0, f1, f2, f3, f4, f5, f6⟩ := HF.out w8 J8.out
  go_wp2_with (fail)
  clear f0 f1 f2 f3 f4 f5 f6
  go_at_call 17
  refine (c_kMem 3 (by decide) 1 [] (by decide +kernel) p w8 (HA.out.on J8.out (Nat.le_refl _))).mono ?_
  rintro e w9 ⟨A8, c8, rfl, r8, bb⟩
  have J9 := Lib.hid (below_join J8.out bb J8.out.size)
  clear r8
  clear bb
  obtain ⟨f0, f1, f2, f3, f4, f5, f6⟩ := HF.out w9 J9.out
  go_wp2_with (fail)
  clear f0 f1 f2 f3 f4 f5 f6
  go_at_call 17
  refine (c_kMem 4 (by decide) 0 [0, 1, 2] (by decide +kernel) p w9 (HA.out.on J9.out (Nat.le_refl _))).mono ?_
  rintro e w10 ⟨A9, c9, rfl, r9, bb⟩
  have J10 := Lib.hid (below_join J9.out bb J9.out.size)
  have R9 := Lib.hid r9
  clear r9
  clear bb
  obtain ⟨U, hU⟩ : ∃ X, X = w10.alloc (.cells #[.int .i64 0, .int .i64 1, .int .i64 2] 3) := ⟨_, rfl⟩
  have bU : Below w10.heap.size w10 U := by subst hU; exact (Below.refl _ _).alloc (Nat.le_refl _) _
  have RU := Lib.hid (show Rw 1 inF U (some ⟨w10.heap.size, 0, none⟩) 3 [(0 : Int), 1, 2] by subst hU; exact rw_lit [0, 1, 2] (by simp [maxLen]) _)
  have HI := Lib.hid (show Calls Try.prog 16 #[.slice A9 3 c9, .slice (some ⟨w10.heap.size, 0, none⟩) 3 3] U fun e w' => e = .returned (.bool true) ∧ Below U.heap.size U w' from c_Ints A9 (some ⟨w10.heap.size, 0, none⟩) c9 3 [0, 1, 2] [0, 1, 2] U (R9.out.on bU (Nat.le_refl _)) RU.out true (by decide))
  have JU := Lib.hid (below_join J10.out bU J10.out.size)
  clear bU
  obtain ⟨f0, f1, f2, f3, f4, f5, f6⟩ := HF.out w10 J10.out
  go_wp2_with (fail)
  rw [← hU]
  clear hU f0 f1 f2 f3 f4 f5 f6
  go_at_call 16
  refine HI.out.mono ?_
  rintro e w11 ⟨rfl, bb⟩
  have J11 := Lib.hid (below_join JU.out bb JU.out.size)
  clear bb
  obtain ⟨f0, f1, f2, f3, f4, f5, f6⟩ := HF.out w11 J11.out
  go_wp2_with (fail)
  clear f0 f1 f2 f3 f4 f5 f6
  go_at_call 17
  refine (c_kMem 2 (by decide) (-1) [] (by decide +kernel) p w11 (HA.out.on J11.out (Nat.le_refl _))).mono ?_
  rintro e w12 ⟨A10, c10, rfl, r10, bb⟩
  have J12 := Lib.hid (below_join J11.out bb J11.out.size)
  clear r10
  clear bb
  go_wp2_with (fail)
  go_at_call 9
  refine (HL.out w12).mono ?_
  rintro e wz ⟨rfl, bb⟩
  have JZ := Lib.hid (below_join J12.out bb J12.out.size)
  clear bb
  go_wp2_with (fail)
  go_ret
  exact ⟨rfl, below_join KV.out JZ.out KV.out.size⟩
end Go.Proofs.Ytoknombajocjlaa
