/-
  DERIVED. Several texts in one.
-/
import Derived.Test.YtjheaeeeeggncaaPB4
import Derived.Test.YtjheaeeeeggncaaPB1
set_option linter.unusedVariables false
set_option linter.unusedSimpArgs false

namespace Go.Proofs.Ytjheaeeeeggncaa
open Go.RowKit Go.Shelf
attribute [local go_sem] Oper.semAt_some
set_option maxRecDepth 100000
set_option linter.unusedVariables false
set_option linter.unusedSimpArgs false

theorem has_any {t : Nat} {x : Int} {L : List Nat} (ht : t < 2 ^ 12) (h : lst 12 t = L) : (decide (0 ≤ x) && t.testBit x.toNat) = L.any (fun (i : Nat) => (i : Int) == x) := by
  rw [Bool.eq_iff_iff, Bool.and_eq_true, decide_eq_true_eq, List.any_eq_true, ← h]
  constructor
  · rintro ⟨h1, h2⟩
    refine ⟨x.toNat, lst_mem.2 ⟨?_, h2⟩, by rw [beq_iff_eq]; omega⟩
    rcases Nat.lt_or_ge x.toNat 12 with g | g
    · exact g
    · rw [Nat.testBit_lt_two_pow (Nat.lt_of_lt_of_le ht (Nat.pow_le_pow_right (by omega) g))] at h2; cases h2
  · rintro ⟨i, h1, h2⟩
    have h2 := eq_of_beq h2
    subst h2
    exact ⟨by omega, by rw [Int.toNat_natCast]; exact (lst_mem.1 h1).2⟩
/-- What rank answers. -/
def RkTo (w : World) (n : Nat) (f : Nat → Nat) (line : List Int) (e : Ending) (w' : World) : Prop :=
  ((∃ k : Nat, e = .returned (.tuple #[.int .i64 (k : Int), .bool true]) ∧ line.length = n ∧ rkL n f line 0 0 = some k) ∨ (e = .returned (.tuple #[.int .i64 0, .bool false]) ∧ ¬ (line.length = n ∧ (rkL n f line 0 0).isSome = true))) ∧ Below w.heap.size w w'
/-- Between two rounds of the outer loop: kB, wB, cB: the boxes of k, ways and come. -/
structure RkS (w : World) (n : Nat) (f : Nat → Nat) (a : WyA) (wB cB : Nat) (u k : Nat) (X : World) : Prop where
  kb : X.heap[w.heap.size]? = some (.cells #[.int .i64 (k : Int)] 3 (0, 0))
  wb : X.heap[wB]? = some (.cells #[a.fn] 81 (0, 0))
  cb : X.heap[cB]? = some (.cells #[.int .u16 (u : Int)] 72 (0, 0))
  at_ : ∃ tab, WyAt n f a tab X
  bel : Below w.heap.size w X
/-- Between two rounds of the inner loop. -/
structure RkI (w : World) (n : Nat) (f : Nat → Nat) (a : WyA) (wB cB iB mB : Nat) (bs : List Nat) (u : Nat) (x : Int) (k : Nat) (Y : World) (pre : List Nat) (X : World) : Prop where
  kb : X.heap[w.heap.size]? = some (.cells #[.int .i64 ((k + lesW n f u x pre : Nat) : Int)] 3 (0, 0))
  wb : X.heap[wB]? = some (.cells #[a.fn] 81 (0, 0))
  cb : X.heap[cB]? = some (.cells #[.int .u16 (u : Int)] 72 (0, 0))
  ib : X.heap[iB]? = some (.cells #[.int .i64 x] 3 (0, 0))
  at_ : ∃ tab, WyAt n f a tab X
  bel : Below w.heap.size w X
  mks : Mks mB bs X
  sz : Y.heap.size ≤ X.heap.size
theorem own_cells' {S : Nat} {X Y : World} (hE : OwnIt S 0 X Y) (k : Nat) (cs : Array Value) (T : TypeId) (fr : Nat × Nat) (ho : X.heap[k]? = some (.cells cs T fr)) : Y.heap[k]? = some (.cells cs T fr) := by
  rcases Nat.lt_or_ge k S with g | g
  · exact hE.same k _ ho (.inl g)
  · exact hE.same k _ ho (.inr ⟨rfl, g⟩)
theorem WyAt.own {n S : Nat} {f : Nat → Nat} {a : WyA} {tab : List (Nat × Nat)} {X Y : World} (h : WyAt n f a tab X) (hE : OwnIt S 0 X Y) (hM : a.M < S) : WyAt n f a tab Y :=
  ⟨own_cells' hE _ _ _ _ h.blk, own_cells' hE _ _ _ _ h.known, h.map.keep fun o ho => hE.same _ _ ho (.inl hM), own_cells' hE _ _ _ _ h.ord, own_cells' hE _ _ _ _ h.clo, h.ok, h.all⟩
theorem WyAt.put {n l : Nat} {f : Nat → Nat} {a : WyA} {tab : List (Nat × Nat)} {X : World} {o o' : Obj} (h : WyAt n f a tab X) (hM : a.M ≠ l) (ho : X.heap[l]? = some o) (hc : o.isCells = false) : WyAt n f a tab (X.putObj l o') :=
  ⟨put_cells h.blk ho hc, put_cells h.known ho hc, h.map.keep fun o hh => put_else hh hM, put_cells h.ord ho hc, put_cells h.clo ho hc, h.ok, h.all⟩
theorem RkI.own {w : World} {n wB cB iB mB S : Nat} {f : Nat → Nat} {a : WyA} {bs : List Nat} {u k : Nat} {x : Int} {Y : World} {pre : List Nat} {X Z : World} (h : RkI w n f a wB cB iB mB bs u x k Y pre X) (hE : OwnIt S 0 X Z) (hY : Y.heap.size ≤ S) (hw : w.heap.size ≤ S) (hM : a.M < S) (hbs : ∀ b ∈ bs, b < S) : RkI w n f a wB cB iB mB bs u x k Y pre Z := by
  obtain ⟨tab, ht⟩ := h.at_
  exact ⟨own_cells' hE _ _ _ _ h.kb, own_cells' hE _ _ _ _ h.wb, own_cells' hE _ _ _ _ h.cb, own_cells' hE _ _ _ _ h.ib, ⟨tab, ht.own hE hM⟩, below_own h.bel hE hw, ⟨h.mks.nodup, fun b hb => ⟨(h.mks.at_ b hb).1, hE.same _ _ (h.mks.at_ b hb).2 (.inl (hbs b hb))⟩⟩, Nat.le_trans h.sz hE.size⟩
theorem RkI.put {w : World} {n wB cB iB mB l : Nat} {f : Nat → Nat} {a : WyA} {bs : List Nat} {u k : Nat} {x : Int} {Y : World} {pre : List Nat} {X : World} {o o' : Obj} (h : RkI w n f a wB cB iB mB bs u x k Y pre X) (hY : Y.heap.size ≤ l) (hM : a.M < Y.heap.size) (hw : w.heap.size ≤ l) (hbs : ∀ b ∈ bs, b < Y.heap.size) (ho : X.heap[l]? = some o) (hc : o.isCells = false) : RkI w n f a wB cB iB mB bs u x k Y pre (X.putObj l o') := by
  obtain ⟨tab, ht⟩ := h.at_
  exact ⟨put_cells h.kb ho hc, put_cells h.wb ho hc, put_cells h.cb ho hc, put_cells h.ib ho hc, ⟨tab, ht.put (by omega) ho hc⟩, below_put h.bel hw, ⟨h.mks.nodup, fun b hb => ⟨(h.mks.at_ b hb).1, put_else (h.mks.at_ b hb).2 (by have := hbs b hb; omega)⟩⟩, by simpa using h.sz⟩
set_option maxHeartbeats 16000000 in
theorem c_rank (g n : Nat) (f : Nat → Nat) (hn : n ≤ 12) (hf : ∀ j, f j < 2 ^ 12) (A : Option Addr) (c : Nat) (line : List Int) (w : World) (h : Blk w g n f) (h2 : Rv 1 inV w A c line) :
    Calls Try.prog 65 #[.slice (some ⟨g, 0, none⟩) n n, .slice A line.length c] w (RkTo w n f line) := by
  have H := Lib.hid h
  have H2 := Lib.hid h2
  have hc1 := h2.1
  have hc2 := h2.2.1
  unfold maxLen at hc2
  obtain ⟨W, hW⟩ : ∃ W, W = w.alloc (.cells #[.int .i64 0] 3) := ⟨_, rfl⟩
  have HB := Lib.hid (show Below w.heap.size w W by rw [hW]; exact (Below.refl _ _).alloc (Nat.le_refl _) _)
  have HK := Lib.hid (show W.heap[w.heap.size]? = some (.cells #[.int .i64 0] 3 (0, 0)) by rw [hW]; exact heap_alloc_new _ _)
  have zW : W.heap.size = w.heap.size + 1 := by rw [hW, World.size_alloc]
  clear h h2
  by_cases hlen : line.length = n
  rotate_left
  · have hne : ((line.length : Int) != (n : Int)) = true := by simp; omega
    have hd0 : ((line.length : Int) == (n : Int)) = false := by rw [beq_eq_false_iff_ne]; omega
    have HLE := Lib.hid hlen
    clear hlen
    go_enter Try.func65, Try.ntmps65
    go_wp2_with (fail)
    rw [← hW]
    have c0 := cell_of HK.out (o := 0) rfl
    exact bodyPost_ret (v := .tuple #[.int .i64 0, .bool false]) (by simp [results, Try.results65, go_sem, c0]) rfl ⟨.inr ⟨rfl, fun h => HLE.out h.1⟩, HB.out⟩
  have hne : ((line.length : Int) != (n : Int)) = false := by simp; omega
  have hd0 : ((line.length : Int) == (n : Int)) = true := by rw [beq_iff_eq]; omega
  have HLEN := Lib.hid hlen
  have HCW := Lib.hid (c_ways g n f hn W (H.out.on HB.out (Nat.le_refl _)))
  clear hlen
  refine (callsIn_wide (n := 8)).1 ?_
  refine callsIn_of_wp_marks Try.func65 rfl trivial ?_ rfl
  simp only [Try.ntmps65, List.size_toArray, List.length_cons, List.length_nil, Nat.reduceAdd, Nat.reduceSub, Array.replicate_succ, Array.replicate_zero, List.push_toArray, List.append_toArray, List.nil_append, List.cons_append]
  rw [wpIn_wide]
  go_wp2_with (fail)
  rw [← hW]
  clear hW
  go_at_call 62
  refine HCW.out.mono ?_
  rintro e v1 ⟨a, rfl, ha, hM, hat, b1⟩
  have HAG := Lib.hid ha
  unfold WyA.fn
  obtain ⟨V1, q1⟩ : ∃ X, X = v1.alloc (.cells #[a.fn] 81) := ⟨_, rfl⟩
  obtain ⟨V, q2⟩ : ∃ X, X = V1.alloc (.cells #[.int .u16 0] 72) := ⟨_, rfl⟩
  have zV1 : V1.heap.size = v1.heap.size + 1 := by rw [q1, World.size_alloc]
  have zV : V.heap.size = v1.heap.size + 2 := by rw [q2, World.size_alloc, zV1]
  have bV1 : Below v1.heap.size v1 V1 := by rw [q1]; exact (Below.refl _ _).alloc (Nat.le_refl _) _
  have bV : Below v1.heap.size v1 V := by rw [q2]; exact bV1.alloc bV1.size _
  have hzv := b1.size
  have HS0 := Lib.hid (show RkS w n f a v1.heap.size (v1.heap.size + 1) 0 0 V from
    ⟨(bV.block _ (by omega)).trans ((b1.block _ (by omega)).trans HK.out), by rw [q2]; refine old_heap _ ?_; rw [q1]; exact heap_alloc_new _ _, by rw [q2, ← zV1]; exact heap_alloc_new _ _, ⟨_, hat.on bV (Nat.le_refl _)⟩, (HB.out.trans (b1.mono (by omega))).trans (bV.mono (by omega))⟩)
  have hp12 := pow12 hn
  have HML := Lib.hid (show w.heap.size ≤ a.M by omega)
  have HLO := Lib.hid (show w.heap.size < a.M ∧ w.heap.size < a.kb ∧ w.heap.size < a.bb ∧ w.heap.size < a.cb ∧ a.g < w.heap.size ∧ a.M < v1.heap.size from ⟨by omega, by omega, by omega, by omega, by rw [ha]; exact at_lt H.out, hat.map.lt⟩)
  have HLO2 := Lib.hid (show a.kb ≠ v1.heap.size + 1 ∧ a.bb ≠ v1.heap.size + 1 ∧ a.cb ≠ v1.heap.size + 1 from by have h1 := at_lt hat.known; have h2 := at_lt hat.ord; have h3 := at_lt hat.clo; omega)
  clear bV1 bV hat b1 zV1 ha hM
  go_wp2_with (fail)
  rw [show (.cells #[.func (.func 81) #[] #[.pointer (some ⟨a.kb, 0, none⟩), .pointer (some ⟨a.bb, 0, none⟩), .pointer (some ⟨a.cb, 0, none⟩)]] 81 : Obj) = .cells #[a.fn] 81 from rfl, ← q1, ← q2]
  clear q1 q2
  refine wp_loop (fun a' wr => ∃ (u8 u9 u10 u11 u22 u23 u24 u25 u26 u27 u28 u29 u30 u31 u32 u33 u34 u35 u36 u37 u38 u39 u40 u41 u42 u43 u44 u45 u46 u47 u48 u21 : Value) (ds : List Deferred), (∃ t u k : Nat, t ≤ line.length ∧ u21 = .int .i64 (t : Int) ∧ u < 2 ^ n ∧ k ≤ t * 5748019200 ∧ Hid (rkL n f line 0 0 = rkL n f (line.drop t) u k) ∧ Hid (RkS w n f a v1.heap.size (v1.heap.size + 1) u k wr) ∧ v1.heap.size + 1 < wr.heap.size ∧ ∃ bs, ds = marks bs ∧ Hid (Mks (v1.heap.size + 2) bs wr)) ∧ a' = { tmps := #[.slice (some ⟨g, 0, none⟩) n n, .slice A line.length c, undef, undef, .pointer (some ⟨w.heap.size, 0, none⟩), .bool false, .pointer (some ⟨v1.heap.size, 0, none⟩), .pointer (some ⟨v1.heap.size + 1, 0, none⟩), u8, u9, u10, u11, .slice A line.length c, .int .i64 (line.length : Int), .slice (some ⟨g, 0, none⟩) n n, .int .i64 (n : Int), .bool false, .slice (some ⟨g, 0, none⟩) n n, .func (.func 81) #[] #[.pointer (some ⟨a.kb, 0, none⟩), .pointer (some ⟨a.bb, 0, none⟩), .pointer (some ⟨a.cb, 0, none⟩)], .slice A line.length c, .int .i64 (line.length : Int), u21, u22, u23, u24, u25, u26, u27, u28, u29, u30, u31, u32, u33, u34, u35, u36, u37, u38, u39, u40, u41, u42, u43, u44, u45, u46, u47, u48, undef], defers := ds }) (fun a' _ => line.length - (intOf (a'.tmps.getD 21 undef)).toNat) ?atStart ?round
  case atStart =>
    (repeat apply Exists.intro)
    refine ⟨?rel0, rfl⟩
    exact ⟨0, 0, 0, Nat.zero_le _, rfl, Nat.two_pow_pos n, by omega, Lib.hid rfl, HS0, by omega, [], rfl, Lib.hid (Mks.nil _ _)⟩
  case round =>
    rintro _ wr ⟨u8, u9, u10, u11, u22, u23, u24, u25, u26, u27, u28, u29, u30, u31, u32, u33, u34, u35, u36, u37, u38, u39, u40, u41, u42, u43, u44, u45, u46, u47, u48, u21, ds, ⟨t, u, k, ht, rfl, hu, hkb, hQ, hS, hvw, bs, rfl, hM⟩, rfl⟩
    have hti : ((t : Nat) : Int).toNat = t := by omega
    by_cases hlt : t < line.length
    · have htl : (t : Int) < ((line.length : Nat) : Int) := by omega
      have hl12 : line.length ≤ 12 := by have := HLEN.out; omega
      have hk2 : k ≤ 68976230400 := by omega
      obtain ⟨x, hx⟩ : ∃ x, line[t]? = some x := ⟨_, List.getElem?_eq_getElem hlt⟩
      have HLX := H2.out.on hS.out.bel (Nat.le_refl _)
      obtain ⟨pb, o, rfl, -, -⟩ := HLX.at_ hx
      have y0 := inV_at HLX hx
      have HX := Lib.hid hx
      have HRC := Lib.hid (show rkL n f line 0 0 = if (enL n f u).any (fun (i : Nat) => (i : Int) == x) = true then rkL n f (line.drop (t + 1)) (u ||| 1 <<< x.toNat) (k + lesW n f u x (enL n f u)) else none by rw [hQ.out, drop_at hx, rkL_cons])
      obtain ⟨Y, hY⟩ : ∃ Y, Y = wr.alloc (.cells #[.int .i64 x] 3) := ⟨_, rfl⟩
      have bY : Below wr.heap.size wr Y := by rw [hY]; exact (Below.refl _ _).alloc (Nat.le_refl _) _
      have zY : Y.heap.size = wr.heap.size + 1 := by rw [hY, World.size_alloc]
      have HIB := Lib.hid (show Y.heap[wr.heap.size]? = some (.cells #[.int .i64 x] 3 (0, 0)) by rw [hY]; exact heap_alloc_new _ _)
      have kpY : ∀ (k : Nat) (o : Obj), wr.heap[k]? = some o → Y.heap[k]? = some o := fun k o ho => (bY.block _ (at_lt ho)).trans ho
      obtain ⟨tab, hat⟩ := hS.out.at_
      have HSY := Lib.hid (show RkS w n f a v1.heap.size (v1.heap.size + 1) u k Y from ⟨kpY _ _ hS.out.kb, kpY _ _ hS.out.wb, kpY _ _ hS.out.cb, ⟨tab, hat.on bY (Nat.le_refl _)⟩, hS.out.bel.trans (bY.mono hS.out.bel.size)⟩)
      have HMY := Lib.hid (hM.out.on bY (Nat.le_refl _))
      have HAY := Lib.hid (hat.on bY (Nat.le_refl _))
      have y1 := cell_of HSY.out.cb (o := 0) rfl
      rw [hY] at y1
      clear hx HLX kpY bY hat
      go_wp2_with (fail)
      rw [← hY]
      clear hY y0 y1
      have hu12 : u < 2 ^ 12 := by omega
      go_at_call 59
      refine (c_enabled g n f hn hf u hu12 Y (by have := HAY.out.blk; rwa [HAG.out] at this)).mono ?_
      rintro e v2 ⟨rfl, hv2⟩
      rw [hv2]
      clear hv2 v2
      have HLE := Lib.hid (lst_en (b := f) (s := u) hn)
      have hsb : setB (enB f u) n < 2 ^ 12 := Nat.lt_of_lt_of_le (setB_lt _ _) (Nat.pow_le_pow_right (by omega) hn)
      have hL12 := enL_len f u n
      obtain ⟨s, hs⟩ : ∃ t, setB (enB f u) n = t := ⟨_, rfl⟩
      rw [hs] at HLE hsb ⊢
      obtain ⟨L, hL⟩ : ∃ L, enL n f u = L := ⟨_, rfl⟩
      have HLL := Lib.hid hL
      rw [hL] at HLE HRC hL12
      obtain ⟨b, hb⟩ : ∃ b, L.any (fun (i : Nat) => (i : Int) == x) = b := ⟨_, rfl⟩
      have HBB := Lib.hid hb
      have HHA := Lib.hid (c_has s (by omega) x b (by rw [has_any hsb HLE.out, hb]) Y)
      rw [hb] at HRC
      clear hs hL hb
      have y2 := cell_of HIB.out (o := 0) rfl
      go_wp2_with (fail)
      go_at_call 76
      refine HHA.out.mono ?_
      rintro e v2 ⟨rfl, hv2⟩
      rw [hv2]
      clear hv2 v2 HHA
      cases b
      · have y3 := cell_of HSY.out.kb (o := 0) rfl
        have y4 := frz HSY.out.kb 0
        have hno : rkL n f line 0 0 = none := by rw [HRC.out]; rfl
        have HNO := Lib.hid hno
        clear hno
        go_wp2_with (fail)
        have hkf := kf_store (B := 0) (o := 0) (.int .i64 0) HSY.out.kb
        have hMZ : Mks (v1.heap.size + 2) bs (Y.setCell ⟨w.heap.size, 0, none⟩ (.int .i64 0)) := HMY.out.kept fun k o hk hc => hkf.same k o (Nat.zero_le _) hk hc
        refine leaves_marks (by simp) bs _ hMZ fun W' hW' => ?_
        have c0 : W'.cell? ⟨w.heap.size, 0, none⟩ = some (.int .i64 0) := cell_of (hW'.cells hMZ (set_field HSY.out.kb (.int .i64 0))) rfl
        refine ⟨.tuple #[.int .i64 0, .bool false], by simp [results, Try.results65, go_sem, c0], ⟨.inr ⟨rfl, fun h => by rw [HNO.out] at h; exact absurd h.2 (by simp)⟩, ?_⟩⟩
        exact hW'.below (fun b hb => by have := (hMZ.at_ b hb).1; omega) (HSY.out.bel.setCell (p := ⟨w.heap.size, 0, none⟩) (Nat.le_refl _) _) (Nat.le_refl _)
      obtain ⟨m, rfl⟩ : ∃ m : Nat, x = m := by
        obtain ⟨i, -, h2⟩ := List.any_eq_true.1 HBB.out
        exact ⟨i, (eq_of_beq h2).symm⟩
      have HMI := Lib.hid (show m ∈ L by
        obtain ⟨i, h1, h2⟩ := List.any_eq_true.1 HBB.out
        have h2 := eq_of_beq h2
        obtain rfl : i = m := by omega
        exact h1)
      have HRK := Lib.hid (show rkL n f line 0 0 = rkL n f (line.drop (t + 1)) (u ||| 1 <<< m) (k + lesW n f u (m : Int) L) by rw [HRC.out, if_pos rfl, Int.toNat_natCast])
      have HSQ := Lib.hid (c_each 7 (by omega) (fun _ => False) s hsb Y)
      rw [HLE.out] at HSQ
      have HEI := Lib.hid (fun (i : Nat) (hi : i ∈ L) => (show i < n ∧ u.testBit i = false from by
        rw [← HLL.out] at hi
        have h1 := enL_mem.1 hi
        refine ⟨h1.1, ?_⟩
        have := h1.2; unfold enB at this; simp at this; exact this.1))
      have hzY := HSY.out.bel.size
      have hMY := (HAY.out.map).lt
      clear HRC HBB
      go_wp2_with (fail)
      refine (wpIn_wide (n := 8)).1 ?_
      refine wpIn_it (n := 8) (by omega) (gf := 77) (fb := #[.int .u16 (s : Int)]) (lb := #[]) rfl eg_each (m := 0) (Gd := fun _ => False) (ok := okE) (ts := L) (w0 := Y) HSQ.out (KpG.refl _) (fun v t h => by rw [h]; rfl)
        (fun pre X => RkI w n f a v1.heap.size (v1.heap.size + 1) wr.heap.size (v1.heap.size + 2) bs u (m : Int) k Y pre X) (fun _ _ _ => False)
        (fun pre X Y h hE => h.own hE (by omega) (by omega) (by omega) (fun b hb => by have := HMY.out.lt hb; omega)) (fun _ _ _ _ h _ => h.elim)
        (fun pre X l o o' h hl ho hc => h.put (by omega) hMY (by omega) (fun b hb => HMY.out.lt hb) ho hc) (fun _ _ _ _ _ _ h _ _ _ => h.elim)
        ⟨HSY.out.kb, HSY.out.wb, HSY.out.cb, HIB.out, ⟨tab, HAY.out⟩, HSY.out.bel, HMY.out, Nat.le_refl _⟩ ?iround ?idone (fun _ _ _ _ _ _ h _ => h.elim)
      case iround =>
        intro l pre v i X K hpre hok hKK
        obtain rfl : v = #[.int .i64 (i : Int)] := hok
        gi_wp2_with (fail)
        refine hKK _ _ (Below.refl _ _) ?_
        rintro Z ⟨o, o', ho', hoc, hYe⟩ hsz hI
        have hie := hpre.subset (show i ∈ pre ++ [i] by simp)
        obtain ⟨hin, hnb⟩ := HEI.out i hie
        have hln := lesW_snoc n f u (m : Int) pre i
        have hpl : (pre ++ [i]).length ≤ 12 := by have := hpre.length_le; omega
        have hlb := lesW_le hn f u (m : Int) hpl
        have HI := Lib.hid hI
        have y0 := cell_of hI.ib (o := 0) rfl
        obtain ⟨tab2, hat2⟩ := hI.at_
        have HAT := Lib.hid hat2
        have hMZ := hat2.map.lt
        clear hYe ho' hoc o o' hKK hI hpre hat2
        rcases hlt2 : decide ((i : Int) < (m : Int)) with _ | _
        · have hlt2' := of_decide_eq_false hlt2
          rw [if_neg hlt2'] at hln
          have HLN := Lib.hid hln
          clear hln hlb
          gi_wp2_with (fail)
          exact ⟨⟨Nat.le_refl _, fun _ _ _ h _ => h⟩, KpIt.refl _, ⟨by rw [HLN.out]; exact HI.out.kb, HI.out.wb, HI.out.cb, HI.out.ib, HI.out.at_, HI.out.bel, HI.out.mks, HI.out.sz⟩⟩
        · have hlt2' := of_decide_eq_true hlt2
          rw [if_pos hlt2'] at hln
          rw [hln] at hlb
          have HLN := Lib.hid hln
          obtain ⟨K0, hK0⟩ : ∃ K0, k + lesW n f u (m : Int) pre = K0 := ⟨_, rfl⟩
          have HK0 := Lib.hid hK0
          have hs2 := put_lt hu hin
          obtain ⟨s2, hs2e⟩ : ∃ t, u ||| 1 <<< i = t := ⟨_, rfl⟩
          rw [hs2e] at hlb hs2
          obtain ⟨ws, hws⟩ : ∃ S, wys n f s2 = S := ⟨_, rfl⟩
          rw [hws] at hlb
          have HWS := Lib.hid hws
          have HS2 := Lib.hid hs2e
          have hb1 : K0 + ws ≤ 80000000000 := by omega
          have HCW := Lib.hid (fun (X : World) (hX : WyAt n f a tab2 X) => c_ways1 a n f hn hf _ s2 tab2 X hs2 rfl hX)
          have HCO := Lib.hid (fun (X : World) => c_with u i (by omega) (by omega) X)
          rw [hs2e] at HCO
          have z0 : Z.cell? ⟨w.heap.size, 0, none⟩ = some (.int .i64 (K0 : Int)) := by rw [← hK0]; exact cell_of HI.out.kb rfl
          have z1 := cell_of HI.out.wb (o := 0) rfl
          have z2 := cell_of HI.out.cb (o := 0) rfl
          unfold WyA.fn at z1
          have hfm : Try.prog.follows Departure.mixedOrders = true := by kernel_rfl
          clear hln hK0 hs2e hws hs2 hlb hie
          gi_wp2_with (fail)
          refine region_round_z 7 (S := fun X => X.cell? ⟨w.heap.size, 0, none⟩ = some (.int .i64 (K0 : Int)) ∧ X.cell? ⟨v1.heap.size, 0, none⟩ = some (.func (.func 81) #[] #[.pointer (some ⟨a.kb, 0, none⟩), .pointer (some ⟨a.bb, 0, none⟩), .pointer (some ⟨a.cb, 0, none⟩)]) ∧ X.cell? ⟨v1.heap.size + 1, 0, none⟩ = some (.int .u16 (u : Int))) hfm (by kernel_rfl) ⟨z0, z1, z2⟩ (fun hHeld => ?_)
          refine takeZ 0 (some 38) (by kernel_rfl) rfl rfl (by kernel_rfl) (by kernel_rfl) (by kernel_rfl) (fun _ _ _ h => h) (by rfl) (by intro w ⟨g1, g2, g3⟩; go_simp; try with_reducible rfl) hHeld ?_
          simp only [Act.put, List.setIfInBounds_toArray, List.set_cons_zero, List.set_cons_succ]
          refine takeZ 1 (some 39) (by kernel_rfl) rfl rfl (by kernel_rfl) (by kernel_rfl) (by kernel_rfl) (fun _ _ _ h => h) (by rfl) (by intro w ⟨g1, g2, g3⟩; go_simp; try with_reducible rfl) hHeld ?_
          simp only [Act.put, List.setIfInBounds_toArray, List.set_cons_zero, List.set_cons_succ]
          refine takeZ 2 (some 40) (by kernel_rfl) rfl rfl (by kernel_rfl) (by kernel_rfl) (by kernel_rfl) (fun _ _ _ h => h) (by rfl) (by intro w ⟨g1, g2, g3⟩; go_simp; try with_reducible rfl) hHeld ?_
          simp only [Act.put, List.setIfInBounds_toArray, List.set_cons_zero, List.set_cons_succ]
          refine takeZ 3 (some 41) (by kernel_rfl) rfl rfl (by kernel_rfl) (by kernel_rfl) (by kernel_rfl) (fun _ _ _ h => h) (by rfl) (by intro w ⟨g1, g2, g3⟩; go_simp; try with_reducible rfl) hHeld ?_
          simp only [Act.put, List.setIfInBounds_toArray, List.set_cons_zero, List.set_cons_succ]
          refine oneZ 4 rfl (by kernel_rfl) (fun K hK => ?_)
          go_simp
          go_at_call 80
          refine (HCO.out Z.drew).mono ?_
          rintro e wa ⟨rfl, hwa⟩
          rw [hwa]
          clear hwa wa
          refine hK.out _ _ (.inr hHeld) ?_
          clear hK K
          try simp only [Act.put, List.setIfInBounds_toArray, List.set_cons_zero, List.set_cons_succ]
          refine oneZ 5 rfl (by kernel_rfl) (fun K hK => ?_)
          go_simp
          go_at_call 81
          refine (HCW.out Z.drew (HAT.out.on (Below.refl _ _).drew (Nat.le_refl _))).mono ?_
          rintro e v2 ⟨he, new2, hat3, -, hb2⟩
          rw [HWS.out] at he
          subst he
          have hb2' : But a.M Z v2 := (But.drew (b := a.M)).trans hb2
          have m1 : v2.heap[w.heap.size]? = some (.cells #[.int .i64 (K0 : Int)] 3 (0, 0)) := by rw [← HK0.out]; exact hb2'.same _ _ (HAT.out.map.ne HI.out.kb) HI.out.kb
          have m2 := hb2'.same _ _ (HAT.out.map.ne HI.out.wb) HI.out.wb
          have m3 := hb2'.same _ _ (HAT.out.map.ne HI.out.cb) HI.out.cb
          have m4 := hb2'.same _ _ (HAT.out.map.ne HI.out.ib) HI.out.ib
          have hbl := hb2'.low HI.out.bel rfl HML.out
          have HFIN := Lib.hid (show ∀ v : Int, v = (K0 : Int) + (ws : Int) → KeepsFrom Y.heap.size Z (v2.setCell ⟨w.heap.size, 0, none⟩ (.int .i64 v)) ∧ KpIt (Y.heap.size + 2) 0 (fun _ => False) Z (v2.setCell ⟨w.heap.size, 0, none⟩ (.int .i64 v)) ∧ RkI w n f a v1.heap.size (v1.heap.size + 1) wr.heap.size (v1.heap.size + 2) bs u (m : Int) k Y (pre ++ [i]) (v2.setCell ⟨w.heap.size, 0, none⟩ (.int .i64 v)) from fun v hv => by
            have hk := kf_store (B := 0) (o := 0) (.int .i64 v) m1
            have hot : ∀ (k : Nat) (o : Obj), k ≠ a.M → Z.heap[k]? = some o → o.isCells = false → (v2.setCell ⟨w.heap.size, 0, none⟩ (.int .i64 v)).heap[k]? = some o := fun k o h1 h2 h3 => hk.same k o (Nat.zero_le _) (hb2'.same k o h1 h2) h3
            have hsz2 : Z.heap.size ≤ (v2.setCell ⟨w.heap.size, 0, none⟩ (.int .i64 v)).heap.size := Nat.le_trans hb2'.size hk.size
            refine ⟨⟨hsz2, fun k o h1 h2 h3 => hot k o (by omega) h2 h3⟩, ⟨hsz2, fun k cs t fr h1 h2 => by rcases h1 with h1 | h1; exact h1.elim; omega, fun k o h1 h2 h3 => hot k o (by omega) h2 h3⟩, ⟨?_, ?_, ?_, ?_, ⟨tab2 ++ new2, ?_⟩, ?_, ?_, Nat.le_trans HI.out.sz hsz2⟩⟩
            · rw [show ((k + lesW n f u (m : Int) (pre ++ [i]) : Nat) : Int) = v by rw [HLN.out, HS2.out, HWS.out]; have := HK0.out; omega]; exact set_field m1 _
            · exact set_else m2 (by omega)
            · exact set_else m3 (by omega)
            · exact set_else m4 (by omega)
            · have hlo := HLO.out
              exact hat3.keep fun k o hk ho => set_else ho (by rcases hk with rfl | rfl | rfl | rfl | rfl <;> omega)
            · exact hbl.setCell (p := ⟨w.heap.size, 0, none⟩) (Nat.le_refl _) _
            · exact ⟨HI.out.mks.nodup, fun b hb => ⟨(HI.out.mks.at_ b hb).1, hot b _ (by have := (HI.out.mks.at_ b hb).1; have := HLO.out; omega) (HI.out.mks.at_ b hb).2 rfl⟩⟩)
          have q0 := cell_of m1 (o := 0) rfl
          have q1 := cell_of m2 (o := 0) rfl
          have q2 := cell_of m3 (o := 0) rfl
          have qf := frz m1 0
          unfold WyA.fn at q1
          have hw : IntKind.i64.wrap ((K0 : Int) + (ws : Int)) = (K0 : Int) + (ws : Int) := wrap_in (by omega) (by omega)
          have hH2 : (fun X : World => X.cell? ⟨w.heap.size, 0, none⟩ = some (.int .i64 (K0 : Int)) ∧ X.cell? ⟨v1.heap.size, 0, none⟩ = some (.func (.func 81) #[] #[.pointer (some ⟨a.kb, 0, none⟩), .pointer (some ⟨a.bb, 0, none⟩), .pointer (some ⟨a.cb, 0, none⟩)]) ∧ X.cell? ⟨v1.heap.size + 1, 0, none⟩ = some (.int .u16 (u : Int))) v2 := ⟨q0, q1, q2⟩
          refine hK.out _ _ (.inr hH2) ?_
          clear hK K hHeld
          try simp only [Act.put, List.setIfInBounds_toArray, List.set_cons_zero, List.set_cons_succ]
          refine takeZ 6 (some 44) (by kernel_rfl) rfl rfl (by kernel_rfl) (by kernel_rfl) (by kernel_rfl) (fun _ _ _ h => h) (by rfl) (by intro w ⟨g1, g2, g3⟩; go_simp; try with_reducible rfl) hH2 ?_
          simp only [Act.put, List.setIfInBounds_toArray, List.set_cons_zero, List.set_cons_succ]
          try rw [hw]
          clear hH2 q1 q2 hb2 hat3 hb2' m1 m2 m3 m4
          refine oneZ 7 rfl (by kernel_rfl) (fun K hK => ?_)
          go_simp
          refine hK.out _ _ (.inl rfl) ?_
          clear hK K
          refine doneZ (by kernel_rfl) ?_ _
          rw [noOut_normal]
          gi_wp2_with (fail)
          exact HFIN.out _ rfl
      case idone =>
        rintro D X rfl hI hdef
        obtain ⟨hmn, hmb⟩ := HEI.out m HMI.out
        have hu2 := put_lt hu hmn
        have hlb := lesW_le hn f u (m : Int) (l := L) (by omega)
        obtain ⟨u2, hu2e⟩ : ∃ t, u ||| 1 <<< m = t := ⟨_, rfl⟩
        have HCO := Lib.hid (fun (X : World) => c_with u m (by omega) (by omega) X)
        obtain ⟨k2, hk2e⟩ : ∃ t, k + lesW n f u (m : Int) L = t := ⟨_, rfl⟩
        have HRK2 := HRK
        rw [hu2e] at hu2 HCO HRK2
        rw [hk2e] at HRK2
        have hk3 : k2 ≤ (t + 1) * 5748019200 := by omega
        have HKB := Lib.hid (show X.heap[w.heap.size]? = some (.cells #[.int .i64 (k2 : Int)] 3 (0, 0)) by rw [← hk2e]; exact hI.kb)
        have HI := Lib.hid hI
        have HMX := Lib.hid (show Mks (v1.heap.size + 2) ((wr.heap.size + 1) :: bs) X from by rw [← zY]; exact Mks.push HMY.out hI.mks (Nat.le_refl _) (by omega) hdef)
        have y0 := cell_of hI.cb (o := 0) rfl
        have y1 := frz hI.cb 0
        have y2 := cell_of hI.ib (o := 0) rfl
        have hXs := hI.sz
        have HSX := Lib.hid (show RkS w n f a v1.heap.size (v1.heap.size + 1) u2 k2 (X.setCell ⟨v1.heap.size + 1, 0, none⟩ (.int .u16 (u2 : Int))) from by
          obtain ⟨tab2, hat2⟩ := HI.out.at_
          have hlo := HLO.out
          have hne : ∀ (k : Nat) (o : Obj), k ≠ v1.heap.size + 1 → X.heap[k]? = some o → (X.setCell ⟨v1.heap.size + 1, 0, none⟩ (.int .u16 (u2 : Int))).heap[k]? = some o := fun k o h1 h2 => set_else h2 h1
          refine ⟨hne _ _ (by omega) HKB.out, hne _ _ (by omega) HI.out.wb, set_field HI.out.cb _, ⟨tab2, hat2.keep fun k o hk ho => hne k o ?_ ho⟩, HI.out.bel.setCell (p := ⟨v1.heap.size + 1, 0, none⟩) (by show w.heap.size ≤ v1.heap.size + 1; omega) _⟩
          rcases hk with rfl | rfl | rfl | rfl | rfl
          · omega
          · exact HLO2.out.1
          · omega
          · exact HLO2.out.2.1
          · exact HLO2.out.2.2)
        have HMS := Lib.hid (show Mks (v1.heap.size + 2) ((wr.heap.size + 1) :: bs) (X.setCell ⟨v1.heap.size + 1, 0, none⟩ (.int .u16 (u2 : Int))) from HMX.out.kept fun k o hk hc => (kf_store (B := 0) (o := 0) (.int .u16 (u2 : Int)) HI.out.cb).same k o (Nat.zero_le _) hk hc)
        clear hI hdef hu2e hk2e hlb
        go_wp2_with (go_at_call 80; refine (HCO.out X).mono ?_; rintro e wa ⟨rfl, hwa⟩; rw [hwa]; clear hwa wa)
        refine ⟨?q1, ?q2⟩
        case q1 =>
          (repeat apply Exists.intro)
          refine ⟨?rel1, rfl⟩
          exact ⟨t + 1, u2, k2, by omega, by go_num, hu2, hk3, HRK2, HSX, by simp [World.setCell]; omega, _, rfl, HMS⟩
        case q2 => simp [intOf]; omega
    · obtain rfl : t = line.length := by omega
      have hend : rkL n f line 0 0 = some k := by rw [hQ.out, List.drop_length]; rfl
      have HEND := Lib.hid hend
      have y0 := cell_of hS.out.kb (o := 0) rfl
      have y1 := frz hS.out.kb 0
      clear hend
      go_wp2_with (fail)
      have hkf := kf_store (B := 0) (o := 0) (.int .i64 (k : Int)) hS.out.kb
      have hMZ : Mks (v1.heap.size + 2) bs (wr.setCell ⟨w.heap.size, 0, none⟩ (.int .i64 (k : Int))) := hM.out.kept fun k o hk hc => hkf.same k o (Nat.zero_le _) hk hc
      refine leaves_marks (by simp) bs _ hMZ fun W' hW' => ?_
      have c0 : W'.cell? ⟨w.heap.size, 0, none⟩ = some (.int .i64 (k : Int)) := cell_of (hW'.cells hMZ (set_field hS.out.kb (.int .i64 (k : Int)))) rfl
      refine ⟨.tuple #[.int .i64 (k : Int), .bool true], by simp [results, Try.results65, go_sem, c0], ⟨.inl ⟨k, rfl, HLEN.out, HEND.out⟩, ?_⟩⟩
      exact hW'.below (fun b hb => by have := (hMZ.at_ b hb).1; omega) (hS.out.bel.setCell (p := ⟨w.heap.size, 0, none⟩) (Nat.le_refl _) _) (Nat.le_refl _)
set_option maxHeartbeats 8000000 in
theorem c_Rank (A : Option Addr) (c : Nat) (xs : List LsV) (A2 : Option Addr) (c2 : Nat) (line : List Int) (w : World) (h : LsAt w A c xs) (h2 : Rv 1 inV w A2 c2 line) : Calls Try.prog 32 #[.slice A xs.length c, .slice A2 line.length c2] w (HwTo w (rkN xs line) (fun k => rkL xs.length (ordF xs) line 0 0 = some k)) := by
  have H := Lib.hid h
  have H2 := Lib.hid h2
  obtain ⟨R, hR⟩ : ∃ R, R = HwTo w (rkN xs line) (fun k => rkL xs.length (ordF xs) line 0 0 = some k) := ⟨_, rfl⟩
  rw [← hR]
  have HE := Lib.hid (show ∀ (X : World) (n : Int), rkN xs line = n → n ≠ 0 → Below w.heap.size w X → R (.returned (.tuple #[.int .i64 0, .int .i64 n])) X from fun X n h h2 hb => by rw [hR, h]; exact ⟨.inl ⟨h2, rfl⟩, hb⟩)
  have HY := Lib.hid (show ∀ (X : World) (k : Nat), rkN xs line = 0 → rkL xs.length (ordF xs) line 0 0 = some k → Below w.heap.size w X → R (.returned (.tuple #[.int .i64 (k : Int), .int .i64 0])) X from fun X k h h2 hb => by rw [hR, h]; exact ⟨.inr ⟨rfl, k, rfl, h2⟩, hb⟩)
  clear hR h h2
  go_enter Try.func32, Try.ntmps32
  go_wp2_with (fail)
  go_at_call 48
  refine (c_read A c xs w H.out).mono ?_
  rintro e w1 ⟨⟨h0, rfl⟩ | ⟨h0, hl, hok, hno, g, rfl, hg, hblk⟩, b1⟩
  · have H0 := Lib.hid h0
    have K1 := Lib.hid b1
    have hne : (rdN xs != 0) = true := by simpa using h0
    have hd0 : (rdN xs == 0) = false := by simpa using h0
    clear h0 b1
    go_wp2_with (fail)
    exact HE.out _ _ (by unfold rkN; rw [if_pos H0.out]) H0.out K1.out
  · have H0 := Lib.hid h0
    have K1 := Lib.hid b1
    have HC := Lib.hid (c_rank g xs.length (ordF xs) hl (ordF_lt hl hok) A2 c2 line w1 hblk (H2.out.on b1 (Nat.le_refl _)))
    clear h0 b1 hblk
    go_wp2_with (fail)
    go_at_call 65
    refine HC.out.mono ?_
    rintro e w2 ⟨⟨k, rfl, hle, hk⟩ | ⟨rfl, hk⟩, b2⟩
    · have K2 := Lib.hid (below_join K1.out b2 K1.out.size)
      have HK := Lib.hid hk
      have HL := Lib.hid hle
      clear b2 hk hle
      go_wp2_with (fail)
      exact HY.out _ _ (rk_ok H0.out HL.out HK.out) HK.out K2.out
    · have K2 := Lib.hid (below_join K1.out b2 K1.out.size)
      have HK := Lib.hid hk
      clear b2 hk
      go_wp2_with (fail)
      exact HE.out _ _ (rk_err H0.out HK.out) (by decide) K2.out
end Go.Proofs.Ytjheaeeeeggncaa

namespace Go.Proofs.Ytjheaeeeeggncaa
open Go.RowKit Go.Shelf
set_option maxRecDepth 100000

section
variable {P : Program} {ops : Array Oper} {Q : Exit → Act → World → Prop} {md : Region.Mode} {S : World → Prop} {z : Nat → Bool}
/-- Whatever order comes: S holds behind each operation but z. -/
def wpAnyZs (P : Program) (md : Region.Mode) (ops : Array Oper) (Q : Exit → Act → World → Prop) (S : World → Prop) (z : Nat → Bool) : Nat → Array Bool → Act → World → Prop
  | 0, listed, a, w => Region.ready md ops listed = [] ∧ Q .normal a w
  | fuel + 1, listed, a, w =>
    (Region.ready md ops listed = [] → Q .normal a w) ∧
    ∀ i ∈ Region.ready md ops listed, wpOp P ops Q i (fun a' w' => (z i = true ∨ S w') ∧ wpAnyZs P md ops Q S z fuel (listed.setIfInBounds i true) a' w') a w
theorem any_of_zs : ∀ (fuel : Nat) (listed : Array Bool) (a : Act) (w : World), wpAnyZs P md ops Q S z fuel listed a w → wpAny P md ops Q fuel listed a w
  | 0, _, _, _, h => h
  | fuel + 1, _, _, _, h => ⟨h.1, fun i hi => wpOp_mono (fun a' w' h' => any_of_zs fuel _ a' w' h'.2) (h.2 i hi)⟩
/-- z waits for all others: for each itself, or by one between. -/
def waitsAlls (md : Region.Mode) (ops : Array Oper) (z : Nat → Bool) : Bool :=
  (List.range ops.size).all fun j => !z j || match ops[j]? with
  | none => false
  | some o => (List.range ops.size).all fun k => z k || o.after.any fun e => Region.binds md e && (e.on == k || match ops[e.on]? with
    | none => false
    | some o2 => o2.after.any fun e2 => Region.binds md e2 && e2.on == k)
/-- What is listed has all that it waits for listed. -/
def Clo (md : Region.Mode) (ops : Array Oper) (listed : Array Bool) : Prop := ∀ (k : Nat) (o : Oper), ops[k]? = some o → listed.getD k false = true → ∀ e ∈ o.after, Region.binds md e = true → listed.getD e.on false = true
def cloB (md : Region.Mode) (ops : Array Oper) (listed : Array Bool) : Bool :=
  (List.range ops.size).all fun k => !listed.getD k false || match ops[k]? with
  | none => true
  | some o => o.after.all fun e => !Region.binds md e || listed.getD e.on false
theorem cloB_spec {listed : Array Bool} (h : cloB md ops listed = true) : Clo md ops listed := by
  intro k o ho hk e he hb
  unfold cloB at h
  have h0 := List.all_eq_true.1 h k (List.mem_range.2 (Array.getElem?_eq_some_iff.1 ho).1)
  rw [hk, ho] at h0
  simp only [Bool.not_true, Bool.false_or] at h0
  rw [← Array.all_toList, List.all_eq_true] at h0
  have h1 := h0 e (Array.mem_toList_iff.2 he)
  rw [hb] at h1
  simpa using h1
theorem getD_on {listed : Array Bool} {j k : Nat} (h : listed.getD k false = true) : (listed.setIfInBounds j true).getD k false = true := by
  have hlt : k < listed.size := by
    rcases Nat.lt_or_ge k listed.size with g | g
    · exact g
    · simp [Array.getElem?_eq_none g] at h
  by_cases e : j = k
  · subst e
    simp [Array.getD, hlt]
  · rw [getD_set_ne false e]; exact h
theorem Clo.step {listed : Array Bool} {j : Nat} (h : Clo md ops listed) (hr : j ∈ Region.ready md ops listed) : Clo md ops (listed.setIfInBounds j true) := by
  intro k o ho hk e he hb
  obtain ⟨-, oj, hoj, hall⟩ := mem_ready.1 hr
  by_cases e0 : j = k
  · subst e0
    rw [hoj] at ho; cases ho
    exact getD_on (hall e he hb)
  · rw [getD_set_ne false e0] at hk
    exact getD_on (h k o ho hk e he hb)
theorem waits_specs (hz : waitsAlls md ops z = true) {listed : Array Bool} (hcl : Clo md ops listed) {j : Nat} (hj : z j = true) (hr : j ∈ Region.ready md ops listed) {i : Nat} (hi : i < ops.size) (hne : z i = false) : listed.getD i false = true := by
  obtain ⟨-, o, ho, hall⟩ := mem_ready.1 hr
  unfold waitsAlls at hz
  have h0 := List.all_eq_true.1 hz j (List.mem_range.2 (Array.getElem?_eq_some_iff.1 ho).1)
  rw [hj, ho] at h0
  simp only [Bool.not_true, Bool.false_or] at h0
  have h1 := List.all_eq_true.1 h0 i (List.mem_range.2 hi)
  rw [hne, Bool.false_or] at h1
  rw [← Array.any_toList, List.any_eq_true] at h1
  obtain ⟨e, he, hb⟩ := h1
  rw [Array.mem_toList_iff] at he
  rw [Bool.and_eq_true, Bool.or_eq_true] at hb
  have h2 := hall e he hb.1
  rcases hb.2 with h3 | h3
  · rw [← eq_of_beq h3]; exact h2
  · cases ho2 : ops[e.on]? with
    | none => rw [ho2] at h3; cases h3
    | some o2 =>
      rw [ho2] at h3
      simp only [] at h3
      rw [← Array.any_toList, List.any_eq_true] at h3
      obtain ⟨e2, he2, hb2⟩ := h3
      rw [Array.mem_toList_iff] at he2
      rw [Bool.and_eq_true] at hb2
      rw [← eq_of_beq hb2.2]
      exact hcl _ _ ho2 h2 e2 he2 hb2.1
theorem not_boths {listed : Array Bool} {i : Nat} (h1 : listed.getD i true = false) (h2 : listed.getD i false = true) : False := by
  by_cases hlt : i < listed.size
  · simp [hlt] at h1 h2
    rw [h1] at h2; cases h2
  · simp [Array.getElem?_eq_none (show listed.size ≤ i by omega)] at h1
theorem z_firsts {i : Nat} {oi : Oper} {v : Value} (hz : waitsAlls md ops z = true) (hzi : z i = false) (hi : ops[i]? = some oi) (hsel : ∀ (j : Nat) (o : Oper) cs b, ops[j]? = some o → o.op ≠ .select cs b) (hQ : ∀ c a w, Q (.panic c) (a.put oi.dst v) w → Q (.panic c) a w) :
    ∀ (fuel : Nat) (listed : Array Bool) (a : Act) (w : World), (∀ j oj, ops[j]? = some oj → j ≠ i → listed.getD j true = false → (∀ e ∈ oj.after, Region.binds md e = true → e.on ≠ i) → oi.apart ops oj = true) →
      Clo md ops listed → i ∈ Region.ready md ops listed → YieldsIf P ops S oi v a → S w → wpAnyZs P md ops Q S z fuel (listed.setIfInBounds i true) (a.put oi.dst v) w → wpAnyZs P md ops Q S z (fuel + 1) listed a w := by
  intro fuel
  induction fuel with
  | zero =>
    intro listed a w _ hcl hr hy hS H
    refine ⟨fun h0 => ?_, fun j hj => ?_⟩
    · rw [h0] at hr; cases hr
    · rcases Nat.decEq j i with hne | heq
      · have h1 := ready_mono hj hne
        rw [H.1] at h1
        cases h1
      · subst heq
        exact hy.wpOp hi hS ⟨.inr hS, H⟩
  | succ fuel ih =>
    intro listed a w hfree hcl hr hy hS H
    refine ⟨fun h0 => ?_, fun j hj => ?_⟩
    · rw [h0] at hr; cases hr
    rcases Nat.decEq j i with hne | heq
    · obtain ⟨hjun, oj, hoj, hall⟩ := mem_ready.1 hj
      have hi0 := (mem_ready.1 hr).1
      have hwait : ∀ e ∈ oj.after, Region.binds md e = true → e.on ≠ i := fun e he hb heq => not_boths hi0 (by have h1 := hall e he hb; rw [heq] at h1; exact h1)
      have hjz : z j = false := by
        cases e : z j
        · rfl
        · exact (not_boths hi0 (waits_specs hz hcl e hj ((Array.getElem?_eq_some_iff.1 hi).1) hzi)).elim
      have h2 := wpOp_putIf hoj (hfree j oj hoj hne hjun hwait) (fun cs b => hsel i oi cs b hi) (fun cs b => hsel j oj cs b hoj) hQ hy (H.2 j (ready_mono hj hne))
      refine wpOp_mono (fun a' w' h3 => ?_) h2
      obtain ⟨h4, h5, h6⟩ := h3
      have hSw : S w' := h5.resolve_left (by rw [hjz]; simp)
      refine ⟨.inr hSw, ih (listed.setIfInBounds j true) a' w' (fun k ok hk hki hun hno => hfree k ok hk hki ?_ hno) (hcl.step hj) (ready_mono hr (Ne.symm hne)) h4 hSw ?_⟩
      · by_cases hjk : j = k
        · subst hjk; exact hjun
        · rw [getD_set_ne true hjk] at hun; exact hun
      · rw [Array.setIfInBounds_comm _ _ hne]
        exact h6
    · subst heq
      exact hy.wpOp hi hS ⟨.inr hS, H⟩
theorem takeZs (i : Nat) (d : Option Tmp) {oi : Oper} {v : Value} {fuel : Nat} {listed : Array Bool} {a : Act} {w : World} (hz : waitsAlls md ops z = true) (hzi : z i = false) (hi : ops[i]? = some oi) (hd : oi.dst = d)
    (hs : Region.noSelect ops = true) (hcl : cloB md ops listed = true) (hf : Region.free md ops listed i = true) (hr : (Region.ready md ops listed).contains i = true)
    (hQ : ∀ c a w, Q (.panic c) (a.put d v) w → Q (.panic c) a w) (hw : Region.wanted oi (yielded ops a.tmps) = true) (hy : ∀ w, S w → (execOp a.eval oi).run P w = .ok (.value v) w) (hS : S w)
    (h : wpAnyZs P md ops Q S z fuel (listed.setIfInBounds i true) (a.put d v) w) : wpAnyZs P md ops Q S z (fuel + 1) listed a w := by
  subst hd
  exact z_firsts hz hzi hi (Region.noSelect_spec hs) hQ fuel listed a w (Region.free_spec hi hf) (cloB_spec hcl) (by simpa using hr) (.inl ⟨hw, hy⟩) hS h
/-- An operation whose guard leaves it out. -/
theorem skipZs (i : Nat) (d : Option Tmp) {oi : Oper} {fuel : Nat} {listed : Array Bool} {a : Act} {w : World} (hz : waitsAlls md ops z = true) (hzi : z i = false) (hi : ops[i]? = some oi) (hd : oi.dst = d)
    (hs : Region.noSelect ops = true) (hcl : cloB md ops listed = true) (hf : Region.free md ops listed i = true) (hr : (Region.ready md ops listed).contains i = true)
    (hQ : ∀ c a w, Q (.panic c) (a.put d undef) w → Q (.panic c) a w) (hw : Region.wanted oi (yielded ops a.tmps) = false) (hS : S w)
    (h : wpAnyZs P md ops Q S z fuel (listed.setIfInBounds i true) (a.put d undef) w) : wpAnyZs P md ops Q S z (fuel + 1) listed a w := by
  subst hd
  exact z_firsts hz hzi hi (Region.noSelect_spec hs) hQ fuel listed a w (Region.free_spec hi hf) (cloB_spec hcl) (by simpa using hr) (.inr ⟨hw, rfl⟩) hS h
/-- One operation alone may come up. -/
theorem oneZs (i : Nat) {oi : Oper} {fuel : Nat} {listed : Array Bool} {a : Act} {w : World} (hi : ops[i]? = some oi) (hr : Region.ready md ops listed = [i])
    (h : ∀ K : Act → World → Prop, _root_.Go.Shut (∀ a w, (z i = true ∨ S w) → wpAnyZs P md ops Q S z fuel (listed.setIfInBounds i true) a w → K a w) → if Region.wanted oi (yielded ops a.tmps) = true then Oper.wp P oi a w K Q else K (a.put oi.dst undef) w) :
    wpAnyZs P md ops Q S z (fuel + 1) listed a w := by
  refine ⟨fun h0 => ?_, fun j hj => ?_⟩
  · rw [hr] at h0; cases h0
  · rw [hr] at hj
    obtain rfl : j = i := by simpa using hj
    exact wpOp_step hi fun K hK => h K fun a w h1 h2 => hK a w ⟨h1, h2⟩
theorem doneZs {listed : Array Bool} {a : Act} {w : World} (hr : Region.ready md ops listed = []) (h : Q .normal a w) : ∀ fuel, wpAnyZs P md ops Q S z fuel listed a w
  | 0 => ⟨hr, h⟩
  | _ + 1 => ⟨fun _ => h, by rw [hr]; simp⟩
theorem region_zs {id : Nat} {a : Act} {w : World} (z : Nat → Bool) (hm : P.follows .mixedOrders = true) (hS : S w.drew) (h : S w.drew → wpAnyZs P .any ops Q S z ops.size (Array.replicate ops.size false) a w.drew) : (Code.region id ops true).wp P Q a w :=
  wp_region_any hm (any_of_zs _ _ _ _ (h hS))
end

theorem anyIn_of_zs {P : Program} {ops : Array Oper} {md : Region.Mode} {l n : Nat} {z : Nat → Bool} {S : World → Prop} {Q : Exit → Act → World → Prop} (hnd : noDefer ops = true) :
    ∀ (fuel : Nat) (listed : Array Bool) (a : Act) (w : World), wpAnyZs P md ops (NoOut Q) S z fuel listed a w → wpAnyIn (Fence.wide.inRound l) n P md ops Q fuel listed a w
  | 0, _, _, _, h => ⟨h.1, NoOut.imp _ _ _ h.2⟩
  | fuel + 1, listed, a, w, h => by
    refine ⟨fun h0 => NoOut.imp _ _ _ (h.1 h0), fun i hi => ?_⟩
    have h2 := h.2 i hi
    unfold wpOp at h2
    unfold wpOpIn
    split at h2
    · rename_i e
      rw [e]
      exact anyIn_of_zs hnd fuel _ _ _ h2.2
    · rename_i o e
      rw [e]
      show if _ then _ else _
      split at h2
      · rename_i hw
        rw [if_pos hw]
        rcases h2 with h2 | h2
        · exact Oper.wpIn_mono (fun a' w' h3 => anyIn_of_zs hnd fuel _ a' w' h3.2) (opIn_of_op (noDefer_spec hnd e) h2)
        · exact (not_letsOut Q h2.2).elim
      · rename_i hw
        rw [if_neg hw]
        exact ⟨fun _ _ => trivial, anyIn_of_zs hnd fuel _ _ _ h2.2⟩
/-- A region that draws, in a round; the operation z waits for all others. -/
theorem region_round_zs {P : Program} {ops : Array Oper} {l n id : Nat} {S : World → Prop} {Q : Exit → Act → World → Prop} {a : Act} {w : World} (z : Nat → Bool) (hm : P.follows .mixedOrders = true) (hnd : noDefer ops = true) (hS : S w.drew)
    (h : S w.drew → wpAnyZs P .any ops (NoOut Q) S z ops.size (Array.replicate ops.size false) a w.drew) : (Code.region id ops true).wpIn (Fence.wide.inRound l) n P Q a w :=
  wpIn_region_any hm (anyIn_of_zs hnd _ _ _ _ (h hS))
end Go.Proofs.Ytjheaeeeeggncaa

namespace Go.Proofs.Ytjheaeeeeggncaa
open Go.RowKit Go.Shelf
attribute [local go_sem] Oper.semAt_some
set_option maxRecDepth 100000
set_option linter.unusedVariables false
set_option linter.unusedSimpArgs false

def onlyN (Q : Exit → Act → World → Prop) : Exit → Act → World → Prop
  | .normal, a, w => Q .normal a w
  | _, _, _ => False
theorem only_intro {Q : Exit → Act → World → Prop} {a : Act} {w : World} (h : Q .normal a w) : onlyN Q .normal a w := h
theorem wp_only {P : Program} {Q : Exit → Act → World → Prop} {a : Act} {w : World} {c : Code} (h : c.wp P (onlyN Q) a w) : c.wp P Q a w :=
  wp_mono h fun e a w h => by cases e <;> first | exact h | exact h.elim
section
variable {P : Program} {ops : Array Oper} {Q : Exit → Act → World → Prop} {md : Region.Mode} {S : World → Prop} {z : Nat → Bool}
end
/-- What nth answers. -/
def NtTo (w : World) (n : Nat) (f : Nat → Nat) (x : Int) (e : Ending) (w' : World) : Prop :=
  ((0 ≤ x ∧ x < ((wys n f 0 : Nat) : Int) ∧ ∃ v, e = .returned (.tuple #[v, .bool true]) ∧ w'.ownsRow w.heap.size 3 1 v (nthL n f n 0 x.toNat).length (elV (nthL n f n 0 x.toNat))) ∨ (¬ (0 ≤ x ∧ x < ((wys n f 0 : Nat) : Int)) ∧ e = .returned (.tuple #[.slice none 0 0, .bool false]))) ∧ Below w.heap.size w w'
/-- The boxes of k, line, ways and come; the row of line lies behind them (low). -/
structure NtS (w : World) (n : Nat) (f : Nat → Nat) (a : WyA) (wB cB low : Nat) (u k : Nat) (ln : List Nat) (v : Value) (X : World) : Prop where
  kb : X.heap[w.heap.size]? = some (.cells #[.int .i64 (k : Int)] 3 (0, 0))
  lb : X.heap[w.heap.size + 1]? = some (.cells #[v] 33 (0, 0))
  wb : X.heap[wB]? = some (.cells #[a.fn] 81 (0, 0))
  cb : X.heap[cB]? = some (.cells #[.int .u16 (u : Int)] 72 (0, 0))
  row : X.ownsRow w.heap.size 3 1 v ln.length (elV ln)
  rge : ∀ g, v.ownBlock = some g → low ≤ g
  at_ : ∃ tab, WyAt n f a tab X
  bel : Below w.heap.size w X
section
variable {w : World} {n : Nat} {f : Nat → Nat} {a : WyA} {wB cB low u k : Nat} {ln : List Nat} {v : Value} {X Y : World}
theorem NtS.keep (h : NtS w n f a wB cB low u k ln v X) (hc : ∀ (k : Nat) (cs : Array Value) (T : TypeId) (fr : Nat × Nat), X.heap[k]? = some (.cells cs T fr) → Y.heap[k]? = some (.cells cs T fr)) (hm : ∀ o, X.heap[a.M]? = some o → Y.heap[a.M]? = some o) (hb : Below w.heap.size w Y) : NtS w n f a wB cB low u k ln v Y := by
  obtain ⟨tab, ht⟩ := h.at_
  exact ⟨hc _ _ _ _ h.kb, hc _ _ _ _ h.lb, hc _ _ _ _ h.wb, hc _ _ _ _ h.cb, own_row_kept h.row fun g cur _ hg => hc _ _ _ _ hg, h.rge, ⟨tab, ht.keep fun k o hk ho => by
    rcases hk with rfl | rfl | rfl | rfl | rfl
    · rw [ht.blk] at ho; cases ho; exact hc _ _ _ _ ht.blk
    · rw [ht.known] at ho; cases ho; exact hc _ _ _ _ ht.known
    · exact hm o ho
    · rw [ht.ord] at ho; cases ho; exact hc _ _ _ _ ht.ord
    · rw [ht.clo] at ho; cases ho; exact hc _ _ _ _ ht.clo⟩, hb⟩
theorem NtS.on {B : Nat} (h : NtS w n f a wB cB low u k ln v X) (hb : Below B X Y) (hB : X.heap.size ≤ B) : NtS w n f a wB cB low u k ln v Y :=
  h.keep (fun k cs T fr ho => (hb.block _ (Nat.lt_of_lt_of_le (at_lt ho) hB)).trans ho) (fun o ho => (hb.block _ (Nat.lt_of_lt_of_le (at_lt ho) hB)).trans ho) (below_join h.bel hb (Nat.le_trans h.bel.size hB))
theorem NtS.own {S : Nat} (h : NtS w n f a wB cB low u k ln v X) (hE : OwnIt S 0 X Y) (hw : w.heap.size ≤ S) (hM : a.M < S) : NtS w n f a wB cB low u k ln v Y :=
  h.keep (own_cells' hE) (fun o ho => hE.same _ _ ho (.inl hM)) (below_own h.bel hE hw)
theorem NtS.put {l : Nat} {o o' : Obj} (h : NtS w n f a wB cB low u k ln v X) (hw : w.heap.size ≤ l) (hM : a.M ≠ l) (ho : X.heap[l]? = some o) (hc : o.isCells = false) : NtS w n f a wB cB low u k ln v (X.putObj l o') :=
  h.keep (fun k cs T fr hk => put_cells hk ho hc) (fun o hh => put_else hh hM) (below_put h.bel hw)
theorem NtS.but {tab' : List (Nat × Nat)} (h : NtS w n f a wB cB low u k ln v X) (hb : But a.M X Y) (ht : WyAt n f a tab' Y) (hM : w.heap.size ≤ a.M) : NtS w n f a wB cB low u k ln v Y := by
  obtain ⟨tab, h0⟩ := h.at_
  have hc : ∀ (k : Nat) (cs : Array Value) (T : TypeId) (fr : Nat × Nat), X.heap[k]? = some (.cells cs T fr) → Y.heap[k]? = some (.cells cs T fr) := fun k cs T fr ho => hb.same _ _ (h0.map.ne ho) ho
  exact ⟨hc _ _ _ _ h.kb, hc _ _ _ _ h.lb, hc _ _ _ _ h.wb, hc _ _ _ _ h.cb, own_row_kept h.row fun g cur _ hg => hc _ _ _ _ hg, h.rge, ⟨tab', ht⟩, hb.low h.bel rfl hM⟩
/-- What lies where. -/
structure NtL (w : World) (a : WyA) (wB cB low : Nat) : Prop where
  m : w.heap.size + 1 < a.M ∧ w.heap.size + 1 < a.kb ∧ w.heap.size + 1 < a.bb ∧ w.heap.size + 1 < a.cb ∧ a.g < w.heap.size
  o : a.M < wB ∧ a.kb < wB ∧ a.bb < wB ∧ a.cb < wB
  b : wB + 1 = cB ∧ cB + 1 = low
abbrev wF (n : Nat) (f : Nat → Nat) (u : Nat) : Nat → Nat := fun i => wys n f (u ||| 1 <<< i)
/-- Between two rounds of the inner loop; what a break leaves. -/
structure NtI (w : World) (n : Nat) (f : Nat → Nat) (a : WyA) (wB cB low mB : Nat) (bs : List Nat) (u k : Nat) (ln : List Nat) (v : Value) (L : List Nat) (Y : World) (pre : List Nat) (X : World) : Prop where
  st : ∃ K', NtS w n f a wB cB low u K' ln v X ∧ pickN (wF n f u) L k = pickN (wF n f u) (L.drop pre.length) K' ∧ K' ≤ k
  mks : Mks mB bs X
  sz : Y.heap.size ≤ X.heap.size
structure NtX (w : World) (n : Nat) (f : Nat → Nat) (a : WyA) (wB cB low mB : Nat) (bs : List Nat) (u k : Nat) (ln : List Nat) (L : List Nat) (Y : World) (c : Code) (X : World) : Prop where
  c : c = .exit 2
  st : ∃ i K' v', pickN (wF n f u) L k = some (i, K') ∧ NtS w n f a wB cB low (u ||| 1 <<< i) K' (ln ++ [i]) v' X
  mks : Mks mB bs X
  sz : Y.heap.size ≤ X.heap.size
theorem mks_own {S mB : Nat} {bs : List Nat} (h : Mks mB bs X) (hE : OwnIt S 0 X Y) (hbs : ∀ b ∈ bs, b < S) : Mks mB bs Y := ⟨h.nodup, fun b hb => ⟨(h.at_ b hb).1, hE.same _ _ (h.at_ b hb).2 (.inl (hbs b hb))⟩⟩
theorem mks_put {l mB : Nat} {bs : List Nat} {o' : Obj} (h : Mks mB bs X) (hbs : ∀ b ∈ bs, b ≠ l) : Mks mB bs (X.putObj l o') := ⟨h.nodup, fun b hb => ⟨(h.at_ b hb).1, put_else (h.at_ b hb).2 (hbs b hb)⟩⟩
section
variable {mB : Nat} {bs L pre : List Nat} {c : Code} {Z : World}
theorem NtI.own {S : Nat} (h : NtI w n f a wB cB low mB bs u k ln v L Y pre X) (hE : OwnIt S 0 X Z) (hw : w.heap.size ≤ S) (hM : a.M < S) (hbs : ∀ b ∈ bs, b < S) : NtI w n f a wB cB low mB bs u k ln v L Y pre Z := by
  obtain ⟨K', h1, h2⟩ := h.st
  exact ⟨⟨K', h1.own hE hw hM, h2⟩, mks_own h.mks hE hbs, Nat.le_trans h.sz hE.size⟩
theorem NtI.put {l : Nat} {o o' : Obj} (h : NtI w n f a wB cB low mB bs u k ln v L Y pre X) (hw : w.heap.size ≤ l) (hM : a.M ≠ l) (hbs : ∀ b ∈ bs, b ≠ l) (ho : X.heap[l]? = some o) (hc : o.isCells = false) : NtI w n f a wB cB low mB bs u k ln v L Y pre (X.putObj l o') := by
  obtain ⟨K', h1, h2⟩ := h.st
  exact ⟨⟨K', h1.put hw hM ho hc, h2⟩, mks_put h.mks hbs, by simpa using h.sz⟩
theorem NtX.own {S : Nat} (h : NtX w n f a wB cB low mB bs u k ln L Y c X) (hE : OwnIt S 0 X Z) (hw : w.heap.size ≤ S) (hM : a.M < S) (hbs : ∀ b ∈ bs, b < S) : NtX w n f a wB cB low mB bs u k ln L Y c Z := by
  obtain ⟨i, K', v', h0, h1⟩ := h.st
  exact ⟨h.c, ⟨i, K', v', h0, h1.own hE hw hM⟩, mks_own h.mks hE hbs, Nat.le_trans h.sz hE.size⟩
theorem NtX.put {l : Nat} {o o' : Obj} (h : NtX w n f a wB cB low mB bs u k ln L Y c X) (hw : w.heap.size ≤ l) (hM : a.M ≠ l) (hbs : ∀ b ∈ bs, b ≠ l) (ho : X.heap[l]? = some o) (hc : o.isCells = false) : NtX w n f a wB cB low mB bs u k ln L Y c (X.putObj l o') := by
  obtain ⟨i, K', v', h0, h1⟩ := h.st
  exact ⟨h.c, ⟨i, K', v', h0, h1.put hw hM ho hc⟩, mks_put h.mks hbs, by simpa using h.sz⟩
end
theorem NtS.setK (h : NtS w n f a wB cB low u k ln v X) (l : NtL w a wB cB low) (k' : Nat) : NtS w n f a wB cB low u k' ln v (X.setCell ⟨w.heap.size, 0, none⟩ (.int .i64 (k' : Int))) := by
  obtain ⟨tab, ht⟩ := h.at_
  have lm := l.m; have lo := l.o; have lb := l.b
  exact ⟨set_field h.kb _, set_else h.lb (by omega), set_else h.wb (by omega), set_else h.cb (by omega), own_row_kept h.row fun g cur hg hc => set_else hc (by have := h.rge g hg; omega), h.rge, ⟨tab, ht.keep fun k o hk ho => set_else ho (by rcases hk with rfl | rfl | rfl | rfl | rfl <;> omega)⟩, h.bel.setCell (p := ⟨w.heap.size, 0, none⟩) (Nat.le_refl _) _⟩
theorem NtS.setC (h : NtS w n f a wB cB low u k ln v X) (l : NtL w a wB cB low) (u' : Nat) : NtS w n f a wB cB low u' k ln v (X.setCell ⟨cB, 0, none⟩ (.int .u16 (u' : Int))) := by
  obtain ⟨tab, ht⟩ := h.at_
  have lm := l.m; have lo := l.o; have lb := l.b
  exact ⟨set_else h.kb (by omega), set_else h.lb (by omega), set_else h.wb (by omega), set_field h.cb _, own_row_kept h.row fun g cur hg hc => set_else hc (by have := h.rge g hg; omega), h.rge, ⟨tab, ht.keep fun k o hk ho => set_else ho (by rcases hk with rfl | rfl | rfl | rfl | rfl <;> omega)⟩, h.bel.setCell (p := ⟨cB, 0, none⟩) (by show w.heap.size ≤ cB; omega) _⟩
/-- The line has grown: the box of line is stored behind. -/
theorem NtS.setL {v' : Value} {ln' : List Nat} {Z : World} (h : NtS w n f a wB cB low u k ln v X) (l : NtL w a wB cB low) (hk : ∀ (j : Nat) (o : Obj), v.ownBlock ≠ some j → X.heap[j]? = some o → Z.heap[j]? = some o) (hr : Z.ownsRow w.heap.size 3 1 v' ln'.length (elV ln')) (hg : ∀ g, v'.ownBlock = some g → low ≤ g) (hb : Below w.heap.size w Z) : NtS w n f a wB cB low u k ln' v' (Z.setCell ⟨w.heap.size + 1, 0, none⟩ v') := by
  obtain ⟨tab, ht⟩ := h.at_
  have lm := l.m; have lo := l.o; have lb := l.b
  have hz : ∀ (j : Nat) (o : Obj), j < low → X.heap[j]? = some o → Z.heap[j]? = some o := fun j o hj ho => hk j o (fun e => by have := h.rge _ e; omega) ho
  exact ⟨set_else (hz _ _ (by omega) h.kb) (by omega), set_field (hz _ _ (by omega) h.lb) _, set_else (hz _ _ (by omega) h.wb) (by omega), set_else (hz _ _ (by omega) h.cb) (by omega), own_row_kept hr fun g cur hg' hc => set_else hc (by have := hg g hg'; omega), hg, ⟨tab, ht.keep fun k o hk ho => set_else (hz _ _ (by rcases hk with rfl | rfl | rfl | rfl | rfl <;> omega) ho) (by rcases hk with rfl | rfl | rfl | rfl | rfl <;> omega)⟩, hb.setCell (p := ⟨w.heap.size + 1, 0, none⟩) (by show w.heap.size ≤ w.heap.size + 1; omega) _⟩
end
set_option maxHeartbeats 32000000 in
theorem c_nth (g n : Nat) (f : Nat → Nat) (hn : n ≤ 12) (hf : ∀ j, f j < 2 ^ 12) (x : Int) (w : World) (h : Blk w g n f) :
    Calls Try.prog 64 #[.slice (some ⟨g, 0, none⟩) n n, .int .i64 x] w (NtTo w n f x) := by
  have H := Lib.hid h
  obtain ⟨W1, hW1⟩ : ∃ W, W = w.alloc (.cells #[.int .i64 x] 3) := ⟨_, rfl⟩
  obtain ⟨W, hW⟩ : ∃ W, W = W1.alloc (.cells #[.slice none 0 0] 33) := ⟨_, rfl⟩
  have b1 : Below w.heap.size w W1 := by rw [hW1]; exact (Below.refl _ _).alloc (Nat.le_refl _) _
  have z1 : W1.heap.size = w.heap.size + 1 := by rw [hW1, World.size_alloc]
  have HB := Lib.hid (show Below w.heap.size w W by rw [hW]; exact b1.alloc b1.size _)
  have HK := Lib.hid (show W.heap[w.heap.size]? = some (.cells #[.int .i64 x] 3 (0, 0)) by rw [hW]; refine old_heap _ ?_; rw [hW1]; exact heap_alloc_new _ _)
  have HL := Lib.hid (show W.heap[w.heap.size + 1]? = some (.cells #[.slice none 0 0] 33 (0, 0)) by rw [hW, ← z1]; exact heap_alloc_new _ _)
  have zW : W.heap.size = w.heap.size + 2 := by rw [hW, World.size_alloc, z1]
  have HCW := Lib.hid (c_ways g n f hn W (H.out.on HB.out (Nat.le_refl _)))
  have hgw := at_lt h
  clear h b1 z1
  refine (callsIn_wide (n := 8)).1 ?_
  refine callsIn_of_wp_marks Try.func64 rfl trivial ?_ rfl
  simp only [Try.ntmps64, List.size_toArray, List.length_cons, List.length_nil, Nat.reduceAdd, Nat.reduceSub, Array.replicate_succ, Array.replicate_zero, List.push_toArray, List.append_toArray, List.nil_append, List.cons_append]
  rw [wpIn_wide]
  go_wp2_with (fail)
  rw [← hW1, ← hW]
  clear hW hW1
  go_at_call 62
  refine HCW.out.mono ?_
  rintro e v1 ⟨a, rfl, ha, hM, hat, b1⟩
  unfold WyA.fn
  obtain ⟨V1, q1⟩ : ∃ X, X = v1.alloc (.cells #[a.fn] 81) := ⟨_, rfl⟩
  obtain ⟨V, q2⟩ : ∃ X, X = V1.alloc (.cells #[.int .u16 0] 72) := ⟨_, rfl⟩
  have zV1 : V1.heap.size = v1.heap.size + 1 := by rw [q1, World.size_alloc]
  have zV : V.heap.size = v1.heap.size + 2 := by rw [q2, World.size_alloc, zV1]
  have bV1 : Below v1.heap.size v1 V1 := by rw [q1]; exact (Below.refl _ _).alloc (Nat.le_refl _) _
  have bV : Below v1.heap.size v1 V := by rw [q2]; exact bV1.alloc bV1.size _
  have hzv := b1.size
  have kpV : ∀ (k : Nat) (o : Obj), W.heap[k]? = some o → V.heap[k]? = some o := fun k o ho => (bV.block _ (by have := at_lt ho; omega)).trans ((b1.block _ (at_lt ho)).trans ho)
  have HKV := Lib.hid (kpV _ _ HK.out)
  have HLV := Lib.hid (kpV _ _ HL.out)
  have HWB := Lib.hid (show V.heap[v1.heap.size]? = some (.cells #[a.fn] 81 (0, 0)) by rw [q2]; refine old_heap _ ?_; rw [q1]; exact heap_alloc_new _ _)
  have HCB := Lib.hid (show V.heap[v1.heap.size + 1]? = some (.cells #[.int .u16 0] 72 (0, 0)) by rw [q2, ← zV1]; exact heap_alloc_new _ _)
  have HAV := Lib.hid (hat.on bV (Nat.le_refl _))
  have HBV := Lib.hid (show Below w.heap.size w V from (HB.out.trans (b1.mono (by omega))).trans (bV.mono (by omega)))
  have HNL := Lib.hid (show NtL w a v1.heap.size (v1.heap.size + 1) (v1.heap.size + 2) from ⟨⟨by omega, by omega, by omega, by omega, by omega⟩, ⟨hat.map.lt, at_lt hat.known, at_lt hat.ord, at_lt hat.clo⟩, rfl, rfl⟩)
  have hp12 := pow12 hn
  have hMv := hat.map.lt
  go_wp2_with (fail)
  rw [show (.cells #[.func (.func 81) #[] #[.pointer (some ⟨a.kb, 0, none⟩), .pointer (some ⟨a.bb, 0, none⟩), .pointer (some ⟨a.cb, 0, none⟩)]] 81 : Obj) = .cells #[a.fn] 81 from rfl, ← q1, ← q2]
  clear q1 q2 bV1 bV hat b1 zV1 hM kpV
  have hfm : Try.prog.follows Departure.mixedOrders = true := by kernel_rfl
  have y0 := cell_of HKV.out (o := 0) rfl
  have y1 := cell_of HWB.out (o := 0) rfl
  have y2 := cell_of HCB.out (o := 0) rfl
  unfold WyA.fn at y1
  have hE0 : ∀ X : World, Below w.heap.size w X → (hb : X.heap[w.heap.size + 1]? = some (.cells #[.slice none 0 0] 33 (0, 0))) → ¬ (0 ≤ x ∧ x < ((wys n f 0 : Nat) : Int)) → NtTo w n f x (.returned (.tuple #[.slice none 0 0, .bool false])) X := fun X hb _ hn => ⟨.inr ⟨hn, rfl⟩, hb⟩
  have HE0 := Lib.hid hE0
  clear hE0
  rcases hx0 : decide (x < 0) with _ | _
  rotate_left
  · have hx0' := of_decide_eq_true hx0
    refine wp_only ?_
    go_region
    refine only_intro ?_
    have l0 := cell_of HLV.out (o := 0) rfl
    have l1 := frz HLV.out 0
    go_wp2_with (fail)
    refine leaves_marks (by simp) [] _ (Mks.nil 0 _) fun W' hW' => ?_
    have c0 : W'.cell? ⟨w.heap.size + 1, 0, none⟩ = some (.slice none 0 0) := cell_of (hW'.same _ _ (by simp) (set_field HLV.out _)) rfl
    refine ⟨.tuple #[.slice none 0 0, .bool false], by simp [results, Try.results64, go_sem, c0], ⟨.inr ⟨fun h => by omega, rfl⟩, ?_⟩⟩
    first
      | exact hW'.below (fun b hb => by cases hb) ((HBV.out.setCell (p := ⟨w.heap.size + 1, 0, none⟩) (by show w.heap.size ≤ w.heap.size + 1; omega) _).drew) (Nat.le_refl _)
      | exact hW'.below (fun b hb => by cases hb) (HBV.out.drew.setCell (p := ⟨w.heap.size + 1, 0, none⟩) (by show w.heap.size ≤ w.heap.size + 1; omega) _) (Nat.le_refl _)
  have hx0' := of_decide_eq_false hx0
  obtain ⟨kx, rfl⟩ : ∃ kx : Nat, x = kx := ⟨x.toNat, by omega⟩
  have HCC := Lib.hid (c_ways1 a n f hn hf _ 0 _ V.drew (Nat.two_pow_pos _) rfl (HAV.out.on (Below.refl _ _).drew (Nat.le_refl _)))
  refine wp_only ?_
  refine region_zs (fun _ => false) (S := fun X => X.cell? ⟨w.heap.size, 0, none⟩ = some (.int .i64 (kx : Int)) ∧ X.cell? ⟨v1.heap.size, 0, none⟩ = some (.func (.func 81) #[] #[.pointer (some ⟨a.kb, 0, none⟩), .pointer (some ⟨a.bb, 0, none⟩), .pointer (some ⟨a.cb, 0, none⟩)]) ∧ X.cell? ⟨v1.heap.size + 1, 0, none⟩ = some (.int .u16 0)) hfm ⟨y0, y1, y2⟩ (fun hHeld => ?_)
  refine takeZs 0 (some 12) (by kernel_rfl) rfl rfl rfl (by kernel_rfl) (by kernel_rfl) (by kernel_rfl) (by kernel_rfl) (fun _ _ _ h => h) (by rfl) (by intro w ⟨g1, g2, g3⟩; go_simp; try with_reducible rfl) hHeld ?_
  simp only [Act.put, List.setIfInBounds_toArray, List.set_cons_zero, List.set_cons_succ]
  refine takeZs 1 (some 13) (by kernel_rfl) rfl rfl rfl (by kernel_rfl) (by kernel_rfl) (by kernel_rfl) (by kernel_rfl) (fun _ _ _ h => h) (by rfl) (by intro w ⟨g1, g2, g3⟩; go_simp; try with_reducible rfl) hHeld ?_
  simp only [Act.put, List.setIfInBounds_toArray, List.set_cons_zero, List.set_cons_succ]
  refine takeZs 2 (some 14) (by kernel_rfl) rfl rfl rfl (by kernel_rfl) (by kernel_rfl) (by kernel_rfl) (by kernel_rfl) (fun _ _ _ h => h) (by rfl) (by intro w ⟨g1, g2, g3⟩; go_simp; try with_reducible rfl) hHeld ?_
  simp only [Act.put, List.setIfInBounds_toArray, List.set_cons_zero, List.set_cons_succ]
  refine takeZs 3 (some 15) (by kernel_rfl) rfl rfl rfl (by kernel_rfl) (by kernel_rfl) (by kernel_rfl) (by kernel_rfl) (fun _ _ _ h => h) (by rfl) (by intro w ⟨g1, g2, g3⟩; go_simp; try with_reducible rfl) hHeld ?_
  simp only [Act.put, List.setIfInBounds_toArray, List.set_cons_zero, List.set_cons_succ]
  refine takeZs 4 (some 16) (by kernel_rfl) rfl rfl rfl (by kernel_rfl) (by kernel_rfl) (by kernel_rfl) (by kernel_rfl) (fun _ _ _ h => h) (by rfl) (by intro w ⟨g1, g2, g3⟩; go_simp; try with_reducible rfl) hHeld ?_
  simp only [Act.put, List.setIfInBounds_toArray, List.set_cons_zero, List.set_cons_succ]
  refine takeZs 5 (some 17) (by kernel_rfl) rfl rfl rfl (by kernel_rfl) (by kernel_rfl) (by kernel_rfl) (by kernel_rfl) (fun _ _ _ h => h) (by rfl) (by intro w ⟨g1, g2, g3⟩; go_simp; try with_reducible rfl) hHeld ?_
  simp only [Act.put, List.setIfInBounds_toArray, List.set_cons_zero, List.set_cons_succ]
  refine oneZs 6 rfl (by kernel_rfl) (fun K hK => ?_)
  go_simp
  go_at_call 81
  refine HCC.out.mono ?_
  rintro e v2 ⟨he, new, hat2, -, hb2⟩
  obtain ⟨w0, hw0⟩ : ∃ w0, wys n f 0 = w0 := ⟨_, rfl⟩
  have HW0 := Lib.hid hw0
  rw [hw0] at he
  subst he
  have hS0 : NtS w n f a v1.heap.size (v1.heap.size + 1) (v1.heap.size + 2) 0 kx [] (.slice none 0 0) V := ⟨HKV.out, HLV.out, HWB.out, HCB.out, World.ownsRow_nil _ _ _ _, (fun g hg => by cases hg), ⟨_, HAV.out⟩, HBV.out⟩
  have HS2 := Lib.hid (hS0.but ((But.drew (b := a.M)).trans hb2) hat2 (by have := HNL.out.m; omega))
  have q0 := cell_of HS2.out.kb (o := 0) rfl
  have q1 := cell_of HS2.out.wb (o := 0) rfl
  have q2 := cell_of HS2.out.cb (o := 0) rfl
  unfold WyA.fn at q1
  have hH2 : (fun X : World => X.cell? ⟨w.heap.size, 0, none⟩ = some (.int .i64 (kx : Int)) ∧ X.cell? ⟨v1.heap.size, 0, none⟩ = some (.func (.func 81) #[] #[.pointer (some ⟨a.kb, 0, none⟩), .pointer (some ⟨a.bb, 0, none⟩), .pointer (some ⟨a.cb, 0, none⟩)]) ∧ X.cell? ⟨v1.heap.size + 1, 0, none⟩ = some (.int .u16 0)) v2 := ⟨q0, q1, q2⟩
  refine hK.out _ _ (.inr hH2) ?_
  clear hK K hHeld hS0 hat2 hb2 hw0 y0 y1 y2
  try simp only [Act.put, List.setIfInBounds_toArray, List.set_cons_zero, List.set_cons_succ]
  refine takeZs 7 (some 19) (by kernel_rfl) rfl rfl rfl (by kernel_rfl) (by kernel_rfl) (by kernel_rfl) (by kernel_rfl) (fun _ _ _ h => h) (by rfl) (by intro w ⟨g1, g2, g3⟩; go_simp; try with_reducible rfl) hH2 ?_
  simp only [Act.put, List.setIfInBounds_toArray, List.set_cons_zero, List.set_cons_succ]
  refine takeZs 8 (some 20) (by kernel_rfl) rfl rfl rfl (by kernel_rfl) (by kernel_rfl) (by kernel_rfl) (by kernel_rfl) (fun _ _ _ h => h) (by rfl) (by intro w ⟨g1, g2, g3⟩; go_simp; try with_reducible rfl) hH2 ?_
  simp only [Act.put, List.setIfInBounds_toArray, List.set_cons_zero, List.set_cons_succ]
  refine doneZs (by kernel_rfl) ?_ _
  refine only_intro ?_
  clear hH2 q1 q2
  rcases hge : decide ((w0 : Int) ≤ (kx : Int)) with _ | _
  rotate_left
  · have hge' := of_decide_eq_true hge
    have l0 := cell_of HS2.out.lb (o := 0) rfl
    have l1 := frz HS2.out.lb 0
    go_wp2_with (fail)
    refine leaves_marks (by simp) [] _ (Mks.nil 0 _) fun W' hW' => ?_
    have c0 : W'.cell? ⟨w.heap.size + 1, 0, none⟩ = some (.slice none 0 0) := cell_of (hW'.same _ _ (by simp) (set_field HS2.out.lb _)) rfl
    refine ⟨.tuple #[.slice none 0 0, .bool false], by simp [results, Try.results64, go_sem, c0], ⟨.inr ⟨fun h => by have := HW0.out; omega, rfl⟩, ?_⟩⟩
    exact hW'.below (fun b hb => by cases hb) (HS2.out.bel.setCell (p := ⟨w.heap.size + 1, 0, none⟩) (by show w.heap.size ≤ w.heap.size + 1; omega) _) (Nat.le_refl _)
  have hge' := of_decide_eq_false hge
  clear q0
  go_wp2_with (fail)
  have HAG := Lib.hid ha
  have hv2s : v1.heap.size + 2 ≤ v2.heap.size := by have := at_lt HS2.out.cb; omega
  clear ha
  refine wp_loop (fun a' wr => ∃ (u8 u9 u24 u25 u26 u27 u28 u29 u30 u31 u32 u33 u34 u35 u36 u37 u38 u39 u40 u41 u42 u43 u44 u45 u46 u47 u48 u23 : Value) (ds : List Deferred), (∃ (j u kk : Nat) (ln : List Nat) (v : Value), j ≤ n ∧ u23 = .int .i64 (j : Int) ∧ u < 2 ^ n ∧ free n u = n - j ∧ kk < wys n f u ∧ Hid (nthL n f n 0 kx = ln ++ nthL n f (n - j) u kk) ∧ Hid (NtS w n f a v1.heap.size (v1.heap.size + 1) (v1.heap.size + 2) u kk ln v wr) ∧ v1.heap.size + 1 < wr.heap.size ∧ Hid (ln.length = j) ∧ ∃ bs, ds = marks bs ∧ Hid (Mks (v1.heap.size + 2) bs wr)) ∧ a' = { tmps := #[.slice (some ⟨g, 0, none⟩) n n, .int .i64 (kx : Int), undef, .pointer (some ⟨w.heap.size, 0, none⟩), .pointer (some ⟨w.heap.size + 1, 0, none⟩), .bool false, .pointer (some ⟨v1.heap.size, 0, none⟩), .pointer (some ⟨v1.heap.size + 1, 0, none⟩), u8, u9, .slice (some ⟨g, 0, none⟩) n n, .func (.func 81) #[] #[.pointer (some ⟨a.kb, 0, none⟩), .pointer (some ⟨a.bb, 0, none⟩), .pointer (some ⟨a.cb, 0, none⟩)], .int .i64 (kx : Int), .bool false, .bool false, .int .i64 (kx : Int), .func (.func 81) #[] #[.pointer (some ⟨a.kb, 0, none⟩), .pointer (some ⟨a.bb, 0, none⟩), .pointer (some ⟨a.cb, 0, none⟩)], .int .u16 0, .int .i64 (w0 : Int), .bool false, .bool false, .slice (some ⟨g, 0, none⟩) n n, .int .i64 (n : Int), u23, u24, u25, u26, u27, u28, u29, u30, u31, u32, u33, u34, u35, u36, u37, u38, u39, u40, u41, u42, u43, u44, u45, u46, u47, u48, undef], defers := ds }) (fun a' _ => n - (intOf (a'.tmps.getD 23 undef)).toNat) ?atStart ?round
  case atStart =>
    (repeat apply Exists.intro)
    refine ⟨?rel0, rfl⟩
    exact ⟨0, 0, kx, [], .slice none 0 0, Nat.zero_le _, rfl, Nat.two_pow_pos n, by rw [free_none]; rfl, by rw [HW0.out]; omega, Lib.hid rfl, HS2, by omega, Lib.hid rfl, [], rfl, Lib.hid (Mks.nil _ _)⟩
  case round =>
    rintro _ wr ⟨u8, u9, u24, u25, u26, u27, u28, u29, u30, u31, u32, u33, u34, u35, u36, u37, u38, u39, u40, u41, u42, u43, u44, u45, u46, u47, u48, u23, ds, ⟨j, u, kk, ln, v, hj, rfl, hu, hfr, hkk, hQ, hS, hvw, hll, bs, rfl, hM⟩, rfl⟩
    have hti : ((j : Nat) : Int).toNat = j := by omega
    obtain ⟨As, cs, rfl⟩ := own_shape hS.out.row
    by_cases hlt : j < n
    · have htl : (j : Int) < (n : Int) := by omega
      have hu12 : u < 2 ^ 12 := by omega
      have hne : u ≠ 2 ^ n - 1 := fun e => by rw [e, free_all] at hfr; omega
      obtain ⟨i0, k0, hpk, him, hk0⟩ := nth_next hu hne hkk
      have HPK := Lib.hid hpk
      have hnx := nthL_next (r := n - j - 1) hpk
      rw [show n - j - 1 + 1 = n - j by omega] at hnx
      have HQ2 := Lib.hid (show nthL n f n 0 kx = (ln ++ [i0]) ++ nthL n f (n - (j + 1)) (u ||| 1 <<< i0) k0 by rw [hQ.out, hnx, List.append_assoc, show n - j - 1 = n - (j + 1) by omega]; rfl)
      obtain ⟨tab, hat⟩ := hS.out.at_
      have HAT := Lib.hid hat
      have y0 := cell_of hS.out.cb (o := 0) rfl
      have HLE := Lib.hid (lst_en (b := f) (s := u) hn)
      have hsb : setB (enB f u) n < 2 ^ 12 := Nat.lt_of_lt_of_le (setB_lt _ _) (Nat.pow_le_pow_right (by omega) hn)
      have hMw := hat.map.lt
      clear hat hpk hnx
      go_wp2_with (fail)
      clear y0
      go_at_call 59
      refine (c_enabled g n f hn hf u hu12 wr (by have := HAT.out.blk; rwa [HAG.out] at this)).mono ?_
      rintro e v3 ⟨rfl, hv3⟩
      rw [hv3]
      clear hv3 v3
      obtain ⟨s, hs⟩ : ∃ t, setB (enB f u) n = t := ⟨_, rfl⟩
      rw [hs] at HLE hsb ⊢
      have HSQ := Lib.hid (c_each 7 (by omega) (fun _ => False) s hsb wr)
      rw [HLE.out] at HSQ
      have HEI := Lib.hid (fun (i : Nat) (hi : i ∈ enL n f u) => (show i < n ∧ u.testBit i = false from by
        have h1 := enL_mem.1 hi
        refine ⟨h1.1, ?_⟩
        have := h1.2; unfold enB at this; simp at this; exact this.1))
      obtain ⟨L, hL⟩ : ∃ L, enL n f u = L := ⟨_, rfl⟩
      have HPK2 := HPK
      rw [hL] at HSQ HEI HPK2 him
      have hws := hS.out.bel.size
      clear hs hL
      go_wp2_with (fail)
      refine (wpIn_wide (n := 8)).1 ?_
      refine wpIn_it (n := 8) (by omega) (gf := 77) (fb := #[.int .u16 (s : Int)]) (lb := #[]) rfl eg_each (m := 0) (Gd := fun _ => False) (ok := okE) (ts := L) (w0 := wr) HSQ.out (KpG.refl _) (fun v t h => by rw [h]; rfl)
        (fun pre X => NtI w n f a v1.heap.size (v1.heap.size + 1) (v1.heap.size + 2) (v1.heap.size + 2) bs u kk ln (.slice As ln.length cs) L wr pre X) (fun c _ X => NtX w n f a v1.heap.size (v1.heap.size + 1) (v1.heap.size + 2) (v1.heap.size + 2) bs u kk ln L wr c X)
        (fun pre X Y h hE => h.own hE (by omega) (by omega) (fun b hb => by have := hM.out.lt hb; omega)) (fun c pre X Y h hE => h.own hE (by omega) (by omega) (fun b hb => by have := hM.out.lt hb; omega))
        (fun pre X l o o' h hl ho hc => h.put (by omega) (by omega) (fun b hb => by have := hM.out.lt hb; omega) ho hc) (fun c pre X l o o' h hl ho hc => h.put (by omega) (by omega) (fun b hb => by have := hM.out.lt hb; omega) ho hc)
        ⟨⟨kk, hS.out, by rw [List.length_nil, List.drop_zero], Nat.le_refl _⟩, hM.out, Nat.le_refl _⟩ ?iround ?idone ?istop
      case iround =>
        intro l pre v5 i X K hpre hok hKK
        obtain rfl : v5 = #[.int .i64 (i : Int)] := hok
        gi_wp2_with (fail)
        refine hKK _ _ (Below.refl _ _) ?_
        rintro Z ⟨o, o', ho', hoc, hYe⟩ hsz hI
        have hie := hpre.subset (show i ∈ pre ++ [i] by simp)
        obtain ⟨hin, hnb⟩ := HEI.out i hie
        obtain ⟨K', hs0, hp0, hk0'⟩ := hI.st
        obtain ⟨tl, htl2⟩ := hpre
        have hs2 := put_lt hu hin
        have HWF := Lib.hid (show ∀ ws : Nat, wys n f (u ||| 1 <<< i) = ws → pickN (wF n f u) L kk = if K' < ws then some (i, K') else pickN (wF n f u) (L.drop (pre ++ [i]).length) (K' - ws) from fun ws hws => by
          rw [hp0, ← htl2, show (pre ++ [i] ++ tl).drop (pre ++ [i]).length = tl by simp, show (pre ++ [i] ++ tl).drop pre.length = i :: tl by simp, pick_cons, show wF n f u i = ws from hws])
        have hwb := wys_12 (n := n) (b := f) hn (u ||| 1 <<< i)
        have hkb := wys_12 (n := n) (b := f) hn u
        have HS := Lib.hid hs0
        have HI := Lib.hid hI
        have HMK := Lib.hid hI.mks
        have hZs := hI.sz
        obtain ⟨tab2, hat2⟩ := hs0.at_
        have HAT2 := Lib.hid hat2
        have HROW := Lib.hid hs0.row
        have hlow := hs0.rge
        have HRGE := Lib.hid hlow
        obtain ⟨u2, hu2e⟩ : ∃ t, u ||| 1 <<< i = t := ⟨_, rfl⟩
        have HU2 := Lib.hid hu2e
        rw [hu2e] at hs2 hwb
        obtain ⟨ws, hws⟩ : ∃ t, wys n f u2 = t := ⟨_, rfl⟩
        have HWS := Lib.hid hws
        rw [hu2e] at HWF
        have HPP := Lib.hid (HWF.out ws hws)
        rw [hws] at hwb
        have HCW2 := Lib.hid (fun (X : World) (hX : WyAt n f a tab2 X) => c_ways1 a n f hn hf _ u2 tab2 X hs2 rfl hX)
        have HCO := Lib.hid (fun (X : World) => c_with u i (by omega) (by omega) X)
        rw [hu2e] at HCO
        have z1 := cell_of hs0.wb (o := 0) rfl
        have z2 := cell_of hs0.cb (o := 0) rfl
        unfold WyA.fn at z1
        clear hYe ho' hoc o o' hKK hI hs0 hp0 htl2 tl hat2 hu2e hws hie hlow HWF
        gi_wp2_with (fail)
        refine region_round_zs (fun _ => false) (S := fun X => X.cell? ⟨v1.heap.size, 0, none⟩ = some (.func (.func 81) #[] #[.pointer (some ⟨a.kb, 0, none⟩), .pointer (some ⟨a.bb, 0, none⟩), .pointer (some ⟨a.cb, 0, none⟩)]) ∧ X.cell? ⟨v1.heap.size + 1, 0, none⟩ = some (.int .u16 (u : Int))) hfm (by kernel_rfl) ⟨z1, z2⟩ (fun hHeld => ?_)
        refine takeZs 0 (some 30) (by kernel_rfl) rfl rfl rfl (by kernel_rfl) (by kernel_rfl) (by kernel_rfl) (by kernel_rfl) (fun _ _ _ h => h) (by rfl) (by intro w ⟨g1, g2⟩; go_simp; try with_reducible rfl) hHeld ?_
        simp only [Act.put, List.setIfInBounds_toArray, List.set_cons_zero, List.set_cons_succ]
        refine takeZs 1 (some 31) (by kernel_rfl) rfl rfl rfl (by kernel_rfl) (by kernel_rfl) (by kernel_rfl) (by kernel_rfl) (fun _ _ _ h => h) (by rfl) (by intro w ⟨g1, g2⟩; go_simp; try with_reducible rfl) hHeld ?_
        simp only [Act.put, List.setIfInBounds_toArray, List.set_cons_zero, List.set_cons_succ]
        refine takeZs 2 (some 32) (by kernel_rfl) rfl rfl rfl (by kernel_rfl) (by kernel_rfl) (by kernel_rfl) (by kernel_rfl) (fun _ _ _ h => h) (by rfl) (by intro w ⟨g1, g2⟩; go_simp; try with_reducible rfl) hHeld ?_
        simp only [Act.put, List.setIfInBounds_toArray, List.set_cons_zero, List.set_cons_succ]
        refine oneZs 3 rfl (by kernel_rfl) (fun K hK => ?_)
        go_simp
        go_at_call 80
        refine (HCO.out Z.drew).mono ?_
        rintro e wa ⟨rfl, hwa⟩
        rw [hwa]
        clear hwa wa
        refine hK.out _ _ (.inr hHeld) ?_
        clear hK K
        try simp only [Act.put, List.setIfInBounds_toArray, List.set_cons_zero, List.set_cons_succ]
        refine oneZs 4 rfl (by kernel_rfl) (fun K hK => ?_)
        go_simp
        go_at_call 81
        refine (HCW2.out Z.drew (HAT2.out.on (Below.refl _ _).drew (Nat.le_refl _))).mono ?_
        rintro e v4 ⟨he, new2, hat4, -, hb4⟩
        rw [HWS.out] at he
        subst he
        have hb4' : But a.M Z v4 := (But.drew (b := a.M)).trans hb4
        have HB4 := Lib.hid hb4'
        have hM0 : w.heap.size ≤ a.M := by have := HNL.out.m; omega
        have HS4 := Lib.hid (HS.out.but hb4' hat4 hM0)
        have hZ4 := hb4'.size
        have HMK4 := Lib.hid (show Mks (v1.heap.size + 2) bs v4 from ⟨HMK.out.nodup, fun b hb => ⟨(HMK.out.at_ b hb).1, hb4'.same _ _ (by have := (HMK.out.at_ b hb).1; omega) (HMK.out.at_ b hb).2⟩⟩)
        have q1 := cell_of HS4.out.wb (o := 0) rfl
        have q2 := cell_of HS4.out.cb (o := 0) rfl
        unfold WyA.fn at q1
        have hH2 : (fun X : World => X.cell? ⟨v1.heap.size, 0, none⟩ = some (.func (.func 81) #[] #[.pointer (some ⟨a.kb, 0, none⟩), .pointer (some ⟨a.bb, 0, none⟩), .pointer (some ⟨a.cb, 0, none⟩)]) ∧ X.cell? ⟨v1.heap.size + 1, 0, none⟩ = some (.int .u16 (u : Int))) v4 := ⟨q1, q2⟩
        refine hK.out _ _ (.inr hH2) ?_
        clear hK K hHeld hat4 hb4 hb4' z1 z2
        try simp only [Act.put, List.setIfInBounds_toArray, List.set_cons_zero, List.set_cons_succ]
        refine takeZs 5 (some 9) (by kernel_rfl) rfl rfl rfl (by kernel_rfl) (by kernel_rfl) (by kernel_rfl) (by kernel_rfl) (fun _ _ _ h => h) (by rfl) (by intro w ⟨g1, g2⟩; go_simp; try with_reducible rfl) hH2 ?_
        simp only [Act.put, List.setIfInBounds_toArray, List.set_cons_zero, List.set_cons_succ]
        refine doneZs (by kernel_rfl) ?_ _
        rw [noOut_normal]
        clear hH2 q1 q2
        have q0 := cell_of HS4.out.kb (o := 0) rfl
        have hkw : IntKind.i64.wrap ((K' : Int) - (ws : Int)) = (K' : Int) - (ws : Int) := wrap_in (by omega) (by omega)
        rcases hlt3 : decide ((K' : Int) < (ws : Int)) with _ | _
        · have hlt3' := of_decide_eq_false hlt3
          have hPN : pickN (wF n f u) L kk = pickN (wF n f u) (L.drop (pre ++ [i]).length) (K' - ws) := by rw [HPP.out, if_neg (by omega)]
          have HPN := Lib.hid hPN
          have qf := frz HS4.out.kb 0
          have HFIN := Lib.hid (show ∀ v : Int, v = (K' : Int) - (ws : Int) → KeepsFrom wr.heap.size Z (v4.setCell ⟨w.heap.size, 0, none⟩ (.int .i64 v)) ∧ KpIt (wr.heap.size + 2) 0 (fun _ => False) Z (v4.setCell ⟨w.heap.size, 0, none⟩ (.int .i64 v)) ∧ NtI w n f a v1.heap.size (v1.heap.size + 1) (v1.heap.size + 2) (v1.heap.size + 2) bs u kk ln (.slice As ln.length cs) L wr (pre ++ [i]) (v4.setCell ⟨w.heap.size, 0, none⟩ (.int .i64 v)) from fun v hv => by
            obtain rfl : v = ((K' - ws : Nat) : Int) := by omega
            have hk := kf_store (B := 0) (o := 0) (.int .i64 ((K' - ws : Nat) : Int)) HS4.out.kb
            have hot : ∀ (k : Nat) (o : Obj), k ≠ a.M → Z.heap[k]? = some o → o.isCells = false → (v4.setCell ⟨w.heap.size, 0, none⟩ (.int .i64 ((K' - ws : Nat) : Int))).heap[k]? = some o := fun k o h1 h2 h3 => hk.same k o (Nat.zero_le _) (HB4.out.same k o h1 h2) h3
            have hsz2 : Z.heap.size ≤ (v4.setCell ⟨w.heap.size, 0, none⟩ (.int .i64 ((K' - ws : Nat) : Int))).heap.size := Nat.le_trans HB4.out.size hk.size
            exact ⟨⟨hsz2, fun k o h1 h2 h3 => hot k o (by omega) h2 h3⟩, ⟨hsz2, fun k cs t fr h1 h2 => by rcases h1 with h1 | h1; exact h1.elim; omega, fun k o h1 h2 h3 => hot k o (by omega) h2 h3⟩, ⟨⟨K' - ws, HS4.out.setK HNL.out _, HPN.out, by omega⟩, HMK4.out.kept fun k o h1 h2 => hk.same k o (Nat.zero_le _) h1 h2, Nat.le_trans hZs hsz2⟩⟩)
          clear hPN
          gi_wp2_with (fail)
          exact HFIN.out _ rfl
        · have hlt3' := of_decide_eq_true hlt3
          have HPN := Lib.hid (show pickN (wF n f u) L kk = some (i, K') by rw [HPP.out, if_pos (by omega)])
          have y3 := cell_of HS4.out.lb (o := 0) rfl
          have y4 := cell_of HS4.out.cb (o := 0) rfl
          have hln12 : ln.length ≤ 12 := by rw [hll.out]; omega
          gi_wp2_with (fail)
          clear q0
          refine region_round_zs (fun i => i == 7 || i == 8) (S := fun X => X.cell? ⟨w.heap.size + 1, 0, none⟩ = some (.slice As ln.length cs) ∧ X.cell? ⟨v1.heap.size + 1, 0, none⟩ = some (.int .u16 (u : Int))) hfm (by kernel_rfl) ⟨y3, y4⟩ (fun hHeld => ?_)
          refine takeZs 0 (some 38) (by kernel_rfl) rfl rfl rfl (by kernel_rfl) (by kernel_rfl) (by kernel_rfl) (by kernel_rfl) (fun _ _ _ h => h) (by rfl) (by intro w ⟨g1, g2⟩; go_simp; try with_reducible rfl) hHeld ?_
          simp only [Act.put, List.setIfInBounds_toArray, List.set_cons_zero, List.set_cons_succ]
          refine takeZs 1 (some 39) (by kernel_rfl) rfl rfl rfl (by kernel_rfl) (by kernel_rfl) (by kernel_rfl) (by kernel_rfl) (fun _ _ _ h => h) (by rfl) (by intro w ⟨g1, g2⟩; go_simp; try with_reducible rfl) hHeld ?_
          simp only [Act.put, List.setIfInBounds_toArray, List.set_cons_zero, List.set_cons_succ]
          refine takeZs 4 (some 42) (by kernel_rfl) rfl rfl rfl (by kernel_rfl) (by kernel_rfl) (by kernel_rfl) (by kernel_rfl) (fun _ _ _ h => h) (by rfl) (by intro w ⟨g1, g2⟩; go_simp; try with_reducible rfl) hHeld ?_
          simp only [Act.put, List.setIfInBounds_toArray, List.set_cons_zero, List.set_cons_succ]
          refine takeZs 5 (some 43) (by kernel_rfl) rfl rfl rfl (by kernel_rfl) (by kernel_rfl) (by kernel_rfl) (by kernel_rfl) (fun _ _ _ h => h) (by rfl) (by intro w ⟨g1, g2⟩; go_simp; try with_reducible rfl) hHeld ?_
          simp only [Act.put, List.setIfInBounds_toArray, List.set_cons_zero, List.set_cons_succ]
          obtain ⟨X1, hX1⟩ : ∃ X, X = v4.alloc (.cells #[.int .i64 (i : Int)] 3) := ⟨_, rfl⟩
          have bX1 : Below v4.heap.size v4 X1 := by rw [hX1]; exact (Below.refl _ _).alloc (Nat.le_refl _) _
          have hz1 : X1.heap.size = v4.heap.size + 1 := by rw [hX1, World.size_alloc]
          have HN1 := Lib.hid (show X1.heap[v4.heap.size]? = some (.cells #[.int .i64 (i : Int)] 3 (0, 0)) by rw [hX1]; exact heap_alloc_new _ _)
          have HS5 := Lib.hid (HS4.out.on bX1 (Nat.le_refl _))
          refine oneZs 2 rfl (by kernel_rfl) (fun K hK => ?_)
          go_simp
          rw [← hX1]
          refine hK.out _ _ (.inr ⟨cell_of (w := X1.drew) HS5.out.lb rfl, cell_of (w := X1.drew) HS5.out.cb rfl⟩) ?_
          clear hK K hHeld y3 y4
          try simp only [Act.put, List.setIfInBounds_toArray, List.set_cons_zero, List.set_cons_succ]
          refine oneZs 3 rfl (by kernel_rfl) (fun K hK => ?_)
          obtain ⟨i1, hi1, hy1, hy2, hy3⟩ := info_parts int_info
          refine step_append_lies _ rfl (.tmp 38) (.tmp 40) 33 rfl w.heap.size 3 i1 (.int .i64 0) 1 8 Try.underlying33 hi1 hy1 hy2 hy3 rfl (by decide) (.slice As ln.length cs) ln.length (elV ln) (by simp [Act.eval, Act.put]) (show World.ownsRow X1.drew _ _ _ _ _ _ from HS5.out.row) ⟨v4.heap.size, 0, none⟩ 1 1 [.int .i64 (i : Int)] (by simp [Act.eval, Act.put]) rfl (show ∀ j u, _ → World.cell? X1.drew _ = _ from World.news_of_block (w := X1.drew) HN1.out) (by simp [Value.oneCell']) (by decide) (by unfold maxLen; omega) (by omega) (show w.heap.size ≤ X1.drew.heap.size from HS5.out.bel.size) (v4.heap.size + 1) (show X1.drew.heap.size = _ from hz1) ?_
          intro g4 cap4 Y4 hown hgrow0 hat hlt5
          have hgrow : X1.grownBy Y4 (Value.slice As ln.length cs).ownBlock := ⟨hgrow0.os, hgrow0.tape, hgrow0.output, hgrow0.size, hgrow0.block⟩
          clear hgrow0
          have hk4 : ∀ (j : Nat) (o : Obj), (Value.slice As ln.length cs).ownBlock ≠ some j → v4.heap[j]? = some o → Y4.heap[j]? = some o := fun j o hj ho => by
            have hl := at_lt ho
            rw [hgrow.block j (by omega) (fun e => hj e.symm), bX1.block _ hl]; exact ho
          have HG4 := Lib.hid (show ∀ g, (Value.slice (some ⟨g4, 0, none⟩) (ln.length + 1) cap4).ownBlock = some g → v1.heap.size + 2 ≤ g from fun g hg => by
            have hg2 : some g4 = some g := hg
            injection hg2 with hg2
            rcases hat with h | h
            · have := HRGE.out g4 h; omega
            · omega)
          have hbY : Below w.heap.size w Y4 := HS5.out.bel.grown hgrow (Nat.le_trans HS5.out.bel.size (Nat.le_refl _)) (fun q e => (ownsRow_lt HS5.out.row e).1)
          have HRW := Lib.hid (show Y4.ownsRow w.heap.size 3 1 (.slice (some ⟨g4, 0, none⟩) (ln.length + 1) cap4) (ln ++ [i]).length (elV (ln ++ [i])) by rw [List.length_append, elV_snoc]; exact hown)
          have HF1 := Lib.hid (HS4.out.setL HNL.out hk4 HRW.out HG4.out hbY)
          have HF2 := Lib.hid (HF1.out.setC HNL.out u2)
          have HC4 := Lib.hid (show ∀ (k : Nat) (o : Obj), v4.heap[k]? = some o → o.isCells = false → Y4.heap[k]? = some o from fun k o hk hc => hk4 k o (fun e => by
            obtain ⟨cs2, h2⟩ := own_cells HS4.out.row e
            rw [hk] at h2; cases h2; cases hc) hk)
          have hy5 : Y4.heap[w.heap.size + 1]? = some (.cells #[.slice As ln.length cs] 33 (0, 0)) := hk4 _ _ (fun e => by have h1 := HRGE.out _ e; have h2 := HNL.out.m; have h3 := HNL.out.o; omega) HS4.out.lb
          have hy6 : Y4.heap[v1.heap.size + 1]? = some (.cells #[.int .u16 (u : Int)] 72 (0, 0)) := hk4 _ _ (fun e => by have h1 := HRGE.out _ e; omega) HS4.out.cb
          have HLB := Lib.hid hy5
          have HCB2 := Lib.hid hy6
          have hsY := hgrow.size
          clear hown hgrow hat hk4 hbY HN1 hX1 bX1
          refine hK.out _ _ (.inr ⟨cell_of HLB.out rfl, cell_of HCB2.out rfl⟩) ?_
          clear hK K hy5 hy6
          try simp only [Act.put, List.setIfInBounds_toArray, List.set_cons_zero, List.set_cons_succ]
          refine oneZs 6 rfl (by kernel_rfl) (fun K hK => ?_)
          go_simp
          go_at_call 80
          refine (HCO.out Y4).mono ?_
          rintro e wa ⟨rfl, hwa⟩
          rw [hwa]
          clear hwa wa
          refine hK.out _ _ (.inr ⟨cell_of HLB.out rfl, cell_of HCB2.out rfl⟩) ?_
          clear hK K
          try simp only [Act.put, List.setIfInBounds_toArray, List.set_cons_zero, List.set_cons_succ]
          refine oneZs 7 rfl (by kernel_rfl) (fun K hK => ?_)
          have y5 := cell_of HLB.out (o := 0) rfl
          have y6 := frz HLB.out 0
          go_simp
          refine hK.out _ _ (.inl rfl) ?_
          clear hK K y5 y6
          try simp only [Act.put, List.setIfInBounds_toArray, List.set_cons_zero, List.set_cons_succ]
          refine oneZs 8 rfl (by kernel_rfl) (fun K hK => ?_)
          have HCB3 := Lib.hid (HF1.out.cb)
          have y5 := cell_of HCB3.out (o := 0) rfl
          have y6 := frz HCB3.out 0
          go_simp
          refine hK.out _ _ (.inl rfl) ?_
          clear hK K y5 y6
          refine doneZs (by kernel_rfl) ?_ _
          rw [noOut_normal]
          have hkA := kf_store (B := 0) (o := 0) (.slice (some ⟨g4, 0, none⟩) (ln.length + 1) cap4) HLB.out
          have hkB := kf_store (B := 0) (o := 0) (.int .u16 (u2 : Int)) HCB3.out
          have HOT := Lib.hid (show ∀ (k : Nat) (o : Obj), v4.heap[k]? = some o → o.isCells = false → ((Y4.setCell ⟨w.heap.size + 1, 0, none⟩ (.slice (some ⟨g4, 0, none⟩) (ln.length + 1) cap4)).setCell ⟨v1.heap.size + 1, 0, none⟩ (.int .u16 (u2 : Int))).heap[k]? = some o from fun k o h1 h2 => hkB.same k o (Nat.zero_le _) (hkA.same k o (Nat.zero_le _) (HC4.out k o h1 h2) h2) h2)
          have HSZ := Lib.hid (show Z.heap.size ≤ ((Y4.setCell ⟨w.heap.size + 1, 0, none⟩ (.slice (some ⟨g4, 0, none⟩) (ln.length + 1) cap4)).setCell ⟨v1.heap.size + 1, 0, none⟩ (.int .u16 (u2 : Int))).heap.size from by have h1 := hkA.size; have h2 := hkB.size; omega)
          clear hkA hkB
          gi_wp2_with (fail)
          exact ⟨⟨HSZ.out, fun k o h1 h2 h3 => HOT.out k o (HB4.out.same k o (by omega) h2) h3⟩, ⟨rfl, ⟨i, K', _, HPN.out, by rw [HU2.out]; exact HF2.out⟩, HMK4.out.kept HOT.out, Nat.le_trans hZs HSZ.out⟩⟩
      case idone =>
        rintro D X rfl hI hdef
        obtain ⟨K', h1, h2, h3⟩ := hI.st
        rw [HPK2.out, List.drop_length] at h2
        cases h2
      case istop =>
        rintro D c pre X rfl hpre hX hdef
        obtain ⟨i, K', v', h0, h1⟩ := hX.st
        have hcc := hX.c
        subst hcc
        rw [HPK2.out] at h0
        injection h0 with h0
        injection h0 with h01 h02
        subst h01 h02
        obtain ⟨hin, hnb⟩ := HEI.out i0 him
        have hu2 := put_lt hu hin
        have hfp := free_put hin hnb
        have HS9 := Lib.hid h1
        have HM9 := Lib.hid (show Mks (v1.heap.size + 2) (wr.heap.size :: bs) X from Mks.push hM.out hX.mks (Nat.le_refl _) (by omega) hdef)
        have hX9 := hX.sz
        have HK9 := Lib.hid hk0
        obtain ⟨u9, hu9⟩ : ∃ t, u ||| 1 <<< i0 = t := ⟨_, rfl⟩
        rw [hu9] at hu2 hfp HS9 HK9 HQ2
        clear h1 hX hdef hk0 HPK HPK2 hu9
        rw [wpIn_wide]
        go_wp2_with (fail)
        refine ⟨?q1, ?q2⟩
        case q1 =>
          (repeat apply Exists.intro)
          refine ⟨?rel1, rfl⟩
          exact ⟨j + 1, u9, k0, ln ++ [i0], v', by omega, by go_num, hu2, by omega, HK9.out, HQ2, HS9, by omega, Lib.hid (by rw [List.length_append, hll.out]; rfl), _, rfl, HM9⟩
        case q2 => simp [intOf]; omega
    · obtain rfl : j = n := by omega
      have hend : nthL j f j 0 kx = ln := by rw [hQ.out, Nat.sub_self]; simp [nthL]
      have HEND := Lib.hid hend
      have y0 := cell_of hS.out.lb (o := 0) rfl
      have y1 := frz hS.out.lb 0
      clear hend
      go_wp2_with (fail)
      have hkf := kf_store (B := 0) (o := 0) (.slice As ln.length cs) hS.out.lb
      have hMZ : Mks (v1.heap.size + 2) bs (wr.setCell ⟨w.heap.size + 1, 0, none⟩ (.slice As ln.length cs)) := hM.out.kept fun k o hk hc => hkf.same k o (Nat.zero_le _) hk hc
      refine leaves_marks (by simp) bs _ hMZ fun W' hW' => ?_
      have c0 : W'.cell? ⟨w.heap.size + 1, 0, none⟩ = some (.slice As ln.length cs) := cell_of (hW'.cells hMZ (set_field hS.out.lb (.slice As ln.length cs))) rfl
      have hrow : W'.ownsRow w.heap.size 3 1 (.slice As ln.length cs) ln.length (elV ln) := hW'.own hMZ (own_row_kept hS.out.row fun g cur hg hc => set_else hc (by have h1 := hS.out.rge g hg; have h2 := HNL.out.m; have h3 := HNL.out.o; omega))
      refine ⟨.tuple #[.slice As ln.length cs, .bool true], by simp [results, Try.results64, go_sem, c0], ⟨.inl ⟨by omega, by rw [HW0.out]; omega, _, rfl, ?_⟩, ?_⟩⟩
      · rw [show ((kx : Nat) : Int).toNat = kx by omega, HEND.out]; exact hrow
      · exact hW'.below (fun b hb => by have := (hMZ.at_ b hb).1; omega) (hS.out.bel.setCell (p := ⟨w.heap.size + 1, 0, none⟩) (by show w.heap.size ≤ w.heap.size + 1; omega) _) (Nat.le_refl _)
set_option maxHeartbeats 8000000 in
theorem c_Nth (A : Option Addr) (c : Nat) (xs : List LsV) (x : Int) (w : World) (h : LsAt w A c xs) : Calls Try.prog 30 #[.slice A xs.length c, .int .i64 x] w (NmTo w (ntN xs x) (nthL xs.length (ordF xs) xs.length 0 x.toNat)) := by
  have H := Lib.hid h
  obtain ⟨R, hR⟩ : ∃ R, R = NmTo w (ntN xs x) (nthL xs.length (ordF xs) xs.length 0 x.toNat) := ⟨_, rfl⟩
  rw [← hR]
  have HE := Lib.hid (show ∀ (X : World) (n : Int), ntN xs x = n → n ≠ 0 → Below w.heap.size w X → R (.returned (.tuple #[.slice none 0 0, .int .i64 n])) X from fun X n h h2 hb => by rw [hR, h]; exact ⟨.inl ⟨h2, rfl⟩, hb⟩)
  have HY := Lib.hid (show ∀ (X : World) (v : Value), ntN xs x = 0 → X.ownsRow w.heap.size 3 1 v (nthL xs.length (ordF xs) xs.length 0 x.toNat).length (elV (nthL xs.length (ordF xs) xs.length 0 x.toNat)) → Below w.heap.size w X → R (.returned (.tuple #[v, .int .i64 0])) X from fun X v h h2 hb => by rw [hR, h]; exact ⟨.inr ⟨rfl, v, rfl, h2⟩, hb⟩)
  clear hR h
  go_enter Try.func30, Try.ntmps30
  go_wp2_with (fail)
  go_at_call 48
  refine (c_read A c xs w H.out).mono ?_
  rintro e w1 ⟨⟨h0, rfl⟩ | ⟨h0, hl, hok, hno, g, rfl, hg, hblk⟩, b1⟩
  · have H0 := Lib.hid h0
    have K1 := Lib.hid b1
    have hne : (rdN xs != 0) = true := by simpa using h0
    have hd0 : (rdN xs == 0) = false := by simpa using h0
    clear h0 b1
    go_wp2_with (fail)
    exact HE.out _ _ (by unfold ntN; rw [if_pos H0.out]) H0.out K1.out
  · have H0 := Lib.hid h0
    have K1 := Lib.hid b1
    have HC := Lib.hid (c_nth g xs.length (ordF xs) hl (ordF_lt hl hok) x w1 hblk)
    clear h0 b1 hblk
    go_wp2_with (fail)
    go_at_call 64
    refine HC.out.mono ?_
    rintro e w2 ⟨⟨hx1, hx2, v, rfl, ho⟩ | ⟨hk, rfl⟩, b2⟩
    · have K2 := Lib.hid (below_join K1.out b2 K1.out.size)
      have HO := Lib.hid (own_mono ho K1.out.size)
      have HN := Lib.hid (nt_in H0.out ⟨hx1, hx2⟩)
      obtain ⟨As, cs, rfl⟩ := own_shape ho
      clear b2 hx1 hx2 ho
      go_wp2_with (fail)
      exact HY.out _ _ HN.out HO.out K2.out
    · have K2 := Lib.hid (below_join K1.out b2 K1.out.size)
      have HK := Lib.hid hk
      clear b2 hk
      go_wp2_with (fail)
      exact HE.out _ _ (nt_out H0.out HK.out) (by decide) K2.out
end Go.Proofs.Ytjheaeeeeggncaa

namespace Go.Proofs.Ytjheaeeeeggncaa
open Go.RowKit Go.Shelf
set_option maxRecDepth 100000
set_option linter.unusedVariables false
set_option linter.unusedSimpArgs false

def okN (n : Nat) (nx : Nat → Int) : Prop := ∀ g, g < n → nx g = -1 ∨ ∃ j, j < n ∧ nx g = ((j : Nat) : Int)
theorem okN.put {n f i : Nat} {nx : Nat → Int} (h : okN n nx) (hi : i < n) : okN n (putN nx f i) := fun g hg => by
  unfold putN
  by_cases e : g = f
  · rw [if_pos e]; exact .inr ⟨i, hi, rfl⟩
  · rw [if_neg e]; exact h g hg
/-- What the search keeps. -/
structure JK (n tr : Nat) (nx : Nat → Int) (r : Bool × JSt) : Prop where
  lt : r.2.1 < 2 ^ n
  ok : okN n r.2.2
  sub : Sup tr r.2.1
  keep : ∀ g, tr.testBit g = true → r.2.2 g = nx g
theorem jLoop_keeps {n i : Nat} {rec : Nat → Nat → (Nat → Int) → Bool × JSt} (hrec : ∀ j t x, j < n → t < 2 ^ n → okN n x → JK n t x (rec j t x)) (hi : i < n) :
    ∀ (L : List Nat) (t : Nat) (x : Nat → Int), (∀ f ∈ L, f < n) → t < 2 ^ n → okN n x → JK n t x (jLoop rec i L t x)
  | [], t, x, _, ht, hx => ⟨ht, hx, fun _ h => h, fun _ _ => rfl⟩
  | f :: L, t, x, hL, ht, hx => by
    have hfn := hL f (by simp)
    have hL2 : ∀ f ∈ L, f < n := fun g hg => hL g (List.mem_cons_of_mem _ hg)
    unfold jLoop
    by_cases hf : t.testBit f = true
    · rw [if_pos hf]; exact jLoop_keeps hrec hi L t x hL2 ht hx
    · rw [if_neg hf]
      have hne : ∀ g, t.testBit g = true → g ≠ f := fun g hg e => hf (e ▸ hg)
      by_cases hn : x f = -1
      · rw [if_pos hn]
        exact ⟨put_lt ht hfn, hx.put hi, sub_put t f, fun g hg => by show putN x f i g = _; unfold putN; rw [if_neg (hne g hg)]⟩
      · rw [if_neg hn]
        obtain ⟨j, hj, hxj⟩ := (hx f hfn).resolve_left hn
        have hjt : (x f).toNat = j := by rw [hxj]; rfl
        rw [hjt]
        have q := hrec j (t ||| 1 <<< f) x hj (put_lt ht hfn) hx
        obtain ⟨r, hr⟩ : ∃ r, rec j (t ||| 1 <<< f) x = r := ⟨_, rfl⟩
        rw [hr] at q ⊢
        simp only
        by_cases hb : r.1 = true
        · rw [if_pos hb]
          exact ⟨q.lt, q.ok.put hi, fun g hg => q.sub g (sub_put t f g hg), fun g hg => by show putN r.2.2 f i g = _; unfold putN; rw [if_neg (hne g hg)]; exact q.keep g (sub_put t f g hg)⟩
        · rw [if_neg hb]
          have q2 := jLoop_keeps hrec hi L r.2.1 r.2.2 hL2 q.lt q.ok
          exact ⟨q2.lt, q2.ok, fun g hg => q2.sub g (q.sub g (sub_put t f g hg)), fun g hg => (q2.keep g (q.sub g (sub_put t f g hg))).trans (q.keep g (sub_put t f g hg))⟩
theorem jn_keeps {n : Nat} {b : Nat → Nat} : ∀ (fuel i t : Nat) (x : Nat → Int), i < n → t < 2 ^ n → okN n x → JK n t x (jn n b fuel i t x)
  | 0, _, t, x, _, ht, hx => ⟨ht, hx, fun _ h => h, fun _ _ => rfl⟩
  | fuel + 1, i, t, x, hi, ht, hx => jLoop_keeps (fun j t x => jn_keeps fuel j t x) hi _ t x (fun f hf => (lst_mem.1 hf).1) ht hx
/-- All but some blocks are as they were. -/
structure ButS (p : Nat → Prop) (X Y : World) : Prop where
  os : Y.os = X.os
  tape : Y.tape = X.tape
  output : Y.output = X.output
  size : X.heap.size ≤ Y.heap.size
  same : ∀ (k : Nat) (o : Obj), ¬ p k → X.heap[k]? = some o → Y.heap[k]? = some o
section
variable {p : Nat → Prop} {S m : Nat} {X Y Z : World}
theorem ButS.refl (X : World) : ButS p X X := ⟨rfl, rfl, rfl, Nat.le_refl _, fun _ _ _ h => h⟩
theorem ButS.trans (h : ButS p X Y) (k : ButS p Y Z) : ButS p X Z := ⟨k.os.trans h.os, k.tape.trans h.tape, k.output.trans h.output, Nat.le_trans h.size k.size, fun i o ho hi => k.same i o ho (h.same i o ho hi)⟩
theorem ButS.of_below {B : Nat} (h : Below B X Y) (hB : X.heap.size ≤ B) : ButS p X Y := ⟨h.os, h.tape, h.output, h.size, fun k _ _ hk => (h.block k (Nat.lt_of_lt_of_le (at_lt hk) hB)).trans hk⟩
theorem ButS.drew : ButS p X X.drew := ⟨rfl, rfl, rfl, Nat.le_refl _, fun _ _ _ h => h⟩
/-- A store into one of them, or into what is new. -/
theorem ButS.set {b o : Nat} {v : Value} (h : ButS p X Y) (hb : p b ∨ X.heap.size ≤ b) : ButS p X (Y.setCell ⟨b, o, none⟩ v) :=
  ⟨h.os, h.tape, h.output, by simpa [World.setCell] using h.size, fun k u hne hk => by
    rw [Below.heap_setCell _ ⟨b, o, none⟩ v k (fun e => by subst e; rcases hb with hb | hb; exact hne hb; have := at_lt hk; exact absurd this (Nat.not_lt.2 hb))]
    exact h.same k u hne hk⟩
theorem ButS.own (h : ButS p X Y) (hE : OwnIt S m Y Z) (hS : X.heap.size ≤ S) : ButS p X Z :=
  ⟨hE.os.trans h.os, hE.tape.trans h.tape, hE.output.trans h.output, Nat.le_trans h.size hE.size, fun k o hne hk => hE.same k o (h.same k o hne hk) (.inl (by have := at_lt hk; omega))⟩
theorem ButS.put {l : Nat} (o' : Obj) (h : ButS p X Y) (hl : X.heap.size ≤ l) : ButS p X (Y.putObj l o') :=
  ⟨h.os, h.tape, h.output, by simpa using h.size, fun k o hne hk => put_else (h.same k o hne hk) (by have := at_lt hk; omega)⟩
theorem ButS.off {bs : List Nat} (h : ButS p X Y) (k : Off bs Y Z) (hb : ∀ b ∈ bs, X.heap.size ≤ b) : ButS p X Z :=
  ⟨k.os.trans h.os, k.tape.trans h.tape, k.output.trans h.output, Nat.le_trans h.size k.size, fun i o ho hi => k.same i o (fun hm => by have := hb i hm; have := at_lt hi; omega) (h.same i o ho hi)⟩
end
/-- The numbers of a row. -/
def nxC (n : Nat) (nx : Nat → Int) : List Value := (List.range n).map fun g => .int .i64 (nx g)
theorem nxC_len (n : Nat) (nx : Nat → Int) : (nxC n nx).length = n := by simp [nxC]
theorem nxC_at {n g : Nat} (nx : Nat → Int) (h : g < n) : (nxC n nx)[g]? = some (.int .i64 (nx g)) := by simp [nxC, h]
theorem nxC_set {n f i : Nat} {nx : Nat → Int} (hf : f < n) : (nxC n nx).set f (.int .i64 (i : Int)) = nxC n (putN nx f i) := by
  apply List.ext_getElem?
  intro j
  rw [List.getElem?_set]
  by_cases e : f = j
  · subst e; rw [if_pos rfl, nxC_len, if_pos hf, nxC_at _ hf]; unfold putN; rw [if_pos rfl]
  · rw [if_neg e]
    by_cases hj : j < n
    · rw [nxC_at _ hj, nxC_at _ hj]; unfold putN; rw [if_neg (fun x => e x.symm)]
    · rw [List.getElem?_eq_none (by rw [nxC_len]; omega), List.getElem?_eq_none (by rw [nxC_len]; omega)]
/-- Where joined keeps its variables: the order (block g, box bb), next (row r, box nb), tried, join. -/
structure JnA where
  g : Nat
  bb : Nat
  r : Nat
  nb : Nat
  tb : Nat
  jb : Nat
def JnA.fn (a : JnA) : Value := .func (.func 90) #[] #[.pointer (some ⟨a.bb, 0, none⟩), .pointer (some ⟨a.tb, 0, none⟩), .pointer (some ⟨a.nb, 0, none⟩), .pointer (some ⟨a.jb, 0, none⟩)]
structure JnL (a : JnA) : Prop where
  l1 : a.g < a.bb
  l2 : a.bb < a.r
  l3 : a.r < a.nb
  l4 : a.nb < a.tb
  l5 : a.tb < a.jb
abbrev JS (a : JnA) : Nat → Prop := fun k => k = a.tb ∨ k = a.r
structure JnAt (n : Nat) (f : Nat → Nat) (a : JnA) (tr : Nat) (nx : Nat → Int) (W : World) : Prop where
  blk : Blk W a.g n f
  ord : W.heap[a.bb]? = some (.cells #[.slice (some ⟨a.g, 0, none⟩) n n] 64 (0, 0))
  row : W.heap[a.r]? = some (.cells (nxC n nx).toArray 3 (0, 0))
  next : W.heap[a.nb]? = some (.cells #[.slice (some ⟨a.r, 0, none⟩) n n] 33 (0, 0))
  tried : W.heap[a.tb]? = some (.cells #[.int .u16 (tr : Int)] 72 (0, 0))
  join : W.heap[a.jb]? = some (.cells #[a.fn] 94 (0, 0))
section
variable {n tr : Nat} {f : Nat → Nat} {a : JnA} {nx : Nat → Int} {X Y : World}
theorem JnAt.keep (h : JnAt n f a tr nx X) (hs : ∀ (k : Nat) (cs : Array Value) (T : TypeId), X.heap[k]? = some (.cells cs T (0, 0)) → Y.heap[k]? = some (.cells cs T (0, 0))) : JnAt n f a tr nx Y :=
  ⟨hs _ _ _ h.blk, hs _ _ _ h.ord, hs _ _ _ h.row, hs _ _ _ h.next, hs _ _ _ h.tried, hs _ _ _ h.join⟩
theorem JnAt.on {B : Nat} (h : JnAt n f a tr nx X) (hb : Below B X Y) (hB : X.heap.size ≤ B) : JnAt n f a tr nx Y := h.keep fun k cs T ho => (hb.block _ (Nat.lt_of_lt_of_le (at_lt ho) hB)).trans ho
theorem JnAt.own {S : Nat} (h : JnAt n f a tr nx X) (hE : OwnIt S 0 X Y) : JnAt n f a tr nx Y := h.keep fun k cs T ho => own_cells' hE _ _ _ _ ho
theorem JnAt.put {l : Nat} {o o' : Obj} (h : JnAt n f a tr nx X) (ho : X.heap[l]? = some o) (hc : o.isCells = false) : JnAt n f a tr nx (X.putObj l o') := h.keep fun k cs T hk => put_cells hk ho hc
theorem JnAt.setT (h : JnAt n f a tr nx X) (l : JnL a) (t : Nat) : JnAt n f a t nx (X.setCell ⟨a.tb, 0, none⟩ (.int .u16 (t : Int))) := by
  have l1 := l.l1; have l2 := l.l2; have l3 := l.l3; have l4 := l.l4; have l5 := l.l5
  exact ⟨set_else h.blk (by omega), set_else h.ord (by omega), set_else h.row (by omega), set_else h.next (by omega), set_field h.tried _, set_else h.join (by omega)⟩
theorem JnAt.setN {g i : Nat} (h : JnAt n f a tr nx X) (l : JnL a) (hg : g < n) : JnAt n f a tr (putN nx g i) (X.setCell ⟨a.r, g, none⟩ (.int .i64 (i : Int))) := by
  have l1 := l.l1; have l2 := l.l2; have l3 := l.l3; have l4 := l.l4; have l5 := l.l5
  refine ⟨set_else h.blk (by omega), set_else h.ord (by omega), ?_, set_else h.next (by omega), set_else h.tried (by omega), set_else h.join (by omega)⟩
  have := set_field (o := g) h.row (.int .i64 (i : Int))
  rwa [List.setIfInBounds_toArray, nxC_set hg] at this
theorem JnAt.setO {b o : Nat} {v : Value} (h : JnAt n f a tr nx X) (hb : a.g ≠ b ∧ a.bb ≠ b ∧ a.r ≠ b ∧ a.nb ≠ b ∧ a.tb ≠ b ∧ a.jb ≠ b) : JnAt n f a tr nx (X.setCell ⟨b, o, none⟩ v) :=
  ⟨set_else h.blk hb.1, set_else h.ord hb.2.1, set_else h.row hb.2.2.1, set_else h.next hb.2.2.2.1, set_else h.tried hb.2.2.2.2.1, set_else h.join hb.2.2.2.2.2⟩
theorem JnAt.at_ {g : Nat} (h : JnAt n f a tr nx X) (hg : g < n) : X.cell? ⟨a.r, g, none⟩ = some (.int .i64 (nx g)) := cell_of h.row (by rw [List.getElem?_toArray]; exact nxC_at nx hg)
/-- What is no cells stays. -/
theorem JnAt.rest (h : JnAt n f a tr nx X) (hb : ButS (JS a) X Y) : ∀ (k : Nat) (o : Obj), X.heap[k]? = some o → o.isCells = false → Y.heap[k]? = some o := fun k o hk hc => hb.same k o (fun e => by
  rcases e with rfl | rfl
  · rw [h.tried] at hk; cases hk; cases hc
  · rw [h.row] at hk; cases hk; cases hc) hk
end
def JnPost (n : Nat) (f : Nat → Nat) (a : JnA) (W : World) (r : Bool × JSt) (e : Ending) (W' : World) : Prop :=
  e = .returned (.bool r.1) ∧ JnAt n f a r.2.1 r.2.2 W' ∧ ButS (JS a) W W'
/-- Between two rounds. -/
structure JnI (n : Nat) (f : Nat → Nat) (a : JnA) (fuel i tr : Nat) (nx : Nat → Int) (L : List Nat) (W : World) (pre : List Nat) (X : World) : Prop where
  ib : X.heap[W.heap.size]? = some (.cells #[.int .i64 (i : Int)] 3 (0, 0))
  rb : X.heap[W.heap.size + 1]? = some (.cells #[.bool false] 4 (0, 0))
  st : ∃ t x, JnAt n f a t x X ∧ t < 2 ^ n ∧ okN n x ∧ free n t ≤ free n tr ∧ jLoop (jn n f fuel) i L tr nx = jLoop (jn n f fuel) i (L.drop pre.length) t x
  bt : ButS (JS a) W X
/-- When it has returned. -/
structure JnX (n : Nat) (f : Nat → Nat) (a : JnA) (fuel i tr : Nat) (nx : Nat → Int) (L : List Nat) (W : World) (c : Code) (X : World) : Prop where
  c : c = .ret
  rb : X.heap[W.heap.size + 1]? = some (.cells #[.bool true] 4 (0, 0))
  st : ∃ t x, JnAt n f a t x X ∧ jLoop (jn n f fuel) i L tr nx = (true, t, x)
  bt : ButS (JS a) W X
section
variable {n fuel i tr : Nat} {f : Nat → Nat} {a : JnA} {nx : Nat → Int} {L pre : List Nat} {W X Y : World} {c : Code}
theorem JnI.own {S : Nat} (h : JnI n f a fuel i tr nx L W pre X) (hE : OwnIt S 0 X Y) (hS : W.heap.size ≤ S) : JnI n f a fuel i tr nx L W pre Y := by
  obtain ⟨t, x, h1, h2⟩ := h.st
  exact ⟨own_cells' hE _ _ _ _ h.ib, own_cells' hE _ _ _ _ h.rb, ⟨t, x, h1.own hE, h2⟩, h.bt.own hE hS⟩
theorem JnI.put {l : Nat} {o o' : Obj} (h : JnI n f a fuel i tr nx L W pre X) (hl : W.heap.size ≤ l) (ho : X.heap[l]? = some o) (hc : o.isCells = false) : JnI n f a fuel i tr nx L W pre (X.putObj l o') := by
  obtain ⟨t, x, h1, h2⟩ := h.st
  exact ⟨put_cells h.ib ho hc, put_cells h.rb ho hc, ⟨t, x, h1.put ho hc, h2⟩, h.bt.put _ hl⟩
theorem JnX.own {S : Nat} (h : JnX n f a fuel i tr nx L W c X) (hE : OwnIt S 0 X Y) (hS : W.heap.size ≤ S) : JnX n f a fuel i tr nx L W c Y := by
  obtain ⟨t, x, h1, h2⟩ := h.st
  exact ⟨h.c, own_cells' hE _ _ _ _ h.rb, ⟨t, x, h1.own hE, h2⟩, h.bt.own hE hS⟩
theorem JnX.put {l : Nat} {o o' : Obj} (h : JnX n f a fuel i tr nx L W c X) (hl : W.heap.size ≤ l) (ho : X.heap[l]? = some o) (hc : o.isCells = false) : JnX n f a fuel i tr nx L W c (X.putObj l o') := by
  obtain ⟨t, x, h1, h2⟩ := h.st
  exact ⟨h.c, put_cells h.rb ho hc, ⟨t, x, h1.put ho hc, h2⟩, h.bt.put _ hl⟩
end
end Go.Proofs.Ytjheaeeeeggncaa
