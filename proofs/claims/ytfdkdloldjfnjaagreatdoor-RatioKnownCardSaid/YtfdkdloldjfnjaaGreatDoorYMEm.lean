/-
  DERIVED. Several texts in one.
-/
import Derived.Test.YtfdkdloldjfnjaaGreatDoorYMAm
import Derived.OwnWalk
import Derived.Laws.CopyOwn
import Derived.Lib.SliceRun
set_option linter.unusedVariables false
set_option linter.unusedSimpArgs false

/- DERIVED. takeTimes. -/
namespace Go.Proofs.YtfdkdloldjfnjaaGreatDoor
open Go.RowKit
set_option maxRecDepth 100000

/-- What takeTimes leaves: the window's new limbs, and what it owes. -/
def TakePost (rb o n t : Nat) (L bs : List Nat) (w : World) (e : Ending) (w' : World) : Prop :=
  ∃ (u : List Nat) (d : Nat), e = .returned (.int .u32 (d : Int)) ∧ u.length = n ∧ Lb u ∧ d < BB ∧ val u + t * val (bs.take n) = val ((L.drop o).take n) + BB ^ n * d ∧ Row w' rb (L.take o ++ u ++ L.drop (o + n)) ∧ Keep w.heap.size rb w w'
def TakeRel (rb o n t : Nat) (L bs : List Nat) (w : World) (c i : Value) (wr : World) : Prop :=
  ∃ (k : Nat) (u : List Nat) (d : Nat), k ≤ n ∧ i = .int .i64 k ∧ c = .int .u64 (d : Int) ∧ u.length = k ∧ Lb u ∧ d < BB ∧ val u + t * val (bs.take k) = val ((L.drop o).take k) + BB ^ k * d ∧ Row wr rb (L.take o ++ u ++ L.drop (o + k)) ∧ Keep w.heap.size rb w wr
theorem val_one (m : Nat) : val [m] = m := by simp [val]
theorem take_word {d t y : Nat} (f1 : d + t * y < 18446744073709551616) (f3 : t * y < 18446744073709551616) (hy : y < BB) :
    IntKind.u64.wrap ((d : Int) + IntKind.u64.wrap ((t : Int) * IntKind.u64.wrap (y : Int))) = ((d + t * y : Nat) : Int) := by
  unfold BB at hy
  rw [u64w (n := y) (by omega), ← Int.natCast_mul, u64w f3, ← Int.natCast_add, u64w f1]
theorem low_word {x m : Nat} (hx : x < BB) (hm : m < BB) : ((x : Int) - (m : Int)) % 4294967296 = (((x + BB - m) % BB : Nat) : Int) := by
  unfold BB at *
  omega
theorem take_step {rb o n t : Nat} {L bs u : List Nat} {w wr : World} {k d x y : Nat} (hlt : k < n) (ho : o + n ≤ L.length) (hu : u.length = k) (hlu : Lb u) (hX : L.getD (o + k) 0 = x) (hY : bs.getD k 0 = y) (hx : x < BB) (f2 : ((d + t * y) / BB + if x < (d + t * y) % BB then 1 else 0) < BB)
    (hv : val u + t * val (bs.take k) = val ((L.drop o).take k) + BB ^ k * d) (hrow : Row wr rb (L.take o ++ u ++ L.drop (o + k))) (hkp : Keep w.heap.size rb w wr) :
    TakeRel rb o n t L bs w (.int .u64 ((((d + t * y) / BB + if x < (d + t * y) % BB then 1 else 0 : Nat)) : Int)) (.int .i64 (k + 1 : Nat)) (wr.setCell ⟨rb, o + k, none⟩ (.int .u32 (((x + BB - (d + t * y) % BB) % BB : Nat) : Int))) := by
  have hrd := take_round (i := k) (r := x) (b := y) hx hv
  have hm : (x + BB - (d + t * y) % BB) % BB < BB := Nat.mod_lt _ (by decide)
  generalize (x + BB - (d + t * y) % BB) % BB = m at hrd hm ⊢
  generalize ((d + t * y) / BB + if x < (d + t * y) % BB then 1 else 0) = q at hrd f2 ⊢
  refine ⟨k + 1, u ++ [m], _, by omega, rfl, rfl, by simp [hu], lb_append.2 ⟨hlu, lb_cons.2 ⟨hm, lb_nil⟩⟩, f2, ?_, ?_, hkp.set _ _⟩
  · rw [val_append, hu, val_take_succ, val_take_succ, hY]
    rw [show ((L.drop o).getD k 0) = x by rw [← hX, List.getD_eq_getElem?_getD, List.getElem?_drop, List.getD_eq_getElem?_getD]]
    rw [val_one]
    exact hrd
  · have := hrow.set (o + k) m
    rwa [mid_set (by omega) hu] at this

set_option maxHeartbeats 4000000 in
theorem c_takeTimes (rb o n c t : Nat) (L bs : List Nat) (hL : Lb L) (hbs : Lb bs) (ht : t < BB) (ho : o + n ≤ L.length) (hn : n ≤ 1000000) (vb : Value) (ok : Nat → Prop) (w : World) (hr : Row w rb L) (hb : NatSl w ok vb bs) (hok : ∀ k, ok k → k < w.heap.size ∧ k ≠ rb) :
    Calls Tryz.prog 97 #[.slice (some ⟨rb, o, none⟩) n c, vb, .int .u32 (t : Int)] w (TakePost rb o n t L bs w) := by
  have HR := Lib.hid hr
  have HB := Lib.hid hb
  have HL := Lib.hid hL
  have HBS := Lib.hid hbs
  have HOK := Lib.hid hok
  have HO := Lib.hid ho
  unfold BB at ht
  obtain ⟨vA, vc, rfl⟩ := hb.shape
  clear hr hb hL hbs hok ho
  go_enter Tryz.func97, Tryz.ntmps97
  go_wp2_with (fail)
  go_loopw [7, 12] (fun c i wr => TakeRel rb o n t L bs w c i wr) (fun c i wr => n - (intOf i).toNat)
  case atStart => exact ⟨0, [], 0, Nat.zero_le _, rfl, rfl, rfl, lb_nil, by decide, by simp [val], by simpa using HR.out, Keep.refl _ _ _⟩
  case round =>
    obtain ⟨k, u, d, hk, rfl, rfl, hu, hlu, hd, hv, hrow, hkp⟩ := hrel
    by_cases hlt : k < n
    · have hm := mid_get (L := L) (u := u) (o := o) (k := k) (by have := HO.out; omega) hu
      have hcell := hrow.cell (i := o + k) (by have := HO.out; omega)
      rw [hm.2] at hcell
      have hfz := hrow.frozen (o + k)
      have hx := lb_get HL.out (o + k)
      have hy := lb_get HBS.out k
      have hB := HB.out.keep (ok' := ok) hkp (fun j hj => ⟨HOK.out j hj, hj⟩)
      have HLI := Lib.hid (c_limb bs _ ok wr hB k (by omega))
      generalize hgx : L.getD (o + k) 0 = x at *
      generalize hgy : bs.getD k 0 = y at *
      obtain ⟨f1, f2, f3⟩ := take_fits (r := x) ht hy hd
      have HST := Lib.hid (take_step hlt HO.out hu hlu hgx hgy hx f2 hv hrow hkp)
      have HW := Lib.hid (take_word f1 f3 hy)
      have hki : ((k : Nat) : Int).toNat = k := by omega
      have hmm : (d + t * y) % BB < BB := Nat.mod_lt _ (by decide)
      have HLW := Lib.hid (low_word hx hmm)
      clear hrow hkp hB hv hu hlu hm hgx hgy
      generalize hs : d + t * y = s at *
      have HS := Lib.hid hs
      have hdiv : ((s : Int) / 4294967296) = ((s / BB : Nat) : Int) := by simp [BB]
      have hmod : ((s : Int) % 4294967296) = ((s % BB : Nat) : Int) := by simp [BB]
      have HDM := Lib.hid (And.intro hdiv hmod)
      have hdl : s / BB < BB := by split at f2 <;> omega
      have HDL := Lib.hid hdl
      clear hdiv hmod hs hdl
      have hend : ∀ z : Int, z = (((s / BB + if x < s % BB then 1 else 0 : Nat)) : Int) → TakeRel rb o n t L bs w (.int .u64 z) (.int .i64 ((k : Int) + 1)) (wr.setCell ⟨rb, o + k, none⟩ (.int .u32 (((x : Int) - (s : Int)) % 4294967296))) := by
        intro z hz
        have e1 : ((x : Int) - (s : Int)) % 4294967296 = ((x : Int) - (s : Int) % 4294967296) % 4294967296 := by omega
        rw [hz, e1, HDM.out.2, HLW.out]
        exact HST.out
      have HE := Lib.hid hend
      clear hend
      have hwt : IntKind.u64.wrap ((d : Int) + IntKind.u64.wrap ((t : Int) * IntKind.u64.wrap (y : Int))) = (s : Int) := HW.out
      by_cases hc : x < s % BB
      · have hcb : decide ((x : Int) < IntKind.u64.wrap ((d : Int) + IntKind.u64.wrap ((t : Int) * IntKind.u64.wrap (y : Int))) % 4294967296) = true := by rw [hwt, HDM.out.2]; first | exact decide_eq_true (by omega) | exact decide_eq_false (by omega)
        have HWT := Lib.hid hwt
        have HC := Lib.hid hc
        clear hwt hc
        go_wp2_with (go_at_call 79; refine HLI.out.mono ?_; rintro e w' ⟨rfl, rfl⟩)
        all_goals
          refine ⟨?_, by simp [intOf]; omega⟩
          rw [HWT.out]
          refine HE.out _ ?_
          rw [HDM.out.1, if_pos HC.out]
          rw [show ((s / BB : Nat) : Int) + 1 = ((s / BB + 1 : Nat) : Int) by omega]
          exact u64w (by have := HDL.out; unfold BB at this ⊢; omega)
      · have hcb : decide ((x : Int) < IntKind.u64.wrap ((d : Int) + IntKind.u64.wrap ((t : Int) * IntKind.u64.wrap (y : Int))) % 4294967296) = false := by rw [hwt, HDM.out.2]; first | exact decide_eq_true (by omega) | exact decide_eq_false (by omega)
        have HWT := Lib.hid hwt
        have HC := Lib.hid hc
        clear hwt hc
        go_wp2_with (go_at_call 79; refine HLI.out.mono ?_; rintro e w' ⟨rfl, rfl⟩)
        all_goals
          refine ⟨?_, by simp [intOf]; omega⟩
          rw [HWT.out]
          refine HE.out _ ?_
          rw [HDM.out.1, if_neg HC.out]
          first | rfl | simp
    · obtain rfl : k = n := by omega
      unfold BB at hd
      have hcw : ((d : Nat) : Int) % 4294967296 = (d : Int) := by omega
      have HCW := Lib.hid hcw
      have HROW := Lib.hid hrow
      have HKP := Lib.hid hkp
      have HV := Lib.hid hv
      have HU := Lib.hid hu
      have HLU := Lib.hid hlu
      clear hcw hrow hkp hv hu hlu
      go_wp2_with (fail)
      go_ret
      refine ⟨u, d, ?_, HU.out, HLU.out, by unfold BB; exact hd, HV.out, HROW.out, HKP.out⟩
      first | rfl | exact ret_nat HCW.out | (refine ret_nat ?_; rw [HCW.out])
end Go.Proofs.YtfdkdloldjfnjaaGreatDoor

/- DERIVED. A new block of zeros, copy into it; add. -/
namespace Go.Proofs.YtfdkdloldjfnjaaGreatDoor
open Go.RowKit
set_option maxRecDepth 100000

theorem u32_info : (Tryz.prog.info? 51).map (fun i => (i.zero, i.size, i.bytes)) = some (some (.int .u32 0), 1, 4) := by kernel_rfl
theorem row_of_own {w w' : World} {base n : Nat} {g : Nat} (h : w'.ownsRow base 51 1 (.slice (some ⟨g, 0, none⟩) n n) n (madeCells #[Value.int .u32 0] (n * 1)).toList) : Row w' g (List.replicate n 0) := by
  obtain ⟨h1, ⟨h2, -⟩ | ⟨g', cap, cur, h2, h3, h4, h5, h6, h7, h8⟩⟩ := h
  · cases h2
  · injection h2 with e1 e2 e3
    injection e1 with e1
    injection e1 with e1
    subst e1 e3
    refine ⟨cur, h4, ?_⟩
    rw [toList_madeCells_one, Nat.mul_one] at h8
    simpa [u32s] using h8
/-- A new slice of n zeros. -/
theorem wp_make (w : World) {ops : Array Oper} {rest : List Oper} {o : Oper} {a : Act} {Q : Exit → Act → World → Prop} (hg : o.guard = none) (l c : Operand) (hop : o.op = Op.makeSlice 23 l c) (L C : Int) (n : Nat) (hl : a.eval l = .int .i64 L) (hc : a.eval c = .int .i64 C)
    (hL : L = (n : Int)) (hC : C = (n : Int)) (hn : n ≤ 3000000) (hK : ∀ w', Row w' w.heap.size (List.replicate n 0) → Below w.heap.size w w' → wpList Tryz.prog ops Q rest (a.put o.dst (.slice (some ⟨w.heap.size, 0, none⟩) n n)) w') :
    wpList Tryz.prog ops Q (o :: rest) a w := by
  obtain ⟨i0, hi0, hz0, hz1, hz2⟩ := info_parts u32_info
  refine wpList_make_full (P := Tryz.prog) w hg l c 23 hop w.heap.size 51 i0 (.int .u32 0) 1 Tryz.underlying23 hi0 hz0 hz1 .i64 .i64 L C n hl hc hL hC (by rw [hz2]; omega) (by unfold maxLen; omega) (Nat.le_refl _) ?_
  intro w' h1 h2
  exact hK w' (row_of_own (w := w) h1) ((Below.refl w.heap.size w).grown h2 (Nat.le_refl _) (fun k hk => by cases hk))
/-- Copies the limbs into a block that is known whole, from its beginning on. -/
theorem wp_copy {w : World} {ops : Array Oper} {rest : List Oper} {o : Oper} {a : Act} {Q : Exit → Act → World → Prop} (hgd : o.guard = none) (d s : Operand) (ho : o.op = .call { callee := .builtin .copy, args := #[d, s], argTypes := #[23, 23] })
    (g n c : Nat) (L xs : List Nat) (v : Value) (ok : Nat → Prop) (hd : a.eval d = .slice (some ⟨g, 0, none⟩) n c) (hs : a.eval s = v) (hr : Row w g L) (hx : NatSl w ok v xs) (hn : n ≤ L.length) (hm : xs.length ≤ n) (B : Nat) (w0 : World) (hb : Below B w0 w) (hBg : B ≤ g)
    (h : ∀ w', Row w' g (xs ++ L.drop xs.length) → Below B w0 w' → wpList Tryz.prog ops Q rest (a.put o.dst (goInt xs.length)) w') : wpList Tryz.prog ops Q (o :: rest) a w := by
  obtain ⟨A, cc, rfl, h2, h3, h4⟩ := hx
  obtain ⟨cur, hg, hcu⟩ := hr
  have hlen : (u32s xs).length = xs.length := u32s_length xs
  have hcl : L.length ≤ cur.toList.length := by
    have := congrArg List.length hcu
    rw [List.length_take, u32s_length] at this
    omega
  refine wpList_copy_splice hgd d s _ _ ho 51 Tryz.underlying23 (by kernel_rfl) _ _ n c xs.length cc hd hs g 0 cur.toList 51 (by simpa using hg) (u32s xs) (by rw [hlen]; exact (Nat.min_eq_left hm).symm) (fun hp => ?_) (by rw [hlen]; omega) (fun u hu => by obtain ⟨x, -, rfl⟩ := List.mem_map.1 hu; rfl) B w0 hb hBg ?_
  · obtain ⟨b, o', rfl, -, hc⟩ := h4 (by simpa [u32s] using hp)
    refine ⟨rfl, _, rfl, fun j u hj => ?_⟩
    rw [u32s_get] at hj
    obtain ⟨x, hx1, hx2⟩ := Option.map_eq_some_iff.1 hj
    subst hx2
    have := hc j x hx1
    unfold Addr.add
    split
    · rename_i h0; subst h0; exact this
    · exact this
  · intro w' h5 h6
    rw [hlen]
    refine h w' ⟨_, h5.out, ?_⟩ h6
    unfold splice
    rw [List.take_zero, List.nil_append, Nat.zero_add, hlen, u32s_append, List.length_append, List.length_drop, List.take_append, hlen]
    congr 1
    · rw [List.take_of_length_le (by rw [hlen]; omega)]
    · rw [show xs.length + (L.length - xs.length) - xs.length = L.length - xs.length by omega, ← List.drop_take, hcu]
      simp [u32s, List.map_drop]
theorem row_whole {w : World} {g n : Nat} {L : List Nat} (h : Row w g L) (hn : L.length = n) (hm : n ≤ 3000000) : NatSl w (· = g) (.slice (some ⟨g, 0, none⟩) n n) L := by
  have := h.sl (o := 0) (n := n) (c := n) (by omega) (Nat.le_refl _) (by unfold maxLen; omega)
  simpa [← hn] using this
theorem whole_mid {L u : List Nat} {n : Nat} (h : L.length = n) : L.take 0 ++ u ++ L.drop (0 + n) = u := by
  rw [List.take_zero, List.nil_append, Nat.zero_add, List.drop_of_length_le (by omega), List.append_nil]
theorem add_zeros {a b u : List Nat} {m cy : Nat} (ha : Lb a) (hb : Lb b) (h1 : a.length ≤ m) (h2 : b.length ≤ m) (hu : u.length = m + 1) (hlu : Lb u)
    (hv : val u + BB ^ (m + 1) * cy = val (((a ++ (List.replicate (m + 1) 0).drop a.length).drop 0).take (m + 1)) + 1 * val (b.take (m + 1))) : val u = val a + val b := by
  have e1 : ((a ++ (List.replicate (m + 1) 0).drop a.length).drop 0).take (m + 1) = a ++ List.replicate (m + 1 - a.length) 0 := by
    rw [List.drop_zero, List.drop_replicate, List.take_of_length_le (by simp; omega)]
  rw [e1, val_append, val_zeros, List.take_of_length_le (by omega), Nat.mul_zero, Nat.add_zero, Nat.one_mul] at hv
  have g1 := val_lt ha
  have g2 := val_lt hb
  have p1 : BB ^ a.length ≤ BB ^ m := Nat.pow_le_pow_right (by decide) h1
  have p2 : BB ^ b.length ≤ BB ^ m := Nat.pow_le_pow_right (by decide) h2
  have p3 : BB ^ (m + 1) = BB ^ m * BB := Nat.pow_succ ..
  have p4 : 2 * BB ^ m ≤ BB ^ m * BB := by rw [Nat.mul_comm]; exact Nat.mul_le_mul_left _ (by decide)
  rcases Nat.eq_zero_or_pos cy with h0 | h0
  · subst h0; rw [Nat.mul_zero] at hv; omega
  · have : BB ^ (m + 1) * 1 ≤ BB ^ (m + 1) * cy := Nat.mul_le_mul_left _ h0
    rw [Nat.mul_one] at this
    generalize BB ^ (m + 1) = z at *
    generalize BB ^ m = y at *
    generalize y * BB = yb at *
    omega
/-- The new slice's limbs, and what stood stands. -/
def NewNat (n : Nat) (w : World) (e : Ending) (w' : World) : Prop := ∃ v, e = .returned v ∧ NatSl w' (fun k => w.heap.size ≤ k ∧ k < w'.heap.size) v (nat n) ∧ Below w.heap.size w w'

set_option maxHeartbeats 4000000 in
theorem c_add (a b : List Nat) (ha : Lb a) (hb : Lb b) (hal : a.length ≤ 100000) (hbl : b.length ≤ 100000) (va vb : Value) (ok ok' : Nat → Prop) (w : World) (h : NatSl w ok va a) (k : NatSl w ok' vb b) (hok : ∀ i, ok i → i < w.heap.size) (hok' : ∀ i, ok' i → i < w.heap.size) :
    Calls Tryz.prog 74 #[va, vb] w (NewNat (val a + val b) w) := by
  obtain ⟨A, c, rfl⟩ := h.shape
  obtain ⟨B, d, rfl⟩ := k.shape
  have HA := Lib.hid h
  have HB := Lib.hid k
  have LA := Lib.hid ha
  have LB := Lib.hid hb
  have OA := Lib.hid hok
  have OB := Lib.hid hok'
  clear h k ha hb hok hok'
  obtain ⟨m, hm⟩ : ∃ m : Nat, m = max a.length b.length := ⟨_, rfl⟩
  have hmi : max (a.length : Int) (b.length : Int) = (m : Int) := by omega
  have hm1 : a.length ≤ m := by omega
  have hm2 : b.length ≤ m := by omega
  have hm3 : m ≤ 100000 := by omega
  clear hm
  by_cases hlt : a.length < b.length
  all_goals
    go_enter Tryz.func74, Tryz.ntmps74
    go_wp2_with (first
      | (at_make; refine wp_make _ rfl _ _ rfl _ _ (m + 1) rfl rfl (by omega) (by omega) (by omega) ?_; intro w1 hr1 hb1)
      | (refine wp_copy rfl (.tmp 13) (.tmp 14) rfl w.heap.size (m + 1) (m + 1) _ a _ ok rfl rfl hr1 (HA.out.below hb1 (fun i hi => ⟨OA.out i hi, hi⟩)) (by simp) (by omega) w.heap.size w hb1 (Nat.le_refl _) ?_; intro w2 hr2 hb2))
    refine (c_addTimes w.heap.size 0 (m + 1) (m + 1) 1 (a ++ (List.replicate (m + 1) 0).drop a.length) b (lb_append.2 ⟨LA.out, lb_drop (lb_zeros _) _⟩) LB.out (by decide) (by simp; omega) (by omega) _ ok' w2 hr2 (HB.out.below hb2 (fun i hi => ⟨OB.out i hi, hi⟩)) (fun i hi => ⟨Nat.lt_of_lt_of_le (OB.out i hi) hb2.size, by have := OB.out i hi; omega⟩)).mono ?_
    rintro e w3 ⟨u, cy, rfl, hu, hlu, hcy, hv, hr3, hk3⟩
    rw [whole_mid (by simp; omega)] at hr3
    have hz := add_zeros (a := a) (b := b) (m := m) LA.out LB.out hm1 hm2 hu hlu hv
    have HR3 := Lib.hid hr3
    have HB3 := Lib.hid (hb2.trans (hk3.low hb2.size (Nat.le_refl _)))
    have HS := Lib.hid (row_whole hr3 (n := m + 1) hu (by omega))
    have HZ := Lib.hid hz
    have HLU := Lib.hid hlu
    clear hr1 hb1 hr2 hb2 hr3 hk3 hv hz hu hlu
    go_wp2_with (fail)
    refine (c_trim _ HLU.out _ _ w3 HS.out).mono ?_
    rintro e w4 ⟨r, rfl, ⟨hn, -⟩, rfl⟩
    go_wp2_with (fail)
    go_ret
    refine ⟨_, rfl, ?_, HB3.out⟩
    have hlt3 := HR3.out.lt
    refine NatSl.mono (ok := (· = w.heap.size)) ?_ (fun k hk => by subst hk; exact ⟨Nat.le_refl _, hlt3⟩)
    rw [← HZ.out]
    exact hn
end Go.Proofs.YtfdkdloldjfnjaaGreatDoor

/- DERIVED. slices.Clone; subtract. -/
namespace Go.Proofs.YtfdkdloldjfnjaaGreatDoor
open Go.RowKit
set_option maxRecDepth 100000

/-- A copy in a block of its own. -/
def CopyPost (l : List Nat) (w : World) (e : Ending) (w' : World) : Prop := ∃ g c, e = .returned (.slice (some ⟨g, 0, none⟩) l.length c) ∧ Row w' g l ∧ l.length ≤ c ∧ c ≤ maxLen ∧ w.heap.size ≤ g ∧ Below w.heap.size w w'
set_option maxHeartbeats 2000000 in
theorem c_Clone (l : List Nat) (hl : 0 < l.length) (hm : l.length ≤ 100000) (v : Value) (ok : Nat → Prop) (w : World) (h : NatSl w ok v l) : Calls Tryz.prog 94 #[v] w (CopyPost l w) := by
  obtain ⟨A, c, rfl, h2, h3, h4⟩ := h
  obtain ⟨b, o, rfl, hb, hc⟩ := h4 hl
  have HC := Lib.hid hc
  clear hc h4
  obtain ⟨i0, hi0, hz0, hz1, hz2⟩ := info_parts u32_info
  have q22 : ∀ (w : World) (a : Option Addr) (n c n' c' : Nat), (binOp .eql 23 (.slice a n c) (.slice none n' c')).run Tryz.prog w = .ok (.bool a.isNone) w := fun w a n c n' c' => Lib.run_eql_slice_nil w _ _ a n c n' c' Tryz.underlying23
  go_enter Tryz.func94, Tryz.ntmps94
  go_wp2_with (at_builtin; refine wpList_append_own _ rfl _ _ 23 rfl w.heap.size 51 i0 (.int .u32 0) 1 4 Tryz.underlying23 hi0 hz0 hz1 hz2 rfl (by omega) _ _ _ rfl (World.ownsRow_made w #[] 0 (Nat.le_refl _) (Nat.zero_le _) (by simp)) ⟨b, o, none⟩ l.length c (u32s l) rfl ?qc1 ?qc2 ?qc3 ?qc4 ?qc5 ?qc6 ?_)
  case qc1 => simp [u32s]
  case qc2 =>
    intro j u hj
    rw [u32s_get] at hj
    obtain ⟨x, hx1, hx2⟩ := Option.map_eq_some_iff.1 hj
    subst hx2
    have := HC.out j x hx1
    have hlt : b < w.heap.size := by
      unfold World.cell? at this
      cases hb : w.heap[b]? with
      | none => simp [hb] at this
      | some ob => exact (Array.getElem?_eq_some_iff.1 hb).1
    have e : (⟨b, o, none⟩ : Addr).add j = ⟨b, o + j, none⟩ := by unfold Addr.add; split <;> simp_all
    rw [e]
    exact (World.cell?_alloc_lt w _ ⟨b, o + j, none⟩ hlt).trans this
  case qc3 => intro u hu; obtain ⟨x, -, rfl⟩ := List.mem_map.1 hu; rfl
  case qc4 => unfold maxLen; omega
  case qc5 => omega
  case qc6 => simp
  intro v' w1 hown hgrow hnil
  go_wp2
  go_ret
  obtain ⟨k1, ⟨k2, -⟩ | ⟨g, cap, cur, rfl, k3, k4, k5, k6, k7, k8⟩⟩ := hown
  · exact absurd k2 hnil
  · refine ⟨g, cap, rfl, ⟨cur, k4, ?_⟩, k5, k6, by simpa using k3, ((Below.refl _ w).alloc (Nat.le_refl _) _).grown hgrow (by simp) (by intro k hk; simp [Value.ownBlock] at hk; omega)⟩
    simpa using k8
/-- A copy of no limbs has none, and nothing is made of them. -/
theorem c_Clone0 (v : Value) (ok : Nat → Prop) (w : World) (h : NatSl w ok v []) : Calls Tryz.prog 94 #[v] w fun e w' => ∃ A c, e = .returned (.slice A 0 c) ∧ c ≤ maxLen ∧ Below w.heap.size w w' := by
  obtain ⟨A, c, rfl, h2, h3, h4⟩ := h
  have H3 := Lib.hid h3
  clear h3 h4
  obtain ⟨i0, hi0, hz0, hz1, hz2⟩ := info_parts u32_info
  have q22 : ∀ (w : World) (a : Option Addr) (n c n' c' : Nat), (binOp .eql 23 (.slice a n c) (.slice none n' c')).run Tryz.prog w = .ok (.bool a.isNone) w := fun w a n c n' c' => Lib.run_eql_slice_nil w _ _ a n c n' c' Tryz.underlying23
  cases A with
  | none =>
    go_enter Tryz.func94, Tryz.ntmps94
    go_wp2
    go_ret
    exact ⟨_, _, rfl, by unfold maxLen; omega, Below.refl _ _⟩
  | some ad =>
    go_enter Tryz.func94, Tryz.ntmps94
    go_wp2_with (at_builtin; refine wpList_append_own _ rfl _ _ 23 rfl w.heap.size 51 i0 (.int .u32 0) 1 4 Tryz.underlying23 hi0 hz0 hz1 hz2 rfl (by omega) _ _ _ rfl (World.ownsRow_made w #[] 0 (Nat.le_refl _) (Nat.zero_le _) (by simp)) ad 0 c [] rfl (by simp) (by simp) (by simp) (by unfold maxLen; omega) (by omega) (by simp) ?_)
    intro v' w1 hown hgrow hnil
    go_wp2
    go_ret
    obtain ⟨k1, ⟨k2, -⟩ | ⟨g, cap, cur, rfl, k3, k4, k5, k6, k7, k8⟩⟩ := hown
    · exact absurd k2 hnil
    · exact ⟨_, _, rfl, k6, ((Below.refl _ w).alloc (Nat.le_refl _) _).grown hgrow (by simp) (by intro k hk; simp [Value.ownBlock] at hk; omega)⟩
theorem c_takeTimes0 (A : Option Addr) (c t : Nat) (vb : Value) (w : World) (hb : ∃ B n d, vb = .slice B n d) : Calls Tryz.prog 97 #[.slice A 0 c, vb, .int .u32 (t : Int)] w fun e w' => e = .returned (.int .u32 0) ∧ w = w' := by
  obtain ⟨B, n, d, rfl⟩ := hb
  go_enter Tryz.func97, Tryz.ntmps97
  go_wp2_with (fail)
  go_loop [7, 12] (fun c i => i = .int .i64 0 ∧ c = .int .u64 0) (fun c i => 0)
  case atStart => exact ⟨rfl, rfl⟩
  case round =>
    obtain ⟨rfl, rfl⟩ := hrel
    go_wp2_with (fail)
    go_ret
    exact ⟨rfl, rfl⟩
theorem take_all {l bs u : List Nat} {d : Nat} (hl : Lb l) (hb : Lb bs) (hle : val bs ≤ val l) (hu : u.length = l.length) (hlu : Lb u) (hbl : bs.length ≤ l.length)
    (hv : val u + 1 * val (bs.take l.length) = val ((l.drop 0).take l.length) + BB ^ l.length * d) : val u = val l - val bs := by
  rw [List.drop_zero, List.take_of_length_le (Nat.le_refl _), List.take_of_length_le hbl, Nat.one_mul] at hv
  have g := val_lt hlu
  rw [hu] at g
  rcases Nat.eq_zero_or_pos d with h0 | h0
  · subst h0; rw [Nat.mul_zero] at hv; omega
  · have : BB ^ l.length * 1 ≤ BB ^ l.length * d := Nat.mul_le_mul_left _ h0
    rw [Nat.mul_one] at this
    generalize BB ^ l.length = z at *
    omega
theorem can_len_le {a b : List Nat} (ha : Lb a) (hb : Can b) (h : val b ≤ val a) : b.length ≤ a.length := by
  rcases Nat.lt_or_ge a.length b.length with hlt | hge
  · have := len_lt ha hb hlt; omega
  · exact hge

set_option maxHeartbeats 4000000 in
theorem c_subtract (a b : List Nat) (ha : Lb a) (hb : Can b) (hle : val b ≤ val a) (hal : a.length ≤ 100000) (va vb : Value) (ok ok' : Nat → Prop) (w : World) (h : NatSl w ok va a) (k : NatSl w ok' vb b) (hok' : ∀ i, ok' i → i < w.heap.size) :
    Calls Tryz.prog 102 #[va, vb] w (NewNat (val a - val b) w) := by
  have HB := Lib.hid k
  have hbl := can_len_le ha hb hle
  have LA := Lib.hid ha
  have CB := Lib.hid hb
  have OB := Lib.hid hok'
  have HLE := Lib.hid hle
  by_cases h0 : 0 < a.length
  · have HC := Lib.hid (c_Clone a h0 hal va ok w h)
    obtain ⟨A, c, rfl⟩ := h.shape
    obtain ⟨B, d, rfl⟩ := k.shape
    clear h k ha hb hok' hle
    go_enter Tryz.func102, Tryz.ntmps102
    go_wp2_with (fail)
    refine HC.out.mono ?_
    rintro e w1 ⟨g, cc, rfl, hr1, hc1, hc2, hg, hb1⟩
    have hsz := hb1.size
    have HR1 := Lib.hid hr1
    have HB1 := Lib.hid hb1
    have HC2 := Lib.hid (And.intro hc1 hc2)
    clear hr1 hb1
    go_wp2_with (fail)
    refine (c_takeTimes g 0 a.length cc 1 a b LA.out CB.out.1 (by decide) (by omega) (by omega) _ ok' w1 HR1.out (HB.out.below HB1.out (fun i hi => ⟨OB.out i hi, hi⟩)) (fun i hi => ⟨Nat.lt_of_lt_of_le (OB.out i hi) hsz, by have := OB.out i hi; omega⟩)).mono ?_
    rintro e w2 ⟨u, d', rfl, hu, hlu, -, hv, hr2, hk2⟩
    rw [whole_mid rfl] at hr2
    have HZ := Lib.hid (take_all LA.out CB.out.1 HLE.out hu hlu hbl hv)
    have HR2 := Lib.hid hr2
    have HS := Lib.hid (hr2.sl (o := 0) (n := a.length) (c := cc) (by omega) HC2.out.1 HC2.out.2)
    have HB2 := Lib.hid (HB1.out.trans (hk2.low hsz hg))
    have HU := Lib.hid hu
    have HLU := Lib.hid hlu
    clear hr2 hk2 hv hu hlu
    go_wp2_with (fail)
    refine (c_trim _ (lb_take (lb_drop HLU.out _) _) _ _ w2 HS.out).mono ?_
    rintro e w3 ⟨r, rfl, ⟨hn, -⟩, rfl⟩
    go_wp2_with (fail)
    go_ret
    refine ⟨_, rfl, ?_, HB2.out⟩
    have hlt3 := HR2.out.lt
    refine NatSl.mono (ok := (· = g)) ?_ (fun k hk => by subst hk; exact ⟨hg, hlt3⟩)
    rw [List.drop_zero, List.take_of_length_le (by rw [HU.out]; exact Nat.le_refl _), HZ.out] at hn
    exact hn
  · have ha0 : a = [] := List.eq_nil_of_length_eq_zero (by omega)
    subst ha0
    have hb0 : b = [] := List.eq_nil_of_length_eq_zero (by simpa using hbl)
    subst hb0
    have HC := Lib.hid (c_Clone0 va ok w h)
    obtain ⟨A, c, rfl⟩ := h.shape
    obtain ⟨B, d, rfl⟩ := k.shape
    clear h k ha hb hok' hle
    go_enter Tryz.func102, Tryz.ntmps102
    go_wp2_with (fail)
    refine HC.out.mono ?_
    rintro e w1 ⟨A1, c1, rfl, hc1, hb1⟩
    have HC1 := Lib.hid hc1
    have HB1 := Lib.hid hb1
    clear hc1 hb1
    go_wp2_with (fail)
    refine (c_takeTimes0 A1 c1 1 _ w1 ⟨_, _, _, rfl⟩).mono ?_
    rintro e w2 ⟨rfl, rfl⟩
    go_wp2_with (fail)
    refine (c_trim [] lb_nil _ (fun _ => False) w1 ⟨A1, c1, rfl, by simp, HC1.out, fun h => absurd h (by simp)⟩).mono ?_
    rintro e w3 ⟨r, rfl, ⟨hn, -⟩, rfl⟩
    go_wp2_with (fail)
    go_ret
    refine ⟨_, rfl, ?_, HB1.out⟩
    exact NatSl.mono (ok := fun _ => False) (by simpa [val] using hn) (fun k hk => hk.elim)
end Go.Proofs.YtfdkdloldjfnjaaGreatDoor

/- DERIVED. multiply. -/
namespace Go.Proofs.YtfdkdloldjfnjaaGreatDoor
open Go.RowKit
set_option maxRecDepth 100000

theorem window_val {L u : List Nat} {o n : Nat} (ho : o + n ≤ L.length) (hu : u.length = n) : val (L.take o ++ u ++ L.drop (o + n)) + BB ^ o * val ((L.drop o).take n) = val L + BB ^ o * val u := by
  have e1 := val_take_drop L o (by omega)
  have e2 := val_take_drop (L.drop o) n (by simp; omega)
  rw [List.drop_drop] at e2
  rw [val_append, val_append, List.length_append, List.length_take, Nat.min_eq_left (by omega), hu, Nat.pow_add, e1, e2]
  generalize BB ^ o = p
  generalize BB ^ n = q
  grind
theorem window_lb {L u : List Nat} {o n : Nat} (hL : Lb L) (hu : Lb u) : Lb (L.take o ++ u ++ L.drop (o + n)) := lb_append.2 ⟨lb_append.2 ⟨lb_take hL _, hu⟩, lb_drop hL _⟩
theorem window_len {L u : List Nat} {o n : Nat} (ho : o + n ≤ L.length) (hu : u.length = n) : (L.take o ++ u ++ L.drop (o + n)).length = L.length := by simp [hu]; omega
theorem mul_step {a b L u : List Nat} {k t cy : Nat} (ha : Lb a) (hb : Lb b) (hL : Lb L) (hl : L.length = a.length + b.length) (hk : k < a.length) (ht : a.getD k 0 = t) (hv : val L = val (a.take k) * val b) (hu : u.length = b.length + 1) (hlu : Lb u)
    (h : val u + BB ^ (b.length + 1) * cy = val ((L.drop k).take (b.length + 1)) + t * val (b.take (b.length + 1))) :
    val (L.take k ++ u ++ L.drop (k + (b.length + 1))) = val (a.take (k + 1)) * val b := by
  have h1 := window_val (L := L) (u := u) (o := k) (n := b.length + 1) (by omega) hu
  have h2 := val_lt (window_lb (o := k) (n := b.length + 1) hL hlu)
  have h3 := val_lt (lb_take ha (k + 1))
  have h4 := val_lt hb
  rw [List.length_take, Nat.min_eq_left (by omega)] at h3
  rw [List.take_of_length_le (by omega : b.length ≤ b.length + 1)] at h
  have h5 : val (a.take (k + 1)) = val (a.take k) + BB ^ k * t := by rw [val_take_succ, ht]
  have h6 : val (a.take (k + 1)) * val b < BB ^ (k + 1) * BB ^ b.length := by
    rcases Nat.eq_zero_or_pos (val b) with h0 | h0
    · rw [h0, Nat.mul_zero]; exact Nat.mul_pos (pow_pos' _) (pow_pos' _)
    · exact Nat.lt_of_lt_of_le (Nat.mul_lt_mul_of_pos_right h3 h0) (Nat.mul_le_mul_left _ (Nat.le_of_lt h4))
  have h7 : BB ^ (k + 1) * BB ^ b.length = BB ^ k * BB ^ (b.length + 1) := by rw [← Nat.pow_add, ← Nat.pow_add]; congr 1; omega
  have h8 : val (L.take k ++ u ++ L.drop (k + (b.length + 1))) + BB ^ k * BB ^ (b.length + 1) * cy = val (a.take (k + 1)) * val b := by
    rw [h5, Nat.add_mul, ← hv]
    generalize val (L.take k ++ u ++ L.drop (k + (b.length + 1))) = x at *
    generalize val ((L.drop k).take (b.length + 1)) = y at *
    generalize BB ^ k = p at *
    generalize BB ^ (b.length + 1) = q at *
    have : p * (val u + q * cy) = p * (y + t * val b) := by rw [h]
    grind
  rcases Nat.eq_zero_or_pos cy with h0 | h0
  · subst h0; rw [Nat.mul_zero, Nat.add_zero] at h8; exact h8
  · exfalso
    have : BB ^ k * BB ^ (b.length + 1) * 1 ≤ BB ^ k * BB ^ (b.length + 1) * cy := Nat.mul_le_mul_left _ h0
    rw [Nat.mul_one] at this
    rw [h7] at h6
    generalize BB ^ k * BB ^ (b.length + 1) = z at *
    omega
def MulRel (a b : List Nat) (g : Nat) (w : World) (i : Value) (wr : World) : Prop :=
  ∃ (k : Nat) (L : List Nat), k ≤ a.length ∧ i = .int .i64 k ∧ L.length = a.length + b.length ∧ Lb L ∧ val L = val (a.take k) * val b ∧ Row wr g L ∧ Keep w.heap.size g w wr

set_option maxHeartbeats 4000000 in
theorem c_multiply (a b : List Nat) (ha : Lb a) (hb : Lb b) (hal : a.length ≤ 100000) (hbl : b.length ≤ 100000) (va vb : Value) (ok ok' : Nat → Prop) (w : World) (h : NatSl w ok va a) (k : NatSl w ok' vb b) (hok : ∀ i, ok i → i < w.heap.size) (hok' : ∀ i, ok' i → i < w.heap.size) :
    Calls Tryz.prog 92 #[va, vb] w (NewNat (val a * val b) w) := by
  have HA := Lib.hid h
  have HB := Lib.hid k
  have LA := Lib.hid ha
  have LB := Lib.hid hb
  have OA := Lib.hid hok
  have OB := Lib.hid hok'
  obtain ⟨A, c, rfl⟩ := h.shape
  obtain ⟨B, d, rfl⟩ := k.shape
  clear h k ha hb hok hok'
  go_enter Tryz.func92, Tryz.ntmps92
  go_wp2_with (at_make; refine wp_make _ rfl _ _ rfl _ _ (a.length + b.length) rfl rfl (by omega) (by omega) (by omega) ?_; intro w1 hr1 hb1; have HR1 := Lib.hid hr1; have HB1 := Lib.hid hb1; have hsz := hr1.lt; clear hr1 hb1)
  go_loopw [16] (fun i wr => MulRel a b w.heap.size w1 i wr) (fun i wr => a.length - (intOf i).toNat)
  case atStart => exact ⟨0, _, Nat.zero_le _, rfl, by simp, lb_zeros _, by rw [val_zeros]; simp [val], HR1.out, Keep.refl _ _ _⟩
  case round =>
    obtain ⟨k, L, hk, rfl, hl, hL, hv, hr, hkp⟩ := hrel
    have HK := Lib.hid hkp
    have HR := Lib.hid hr
    by_cases hlt : k < a.length
    · have hA := (HA.out.below (ok' := ok) HB1.out (fun i hi => ⟨OA.out i hi, hi⟩)).keep (ok' := ok) hkp (fun i hi => ⟨⟨by have := OA.out i hi; omega, by have := OA.out i hi; omega⟩, hi⟩)
      have hB := (HB.out.below (ok' := ok') HB1.out (fun i hi => ⟨OB.out i hi, hi⟩)).keep (ok' := ok') hkp (fun i hi => ⟨⟨by have := OB.out i hi; omega, by have := OB.out i hi; omega⟩, hi⟩)
      obtain ⟨b1, o1, c1, e1, -, -, -, g1⟩ := hA.at_ hlt
      injection e1 with e1 _ e1'
      subst e1 e1'
      have q1 := g1 k hlt
      have ht := lb_get LA.out k
      generalize hgx : a.getD k 0 = t at q1 ht
      have HX := Lib.hid hgx
      have HLL := Lib.hid hl
      have HL := Lib.hid hL
      have HV := Lib.hid hv
      have hsz2 := hkp.size
      have HC := Lib.hid (c_addTimes w.heap.size k (b.length + 1) (a.length + b.length - k) t L b hL LB.out ht (by omega) (by omega) _ ok' wr hr hB (fun i hi => ⟨by have := OB.out i hi; omega, by have := OB.out i hi; omega⟩))
      clear g1 hA hB hgx hl hL hv hr hkp
      have hki : ((k : Nat) : Int).toNat = k := by omega
      have hkj : ((k : Int) + (b.length : Int) + 1).toNat = k + b.length + 1 := by omega
      have hkd : k + b.length + 1 - k = b.length + 1 := by omega
      go_wp2_with (fail)
      refine HC.out.mono ?_
      rintro e w2 ⟨u, cy, rfl, hu, hlu, -, hv2, hr2, hk2⟩
      have HM := Lib.hid (mul_step LA.out LB.out HL.out HLL.out hlt HX.out HV.out hu hlu hv2)
      have HW := Lib.hid (window_lb (o := k) (n := b.length + 1) HL.out hlu)
      have HN := Lib.hid (window_len (L := L) (o := k) (n := b.length + 1) (by have := HLL.out; omega) hu)
      have HR2 := Lib.hid hr2
      have HK2 := Lib.hid (HK.out.trans (hk2.mono hsz2))
      clear hu hlu hv2 hr2 hk2
      go_wp2_with (fail)
      refine ⟨⟨k + 1, _, by omega, by go_num, by rw [HN.out, HLL.out], HW.out, HM.out, HR2.out, HK2.out⟩, by simp [intOf]; omega⟩
    · obtain rfl : k = a.length := by omega
      rw [List.take_of_length_le (Nat.le_refl _)] at hv
      have HV := Lib.hid hv
      have HLL := Lib.hid hl
      have HL := Lib.hid hL
      have HS := Lib.hid (row_whole hr hl (by omega))
      have hlt3 := hr.lt
      have hsz2 := hkp.size
      clear hl hL hv hr hkp
      go_wp2_with (fail)
      refine (c_trim L HL.out _ _ wr HS.out).mono ?_
      rintro e w3 ⟨r, rfl, ⟨hn, -⟩, rfl⟩
      go_wp2_with (fail)
      go_ret
      refine ⟨_, rfl, ?_, HB1.out.trans (HK.out.low (by omega) (Nat.le_refl _))⟩
      rw [HV.out] at hn
      exact hn.mono (fun i hi => by subst hi; exact ⟨Nat.le_refl _, hlt3⟩)
end Go.Proofs.YtfdkdloldjfnjaaGreatDoor
