/-
  DERIVED. states: the iterator.
-/
import Derived.Test.YtomfaknemjbjcaaBJ
import Derived.Test.YtomfaknemjbjcaaBM
namespace Go.Proofs.Ytomfaknemjbjcaa
open Go.RowKit Go.Shelf
attribute [local go_sem] Oper.semAt_some
set_option maxRecDepth 100000

/-- The states behind each tick, with the ticks' numbers. -/
def crsI (L S F : Int) (k : Nat) (x : Int × Bool) : List Int → List (Nat × (Int × Bool))
  | [] => []
  | w :: l => (k, nx L S F x w) :: crsI L S F (k + 1) (nx L S F x w) l
theorem crsI_snd (L S F : Int) (l : List Int) : ∀ k x, (crsI L S F k x l).map (·.2) = crs L S F x l := by
  induction l with
  | nil => intro k x; rfl
  | cons w l ih => intro k x; simp [crsI, crs, ih]
theorem crsI_get (L S F : Int) (l : List Int) : ∀ k x i t, (crsI L S F k x l)[i]? = some t → t.1 = k + i := by
  induction l with
  | nil => intro k x i t h; simp [crsI] at h
  | cons w l ih =>
    intro k x i t h
    cases i with
    | zero => simp [crsI] at h; rw [← h]; rfl
    | succ i => have := ih (k + 1) _ i t (by simpa [crsI] using h); omega
/-- What a round keeps: the cells of some blocks. -/
structure KpG (Gd : Nat → Prop) (X Y : World) : Prop where
  size : X.heap.size ≤ Y.heap.size
  same : ∀ (k : Nat) (cs : Array Value) (t : TypeId) (fr : Nat × Nat), Gd k → X.heap[k]? = some (.cells cs t fr) → Y.heap[k]? = some (.cells cs t fr)
/-- The iterator's own steps: new blocks, and stores into one box. -/
structure OwnSt (b : Nat) (X Y : World) : Prop where
  os : Y.os = X.os
  tape : Y.tape = X.tape
  output : Y.output = X.output
  size : X.heap.size ≤ Y.heap.size
  same : ∀ (k : Nat) (o : Obj), X.heap[k]? = some o → (o.isCells = false ∨ k ≠ b) → Y.heap[k]? = some o
section
variable {Gd : Nat → Prop} {b : Nat} {X Y Z : World}
theorem KpG.trans (h : KpG Gd X Y) (k : KpG Gd Y Z) : KpG Gd X Z := ⟨Nat.le_trans h.size k.size, fun i cs t fr g hi => k.same i cs t fr g (h.same i cs t fr g hi)⟩
theorem KpG.put (W : World) (l : Nat) (o o' : Obj) (hl : W.heap[l]? = some o) (ho : o.isCells = false) : KpG Gd W (W.putObj l o') :=
  ⟨by simp, fun k cs t fr _ hk => put_other hk (fun e => by subst e; rw [hl] at hk; cases hk; cases ho)⟩
theorem OwnSt.of_below {B : Nat} (h : Below B X Y) (hB : X.heap.size ≤ B) : OwnSt b X Y := ⟨h.os, h.tape, h.output, h.size, fun k _ hk _ => (h.block k (Nat.lt_of_lt_of_le (block_lt hk) hB)).trans hk⟩
theorem OwnSt.trans (h : OwnSt b X Y) (k : OwnSt b Y Z) : OwnSt b X Z := ⟨k.os.trans h.os, k.tape.trans h.tape, k.output.trans h.output, Nat.le_trans h.size k.size, fun i o hi ho => k.same i o (h.same i o hi ho) ho⟩
theorem OwnSt.store {h : Int} {t : Bool} (hc : St X b h t) (x y : Value) : OwnSt b X ((X.setCell ⟨b, 0, none⟩ x).setCell ⟨b, 1, none⟩ y) :=
  ⟨rfl, rfl, rfl, by simp [World.setCell], fun k o hk ho => by
    have hne : k ≠ b := by
      rintro rfl
      unfold St at hc
      rw [hk] at hc
      cases hc
      rcases ho with ho | ho
      · cases ho
      · exact ho rfl
    rw [Below.heap_setCell _ ⟨b, 1, none⟩ y k hne, Below.heap_setCell _ ⟨b, 0, none⟩ x k hne]; exact hk⟩
theorem Bk.kept {c : Nat} {f L S F : Int} (h : Bk X c f L S F) (hk : KpG Gd X Y) (g : Gd c) : Bk Y c f L S F := hk.same _ _ _ _ g h
theorem St.kept {c : Nat} {h : Int} {t : Bool} (k : St X c h t) (hk : KpG Gd X Y) (g : Gd c) : St Y c h t := hk.same _ _ _ _ g k
theorem cell_keptG {c o : Nat} {v : Value} (h : X.cell? ⟨c, o, none⟩ = some v) (hk : KpG Gd X Y) (g : Gd c) : Y.cell? ⟨c, o, none⟩ = some v := by
  obtain ⟨ob, hob, hcl⟩ := cells_of_cell h
  cases ob with
  | cells cs t fr => exact (World.cell?_of_block (a := ⟨c, o, none⟩) ((hk.same _ _ _ _ g hob).trans hob.symm)).trans h
  | _ => cases hcl
end
theorem calls_wide {n : Nat} {P : Program} {f : FuncId} {args : Array Value} {w : World} {R : Ending → World → Prop} (h : Calls P f args w R) : CallsIn Fence.wide n P f args w R := callsIn_wide.2 h
/-- The loads, out of the rounds' way and not in the block c. -/
def LoadsG (Gd : Nat → Prop) (c : Nat) (A : Option Addr) (l : List Int) (X : World) : Prop := ∀ j x, l[j]? = some x → ∃ b o, A = some ⟨b, o, none⟩ ∧ Gd b ∧ b ≠ c ∧ b < X.heap.size ∧ X.cell? ⟨b, o + j, none⟩ = some (.int .i64 x)
section
variable {Gd : Nat → Prop} {c : Nat} {A : Option Addr} {l : List Int} {X Y : World}
theorem LoadsG.kept (h : LoadsG Gd c A l X) (hk : KpG Gd X Y) : LoadsG Gd c A l Y := fun j x hj => by
  obtain ⟨b, o, e, g, hn, hl, hc⟩ := h j x hj
  exact ⟨b, o, e, g, hn, Nat.lt_of_lt_of_le hl hk.size, cell_keptG hc hk g⟩
theorem LoadsG.on {B : Nat} (h : LoadsG Gd c A l X) (hb : Below B X Y) (hB : X.heap.size ≤ B) : LoadsG Gd c A l Y := fun j x hj => by
  obtain ⟨b, o, e, g, hn, hl, hc⟩ := h j x hj
  exact ⟨b, o, e, g, hn, Nat.lt_of_lt_of_le hl hb.size, (hb.cell (p := ⟨b, o + j, none⟩) (Nat.lt_of_lt_of_le hl hB)).trans hc⟩
theorem LoadsG.store (k : LoadsG Gd c A l X) (x y : Value) : LoadsG Gd c A l ((X.setCell ⟨c, 0, none⟩ x).setCell ⟨c, 1, none⟩ y) := fun j z hj => by
  obtain ⟨b, o, e, g, hn, hl, hcl⟩ := k j z hj
  refine ⟨b, o, e, g, hn, by rw [size_store2]; exact hl, (World.cell?_of_block (w := X) (a := ⟨b, o + j, none⟩) ?_).trans hcl⟩
  show ((X.setCell ⟨c, 0, none⟩ x).setCell ⟨c, 1, none⟩ y).heap[b]? = X.heap[b]?
  rw [Below.heap_setCell _ ⟨c, 1, none⟩ y b hn, Below.heap_setCell _ ⟨c, 0, none⟩ x b hn]
end
theorem c_states (f L S F h : Int) (t : Bool) (A : Option Addr) (m c : Nat) (w : World) :
    Calls Try.prog 42 #[bkV f L S F, stV (h, t), .slice A m c] w fun e w' => e = .returned (.func (.func 55) #[] #[.pointer (some ⟨w.heap.size + 1 + 1, 0, none⟩), .pointer (some ⟨w.heap.size, 0, none⟩), .pointer (some ⟨w.heap.size + 1, 0, none⟩)]) ∧
      w' = ((w.alloc (.cells #[.int .i64 f, .int .i64 L, .int .i64 S, .int .i64 F] 23)).alloc (.cells #[.int .i64 h, .bool t] 25)).alloc (.cells #[.slice A m c] 26) := by
  unfold bkV stV
  go_enter Try.func42, Try.ntmps42
  go_wp2_with (fail)
  exact bodyPost_ret (by simp [results, go_sem]) rfl ⟨rfl, rfl⟩
/-- Between two rounds of the iterator. -/
def ItS (bb bs : Nat) (f L S F : Int) (Gd : Nat → Prop) (A : Option Addr) (l : List Int) (ts : List (Nat × (Int × Bool))) (J : List (Nat × (Int × Bool)) → World → Prop) (i : Value) (wr : World) : Prop :=
  ∃ (k : Nat) (h : Int) (t : Bool) (pre : List (Nat × (Int × Bool))), i = .int .i64 (k : Int) ∧ k ≤ l.length ∧ Bk wr bb f L S F ∧ St wr bs h t ∧ Vs S (h, t) ∧ LoadsG Gd bs A l wr ∧ Hid (ts = pre ++ crsI L S F k (h, t) (l.drop k)) ∧ J pre wr
set_option maxHeartbeats 4000000 in
theorem c_states1 (n : Nat) (hn : 1 ≤ n) (lp bb bs bw : Nat) (Gd : Nat → Prop) (hgb : Gd bb) (hgs : Gd bs) (hbs : bb ≠ bs) (f L S F q : Int) (t : Bool) (hb : 0 ≤ L ∧ L ≤ 1000000 ∧ S ≤ 1000000) (A : Option Addr) (c : Nat) (l : List Int) (hll : l.length ≤ 1000) (hlw : ∀ x ∈ l, 0 ≤ x ∧ x ≤ 100000000) (hv : Vs S (q, t))
    (J Jx : List (Nat × (Int × Bool)) → World → Prop) (w : World) (hB : Bk w bb f L S F) (hS : St w bs q t) (hW : w.cell? ⟨bw, 0, none⟩ = some (.slice A l.length c)) (hL : LoadsG Gd bs A l w)
    (hJ : ∀ pre X Y, J pre X → OwnSt bs X Y → J pre Y)
    (hY : ∀ pre v u W1, J pre W1 → v = #[.int .i64 ((u.1 : Nat) : Int), stV u.2] → pre ++ [u] <+: crsI L S F 0 (q, t) l → YieldAt Fence.wide (n - 1) Try.prog lp v W1 fun e W' =>
      (e = .returned (.bool true) ∧ J (pre ++ [u]) W' ∧ KpG Gd W1 W') ∨ (e = .returned (.bool false) ∧ Jx (pre ++ [u]) W'))
    (h0 : J [] w) :
    CallsIn Fence.wide n Try.prog 55 #[.func (.yield lp) #[] #[], .pointer (some ⟨bw, 0, none⟩), .pointer (some ⟨bb, 0, none⟩), .pointer (some ⟨bs, 0, none⟩)] w fun e W' => (∃ v, e = .returned v) ∧ (J (crsI L S F 0 (q, t) l) W' ∨ ∃ pre, pre <+: crsI L S F 0 (q, t) l ∧ Jx pre W') := by
  obtain ⟨ts, hts⟩ : ∃ ts, ts = crsI L S F 0 (q, t) l := ⟨_, rfl⟩
  have hinit : ItS bb bs f L S F Gd A l ts J (.int .i64 0) w := ⟨0, q, t, [], rfl, Nat.zero_le _, hB, hS, hv, hL, Lib.hid (by rw [hts]; rfl), h0⟩
  rw [← hts] at hY ⊢
  have HY := Lib.hid hY
  have HJ := Lib.hid hJ
  have HI := Lib.hid hinit
  have HLW := Lib.hid hlw
  clear hinit hY hJ h0 hts hB hS hv hL hlw
  clear q t
  refine callsIn_of_wp Try.func55 rfl trivial ?_ rfl
  simp only [Try.ntmps55, List.size_toArray, List.length_cons, List.length_nil, Nat.reduceAdd, Nat.reduceSub, Array.replicate_succ, Array.replicate_zero, List.push_toArray, List.append_toArray, List.nil_append, List.cons_append]
  gi_wp2_with (fail)
  gi_loopw [9] (fun i wr => ItS bb bs f L S F Gd A l ts J i wr) (fun i wr => l.length - (intOf i).toNat)
  case atStart => exact HI.out
  case round =>
    obtain ⟨k, h, t, pre, rfl, hk, hK, hS, hv, hL, hts, hj⟩ := hrel
    have HKr := Lib.hid hK
    have HSr := Lib.hid hS
    have HLr := Lib.hid hL
    have HJr := Lib.hid hj
    obtain ⟨x0, x1, x2, x3⟩ := hK.cells
    obtain ⟨y0, y1⟩ := hS.cells
    by_cases hlt : k < l.length
    · obtain ⟨p, hp⟩ : ∃ p, l[k]? = some p := ⟨_, List.getElem?_eq_getElem hlt⟩
      obtain ⟨b, o, rfl, hg, hne, hbl, hcell⟩ := hL k p hp
      have hpr := HLW.out p (List.mem_of_getElem? hp)
      obtain ⟨z, hz⟩ : ∃ z, z = nx L S F (h, t) p := ⟨_, rfl⟩
      have HN := Lib.hid (fun (X : World) => c_next f L S F h p t ⟨hb.1, hb.2.1, hv.1, hv.2.1, hpr.1, hpr.2⟩ z hz.symm X)
      have HV := Lib.hid (show Vs S z by rw [hz]; exact vs_nx hv hb.2.2)
      have HTS := Lib.hid (show ts = (pre ++ [(k, z)]) ++ crsI L S F (k + 1) z (l.drop (k + 1)) by
        rw [hts.out, List.drop_eq_getElem_cons hlt]
        have : l[k] = p := by rw [List.getElem?_eq_getElem hlt] at hp; exact Option.some.inj hp
        rw [this]
        simp [crsI, hz])
      have hki : ((k : Nat) : Int).toNat = k := by omega
      have hkl : (k : Int) < (l.length : Int) := by omega
      unfold bkV stV at HN
      obtain ⟨z1, z2⟩ := z
      clear hK hS hL hj hts hp hz hv
      gi_wp2_with (fail)
      refine ⟨trivial, ?_⟩
      gi_at_call 39
      refine (calls_wide (HN.out _)).mono ?_
      rintro e w1 ⟨rfl, b1⟩
      have HK1 := Lib.hid (HKr.out.on b1 (block_lt HKr.out))
      have HS1 := Lib.hid (HSr.out.on b1 (block_lt HSr.out))
      have HL1 := Lib.hid (HLr.out.on b1 (Nat.le_refl _))
      have HJ1 := Lib.hid (HJ.out _ _ _ HJr.out (OwnSt.of_below b1 (Nat.le_refl _)))
      obtain ⟨f0, f1⟩ := HS1.out.frozen
      clear b1 x0 x1 x2 x3 y0 y1 hcell
      obtain ⟨y0, y1⟩ := HS1.out.cells
      gi_wp2_with (fail)
      obtain ⟨W2, hW2⟩ : ∃ W2, W2 = (w1.setCell ⟨bs, 0, none⟩ (.int .i64 z1)).setCell ⟨bs, 1, none⟩ (.bool z2) := ⟨_, rfl⟩
      have HK2 := Lib.hid (show Bk W2 bb f L S F by subst hW2; exact st_kept HK1.out hbs _ _)
      have HS2 := Lib.hid (show St W2 bs z1 z2 by subst hW2; exact row_store2 HS1.out _ _)
      have HL2 := Lib.hid (show LoadsG Gd bs (some ⟨b, o, none⟩) l W2 by subst hW2; exact HL1.out.store _ _)
      have HJ2 := Lib.hid (HJ.out _ _ W2 HJ1.out (by subst hW2; exact OwnSt.store HS1.out _ _))
      rw [← hW2]
      clear hW2 y0 y1 f0 f1
      obtain ⟨y0, y1⟩ := HS2.out.cells
      obtain ⟨fn, tmps, assign, body, hy, hR⟩ := HY.out pre _ (k, z1, z2) W2 HJ2.out rfl (by rw [HTS.out]; exact List.prefix_append _ _)
      unfold stV at hy
      gi_wp2_with (fail)
      refine hR.mono ?_
      rintro e W3 (⟨rfl, hJ3, hk3⟩ | ⟨rfl, hJx3⟩)
      · have HJ3 := Lib.hid hJ3
        have HK3 := Lib.hid (HK2.out.kept hk3 hgb)
        have HS3 := Lib.hid (HS2.out.kept hk3 hgs)
        have HL3 := Lib.hid (HL2.out.kept hk3)
        clear hJ3 hy hk3 y0 y1
        gi_wp2_with (fail)
        refine ⟨⟨k + 1, z1, z2, pre ++ [(k, z1, z2)], by go_num, by omega, HK3.out, HS3.out, HV.out, HL3.out, HTS, HJ3.out⟩, ?_⟩
        simp only [intOf]; omega
      · have Hx := Lib.hid hJx3
        clear hJx3 hy
        gi_wp2_with (fail)
        refine bodyPost_ret (results_none rfl _ _ _) rfl ?_
        exact ⟨⟨_, rfl⟩, .inr ⟨_, (by rw [HTS.out]; exact List.prefix_append _ _), Hx.out⟩⟩
    · obtain rfl : k = l.length := by omega
      have HTE := Lib.hid (show ts = pre by rw [hts.out, List.drop_of_length_le (Nat.le_refl _)]; simp [crsI])
      clear hK hS hL hj hts hv
      gi_wp2_with (fail)
      refine bodyPost_end (results_none rfl _ _ _) rfl ?_
      exact ⟨⟨_, rfl⟩, .inl (by rw [HTE.out]; exact HJr.out)⟩
end Go.Proofs.Ytomfaknemjbjcaa
