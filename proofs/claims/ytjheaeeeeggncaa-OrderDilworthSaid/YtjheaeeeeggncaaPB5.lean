/-
  DERIVED. Several texts in one.
-/
import Derived.Test.YtjheaeeeeggncaaPB4
import Derived.Test.YtjheaeeeeggncaaPB3
import Derived.Test.YtjheaeeeeggncaaPB1
import Derived.OwnWalk
import Derived.Laws.CopyOwn
import Derived.Deep.RegionLaw
set_option linter.unusedVariables false
set_option linter.unusedSimpArgs false

namespace Go.Proofs.Ytjheaeeeeggncaa
open Go.RowKit Go.Shelf
attribute [local go_sem] Oper.semAt_some
set_option maxRecDepth 100000
set_option linter.unusedVariables false
set_option linter.unusedSimpArgs false

def onlyN (Q : Exit → Act → World → Prop) : Exit → Act → World → Prop
  | .normal, a, w => Q .normal a w
  | _, _, _ => False
theorem only_intro {Q : Exit → Act → World → Prop} {a : Act} {w : World} (h : Q .normal a w) : onlyN Q .normal a w := h
theorem wp_only {P : Program} {Q : Exit → Act → World → Prop} {a : Act} {w : World} {c : Code} (h : c.wp P (onlyN Q) a w) : c.wp P Q a w :=
  wp_mono h fun e a w h => by cases e <;> first | exact h | exact h.elim
section
variable {P : Program} {ops : Array Oper} {Q : Exit → Act → World → Prop} {md : Region.Mode} {S : World → Prop} {z : Nat → Bool}
end
/-- What nth answers. -/
def NtTo (w : World) (n : Nat) (f : Nat → Nat) (x : Int) (e : Ending) (w' : World) : Prop :=
  ((0 ≤ x ∧ x < ((wys n f 0 : Nat) : Int) ∧ ∃ v, e = .returned (.tuple #[v, .bool true]) ∧ w'.ownsRow w.heap.size 3 1 v (nthL n f n 0 x.toNat).length (elV (nthL n f n 0 x.toNat))) ∨ (¬ (0 ≤ x ∧ x < ((wys n f 0 : Nat) : Int)) ∧ e = .returned (.tuple #[.slice none 0 0, .bool false]))) ∧ Below w.heap.size w w'
/-- The boxes of k, line, ways and come; the row of line lies behind them (low). -/
structure NtS (w : World) (n : Nat) (f : Nat → Nat) (a : WyA) (wB cB low : Nat) (u k : Nat) (ln : List Nat) (v : Value) (X : World) : Prop where
  kb : X.heap[w.heap.size]? = some (.cells #[.int .i64 (k : Int)] 3 (0, 0))
  lb : X.heap[w.heap.size + 1]? = some (.cells #[v] 33 (0, 0))
  wb : X.heap[wB]? = some (.cells #[a.fn] 81 (0, 0))
  cb : X.heap[cB]? = some (.cells #[.int .u16 (u : Int)] 72 (0, 0))
  row : X.ownsRow w.heap.size 3 1 v ln.length (elV ln)
  rge : ∀ g, v.ownBlock = some g → low ≤ g
  at_ : ∃ tab, WyAt n f a tab X
  bel : Below w.heap.size w X
section
variable {w : World} {n : Nat} {f : Nat → Nat} {a : WyA} {wB cB low u k : Nat} {ln : List Nat} {v : Value} {X Y : World}
theorem NtS.keep (h : NtS w n f a wB cB low u k ln v X) (hc : ∀ (k : Nat) (cs : Array Value) (T : TypeId) (fr : Nat × Nat), X.heap[k]? = some (.cells cs T fr) → Y.heap[k]? = some (.cells cs T fr)) (hm : ∀ o, X.heap[a.M]? = some o → Y.heap[a.M]? = some o) (hb : Below w.heap.size w Y) : NtS w n f a wB cB low u k ln v Y := by
  obtain ⟨tab, ht⟩ := h.at_
  exact ⟨hc _ _ _ _ h.kb, hc _ _ _ _ h.lb, hc _ _ _ _ h.wb, hc _ _ _ _ h.cb, own_row_kept h.row fun g cur _ hg => hc _ _ _ _ hg, h.rge, ⟨tab, ht.keep fun k o hk ho => by
    rcases hk with rfl | rfl | rfl | rfl | rfl
    · rw [ht.blk] at ho; cases ho; exact hc _ _ _ _ ht.blk
    · rw [ht.known] at ho; cases ho; exact hc _ _ _ _ ht.known
    · exact hm o ho
    · rw [ht.ord] at ho; cases ho; exact hc _ _ _ _ ht.ord
    · rw [ht.clo] at ho; cases ho; exact hc _ _ _ _ ht.clo⟩, hb⟩
theorem NtS.on {B : Nat} (h : NtS w n f a wB cB low u k ln v X) (hb : Below B X Y) (hB : X.heap.size ≤ B) : NtS w n f a wB cB low u k ln v Y :=
  h.keep (fun k cs T fr ho => (hb.block _ (Nat.lt_of_lt_of_le (at_lt ho) hB)).trans ho) (fun o ho => (hb.block _ (Nat.lt_of_lt_of_le (at_lt ho) hB)).trans ho) (below_join h.bel hb (Nat.le_trans h.bel.size hB))
theorem NtS.own {S : Nat} (h : NtS w n f a wB cB low u k ln v X) (hE : OwnIt S 0 X Y) (hw : w.heap.size ≤ S) (hM : a.M < S) : NtS w n f a wB cB low u k ln v Y :=
  h.keep (own_cells' hE) (fun o ho => hE.same _ _ ho (.inl hM)) (below_own h.bel hE hw)
theorem NtS.put {l : Nat} {o o' : Obj} (h : NtS w n f a wB cB low u k ln v X) (hw : w.heap.size ≤ l) (hM : a.M ≠ l) (ho : X.heap[l]? = some o) (hc : o.isCells = false) : NtS w n f a wB cB low u k ln v (X.putObj l o') :=
  h.keep (fun k cs T fr hk => put_cells hk ho hc) (fun o hh => put_else hh hM) (below_put h.bel hw)
theorem NtS.but {tab' : List (Nat × Nat)} (h : NtS w n f a wB cB low u k ln v X) (hb : But a.M X Y) (ht : WyAt n f a tab' Y) (hM : w.heap.size ≤ a.M) : NtS w n f a wB cB low u k ln v Y := by
  obtain ⟨tab, h0⟩ := h.at_
  have hc : ∀ (k : Nat) (cs : Array Value) (T : TypeId) (fr : Nat × Nat), X.heap[k]? = some (.cells cs T fr) → Y.heap[k]? = some (.cells cs T fr) := fun k cs T fr ho => hb.same _ _ (h0.map.ne ho) ho
  exact ⟨hc _ _ _ _ h.kb, hc _ _ _ _ h.lb, hc _ _ _ _ h.wb, hc _ _ _ _ h.cb, own_row_kept h.row fun g cur _ hg => hc _ _ _ _ hg, h.rge, ⟨tab', ht⟩, hb.low h.bel rfl hM⟩
/-- What lies where. -/
structure NtL (w : World) (a : WyA) (wB cB low : Nat) : Prop where
  m : w.heap.size + 1 < a.M ∧ w.heap.size + 1 < a.kb ∧ w.heap.size + 1 < a.bb ∧ w.heap.size + 1 < a.cb ∧ a.g < w.heap.size
  o : a.M < wB ∧ a.kb < wB ∧ a.bb < wB ∧ a.cb < wB
  b : wB + 1 = cB ∧ cB + 1 = low
abbrev wF (n : Nat) (f : Nat → Nat) (u : Nat) : Nat → Nat := fun i => wys n f (u ||| 1 <<< i)
/-- Between two rounds of the inner loop; what a break leaves. -/
structure NtI (w : World) (n : Nat) (f : Nat → Nat) (a : WyA) (wB cB low mB : Nat) (bs : List Nat) (u k : Nat) (ln : List Nat) (v : Value) (L : List Nat) (Y : World) (pre : List Nat) (X : World) : Prop where
  st : ∃ K', NtS w n f a wB cB low u K' ln v X ∧ pickN (wF n f u) L k = pickN (wF n f u) (L.drop pre.length) K' ∧ K' ≤ k
  mks : Mks mB bs X
  sz : Y.heap.size ≤ X.heap.size
structure NtX (w : World) (n : Nat) (f : Nat → Nat) (a : WyA) (wB cB low mB : Nat) (bs : List Nat) (u k : Nat) (ln : List Nat) (L : List Nat) (Y : World) (c : Code) (X : World) : Prop where
  c : c = .exit 2
  st : ∃ i K' v', pickN (wF n f u) L k = some (i, K') ∧ NtS w n f a wB cB low (u ||| 1 <<< i) K' (ln ++ [i]) v' X
  mks : Mks mB bs X
  sz : Y.heap.size ≤ X.heap.size
theorem mks_own {S mB : Nat} {bs : List Nat} (h : Mks mB bs X) (hE : OwnIt S 0 X Y) (hbs : ∀ b ∈ bs, b < S) : Mks mB bs Y := ⟨h.nodup, fun b hb => ⟨(h.at_ b hb).1, hE.same _ _ (h.at_ b hb).2 (.inl (hbs b hb))⟩⟩
theorem mks_put {l mB : Nat} {bs : List Nat} {o' : Obj} (h : Mks mB bs X) (hbs : ∀ b ∈ bs, b ≠ l) : Mks mB bs (X.putObj l o') := ⟨h.nodup, fun b hb => ⟨(h.at_ b hb).1, put_else (h.at_ b hb).2 (hbs b hb)⟩⟩
section
variable {mB : Nat} {bs L pre : List Nat} {c : Code} {Z : World}
theorem NtI.own {S : Nat} (h : NtI w n f a wB cB low mB bs u k ln v L Y pre X) (hE : OwnIt S 0 X Z) (hw : w.heap.size ≤ S) (hM : a.M < S) (hbs : ∀ b ∈ bs, b < S) : NtI w n f a wB cB low mB bs u k ln v L Y pre Z := by
  obtain ⟨K', h1, h2⟩ := h.st
  exact ⟨⟨K', h1.own hE hw hM, h2⟩, mks_own h.mks hE hbs, Nat.le_trans h.sz hE.size⟩
theorem NtI.put {l : Nat} {o o' : Obj} (h : NtI w n f a wB cB low mB bs u k ln v L Y pre X) (hw : w.heap.size ≤ l) (hM : a.M ≠ l) (hbs : ∀ b ∈ bs, b ≠ l) (ho : X.heap[l]? = some o) (hc : o.isCells = false) : NtI w n f a wB cB low mB bs u k ln v L Y pre (X.putObj l o') := by
  obtain ⟨K', h1, h2⟩ := h.st
  exact ⟨⟨K', h1.put hw hM ho hc, h2⟩, mks_put h.mks hbs, by simpa using h.sz⟩
theorem NtX.own {S : Nat} (h : NtX w n f a wB cB low mB bs u k ln L Y c X) (hE : OwnIt S 0 X Z) (hw : w.heap.size ≤ S) (hM : a.M < S) (hbs : ∀ b ∈ bs, b < S) : NtX w n f a wB cB low mB bs u k ln L Y c Z := by
  obtain ⟨i, K', v', h0, h1⟩ := h.st
  exact ⟨h.c, ⟨i, K', v', h0, h1.own hE hw hM⟩, mks_own h.mks hE hbs, Nat.le_trans h.sz hE.size⟩
theorem NtX.put {l : Nat} {o o' : Obj} (h : NtX w n f a wB cB low mB bs u k ln L Y c X) (hw : w.heap.size ≤ l) (hM : a.M ≠ l) (hbs : ∀ b ∈ bs, b ≠ l) (ho : X.heap[l]? = some o) (hc : o.isCells = false) : NtX w n f a wB cB low mB bs u k ln L Y c (X.putObj l o') := by
  obtain ⟨i, K', v', h0, h1⟩ := h.st
  exact ⟨h.c, ⟨i, K', v', h0, h1.put hw hM ho hc⟩, mks_put h.mks hbs, by simpa using h.sz⟩
end
theorem NtS.setK (h : NtS w n f a wB cB low u k ln v X) (l : NtL w a wB cB low) (k' : Nat) : NtS w n f a wB cB low u k' ln v (X.setCell ⟨w.heap.size, 0, none⟩ (.int .i64 (k' : Int))) := by
  obtain ⟨tab, ht⟩ := h.at_
  have lm := l.m; have lo := l.o; have lb := l.b
  exact ⟨set_field h.kb _, set_else h.lb (by omega), set_else h.wb (by omega), set_else h.cb (by omega), own_row_kept h.row fun g cur hg hc => set_else hc (by have := h.rge g hg; omega), h.rge, ⟨tab, ht.keep fun k o hk ho => set_else ho (by rcases hk with rfl | rfl | rfl | rfl | rfl <;> omega)⟩, h.bel.setCell (p := ⟨w.heap.size, 0, none⟩) (Nat.le_refl _) _⟩
theorem NtS.setC (h : NtS w n f a wB cB low u k ln v X) (l : NtL w a wB cB low) (u' : Nat) : NtS w n f a wB cB low u' k ln v (X.setCell ⟨cB, 0, none⟩ (.int .u16 (u' : Int))) := by
  obtain ⟨tab, ht⟩ := h.at_
  have lm := l.m; have lo := l.o; have lb := l.b
  exact ⟨set_else h.kb (by omega), set_else h.lb (by omega), set_else h.wb (by omega), set_field h.cb _, own_row_kept h.row fun g cur hg hc => set_else hc (by have := h.rge g hg; omega), h.rge, ⟨tab, ht.keep fun k o hk ho => set_else ho (by rcases hk with rfl | rfl | rfl | rfl | rfl <;> omega)⟩, h.bel.setCell (p := ⟨cB, 0, none⟩) (by show w.heap.size ≤ cB; omega) _⟩
/-- The line has grown: the box of line is stored behind. -/
theorem NtS.setL {v' : Value} {ln' : List Nat} {Z : World} (h : NtS w n f a wB cB low u k ln v X) (l : NtL w a wB cB low) (hk : ∀ (j : Nat) (o : Obj), v.ownBlock ≠ some j → X.heap[j]? = some o → Z.heap[j]? = some o) (hr : Z.ownsRow w.heap.size 3 1 v' ln'.length (elV ln')) (hg : ∀ g, v'.ownBlock = some g → low ≤ g) (hb : Below w.heap.size w Z) : NtS w n f a wB cB low u k ln' v' (Z.setCell ⟨w.heap.size + 1, 0, none⟩ v') := by
  obtain ⟨tab, ht⟩ := h.at_
  have lm := l.m; have lo := l.o; have lb := l.b
  have hz : ∀ (j : Nat) (o : Obj), j < low → X.heap[j]? = some o → Z.heap[j]? = some o := fun j o hj ho => hk j o (fun e => by have := h.rge _ e; omega) ho
  exact ⟨set_else (hz _ _ (by omega) h.kb) (by omega), set_field (hz _ _ (by omega) h.lb) _, set_else (hz _ _ (by omega) h.wb) (by omega), set_else (hz _ _ (by omega) h.cb) (by omega), own_row_kept hr fun g cur hg' hc => set_else hc (by have := hg g hg'; omega), hg, ⟨tab, ht.keep fun k o hk ho => set_else (hz _ _ (by rcases hk with rfl | rfl | rfl | rfl | rfl <;> omega) ho) (by rcases hk with rfl | rfl | rfl | rfl | rfl <;> omega)⟩, hb.setCell (p := ⟨w.heap.size + 1, 0, none⟩) (by show w.heap.size ≤ w.heap.size + 1; omega) _⟩
end
set_option maxHeartbeats 32000000 in
theorem c_nth (g n : Nat) (f : Nat → Nat) (hn : n ≤ 12) (hf : ∀ j, f j < 2 ^ 12) (x : Int) (w : World) (h : Blk w g n f) :
    Calls Try.prog 64 #[.slice (some ⟨g, 0, none⟩) n n, .int .i64 x] w (NtTo w n f x) := by
  have H := Lib.hid h
  obtain ⟨W1, hW1⟩ : ∃ W, W = w.alloc (.cells #[.int .i64 x] 3) := ⟨_, rfl⟩
  obtain ⟨W, hW⟩ : ∃ W, W = W1.alloc (.cells #[.slice none 0 0] 33) := ⟨_, rfl⟩
  have b1 : Below w.heap.size w W1 := by rw [hW1]; exact (Below.refl _ _).alloc (Nat.le_refl _) _
  have z1 : W1.heap.size = w.heap.size + 1 := by rw [hW1, World.size_alloc]
  have HB := Lib.hid (show Below w.heap.size w W by rw [hW]; exact b1.alloc b1.size _)
  have HK := Lib.hid (show W.heap[w.heap.size]? = some (.cells #[.int .i64 x] 3 (0, 0)) by rw [hW]; refine old_heap _ ?_; rw [hW1]; exact heap_alloc_new _ _)
  have HL := Lib.hid (show W.heap[w.heap.size + 1]? = some (.cells #[.slice none 0 0] 33 (0, 0)) by rw [hW, ← z1]; exact heap_alloc_new _ _)
  have zW : W.heap.size = w.heap.size + 2 := by rw [hW, World.size_alloc, z1]
  have HCW := Lib.hid (c_ways g n f hn W (H.out.on HB.out (Nat.le_refl _)))
  have hgw := at_lt h
  clear h b1 z1
  refine (callsIn_wide (n := 8)).1 ?_
  refine callsIn_of_wp_marks Try.func64 rfl trivial ?_ rfl
  simp only [Try.ntmps64, List.size_toArray, List.length_cons, List.length_nil, Nat.reduceAdd, Nat.reduceSub, Array.replicate_succ, Array.replicate_zero, List.push_toArray, List.append_toArray, List.nil_append, List.cons_append]
  rw [wpIn_wide]
  go_wp2_with (fail)
  rw [← hW1, ← hW]
  clear hW hW1
  go_at_call 62
  refine HCW.out.mono ?_
  rintro e v1 ⟨a, rfl, ha, hM, hat, b1⟩
  unfold WyA.fn
  obtain ⟨V1, q1⟩ : ∃ X, X = v1.alloc (.cells #[a.fn] 81) := ⟨_, rfl⟩
  obtain ⟨V, q2⟩ : ∃ X, X = V1.alloc (.cells #[.int .u16 0] 72) := ⟨_, rfl⟩
  have zV1 : V1.heap.size = v1.heap.size + 1 := by rw [q1, World.size_alloc]
  have zV : V.heap.size = v1.heap.size + 2 := by rw [q2, World.size_alloc, zV1]
  have bV1 : Below v1.heap.size v1 V1 := by rw [q1]; exact (Below.refl _ _).alloc (Nat.le_refl _) _
  have bV : Below v1.heap.size v1 V := by rw [q2]; exact bV1.alloc bV1.size _
  have hzv := b1.size
  have kpV : ∀ (k : Nat) (o : Obj), W.heap[k]? = some o → V.heap[k]? = some o := fun k o ho => (bV.block _ (by have := at_lt ho; omega)).trans ((b1.block _ (at_lt ho)).trans ho)
  have HKV := Lib.hid (kpV _ _ HK.out)
  have HLV := Lib.hid (kpV _ _ HL.out)
  have HWB := Lib.hid (show V.heap[v1.heap.size]? = some (.cells #[a.fn] 81 (0, 0)) by rw [q2]; refine old_heap _ ?_; rw [q1]; exact heap_alloc_new _ _)
  have HCB := Lib.hid (show V.heap[v1.heap.size + 1]? = some (.cells #[.int .u16 0] 72 (0, 0)) by rw [q2, ← zV1]; exact heap_alloc_new _ _)
  have HAV := Lib.hid (hat.on bV (Nat.le_refl _))
  have HBV := Lib.hid (show Below w.heap.size w V from (HB.out.trans (b1.mono (by omega))).trans (bV.mono (by omega)))
  have HNL := Lib.hid (show NtL w a v1.heap.size (v1.heap.size + 1) (v1.heap.size + 2) from ⟨⟨by omega, by omega, by omega, by omega, by omega⟩, ⟨hat.map.lt, at_lt hat.known, at_lt hat.ord, at_lt hat.clo⟩, rfl, rfl⟩)
  have hp12 := pow12 hn
  have hMv := hat.map.lt
  go_wp2_with (fail)
  rw [show (.cells #[.func (.func 81) #[] #[.pointer (some ⟨a.kb, 0, none⟩), .pointer (some ⟨a.bb, 0, none⟩), .pointer (some ⟨a.cb, 0, none⟩)]] 81 : Obj) = .cells #[a.fn] 81 from rfl, ← q1, ← q2]
  clear q1 q2 bV1 bV hat b1 zV1 hM kpV
  have hfm : Try.prog.follows Departure.mixedOrders = true := by kernel_rfl
  have y0 := cell_of HKV.out (o := 0) rfl
  have y1 := cell_of HWB.out (o := 0) rfl
  have y2 := cell_of HCB.out (o := 0) rfl
  unfold WyA.fn at y1
  have hE0 : ∀ X : World, Below w.heap.size w X → (hb : X.heap[w.heap.size + 1]? = some (.cells #[.slice none 0 0] 33 (0, 0))) → ¬ (0 ≤ x ∧ x < ((wys n f 0 : Nat) : Int)) → NtTo w n f x (.returned (.tuple #[.slice none 0 0, .bool false])) X := fun X hb _ hn => ⟨.inr ⟨hn, rfl⟩, hb⟩
  have HE0 := Lib.hid hE0
  clear hE0
  rcases hx0 : decide (x < 0) with _ | _
  rotate_left
  · have hx0' := of_decide_eq_true hx0
    refine wp_only ?_
    go_region
    refine only_intro ?_
    have l0 := cell_of HLV.out (o := 0) rfl
    have l1 := frz HLV.out 0
    go_wp2_with (fail)
    refine leaves_marks (by simp) [] _ (Mks.nil 0 _) fun W' hW' => ?_
    have c0 : W'.cell? ⟨w.heap.size + 1, 0, none⟩ = some (.slice none 0 0) := cell_of (hW'.same _ _ (by simp) (set_field HLV.out _)) rfl
    refine ⟨.tuple #[.slice none 0 0, .bool false], by simp [results, Try.results64, go_sem, c0], ⟨.inr ⟨fun h => by omega, rfl⟩, ?_⟩⟩
    first
      | exact hW'.below (fun b hb => by cases hb) ((HBV.out.setCell (p := ⟨w.heap.size + 1, 0, none⟩) (by show w.heap.size ≤ w.heap.size + 1; omega) _).drew) (Nat.le_refl _)
      | exact hW'.below (fun b hb => by cases hb) (HBV.out.drew.setCell (p := ⟨w.heap.size + 1, 0, none⟩) (by show w.heap.size ≤ w.heap.size + 1; omega) _) (Nat.le_refl _)
  have hx0' := of_decide_eq_false hx0
  obtain ⟨kx, rfl⟩ : ∃ kx : Nat, x = kx := ⟨x.toNat, by omega⟩
  have HCC := Lib.hid (c_ways1 a n f hn hf _ 0 _ V.drew (Nat.two_pow_pos _) rfl (HAV.out.on (Below.refl _ _).drew (Nat.le_refl _)))
  refine wp_only ?_
  refine region_zs (fun _ => false) (S := fun X => X.cell? ⟨w.heap.size, 0, none⟩ = some (.int .i64 (kx : Int)) ∧ X.cell? ⟨v1.heap.size, 0, none⟩ = some (.func (.func 81) #[] #[.pointer (some ⟨a.kb, 0, none⟩), .pointer (some ⟨a.bb, 0, none⟩), .pointer (some ⟨a.cb, 0, none⟩)]) ∧ X.cell? ⟨v1.heap.size + 1, 0, none⟩ = some (.int .u16 0)) hfm ⟨y0, y1, y2⟩ (fun hHeld => ?_)
  refine takeZs 0 (some 12) (by kernel_rfl) rfl rfl rfl (by kernel_rfl) (by kernel_rfl) (by kernel_rfl) (by kernel_rfl) (fun _ _ _ h => h) (by rfl) (by intro w ⟨g1, g2, g3⟩; go_simp; try with_reducible rfl) hHeld ?_
  simp only [Act.put, List.setIfInBounds_toArray, List.set_cons_zero, List.set_cons_succ]
  refine takeZs 1 (some 13) (by kernel_rfl) rfl rfl rfl (by kernel_rfl) (by kernel_rfl) (by kernel_rfl) (by kernel_rfl) (fun _ _ _ h => h) (by rfl) (by intro w ⟨g1, g2, g3⟩; go_simp; try with_reducible rfl) hHeld ?_
  simp only [Act.put, List.setIfInBounds_toArray, List.set_cons_zero, List.set_cons_succ]
  refine takeZs 2 (some 14) (by kernel_rfl) rfl rfl rfl (by kernel_rfl) (by kernel_rfl) (by kernel_rfl) (by kernel_rfl) (fun _ _ _ h => h) (by rfl) (by intro w ⟨g1, g2, g3⟩; go_simp; try with_reducible rfl) hHeld ?_
  simp only [Act.put, List.setIfInBounds_toArray, List.set_cons_zero, List.set_cons_succ]
  refine takeZs 3 (some 15) (by kernel_rfl) rfl rfl rfl (by kernel_rfl) (by kernel_rfl) (by kernel_rfl) (by kernel_rfl) (fun _ _ _ h => h) (by rfl) (by intro w ⟨g1, g2, g3⟩; go_simp; try with_reducible rfl) hHeld ?_
  simp only [Act.put, List.setIfInBounds_toArray, List.set_cons_zero, List.set_cons_succ]
  refine takeZs 4 (some 16) (by kernel_rfl) rfl rfl rfl (by kernel_rfl) (by kernel_rfl) (by kernel_rfl) (by kernel_rfl) (fun _ _ _ h => h) (by rfl) (by intro w ⟨g1, g2, g3⟩; go_simp; try with_reducible rfl) hHeld ?_
  simp only [Act.put, List.setIfInBounds_toArray, List.set_cons_zero, List.set_cons_succ]
  refine takeZs 5 (some 17) (by kernel_rfl) rfl rfl rfl (by kernel_rfl) (by kernel_rfl) (by kernel_rfl) (by kernel_rfl) (fun _ _ _ h => h) (by rfl) (by intro w ⟨g1, g2, g3⟩; go_simp; try with_reducible rfl) hHeld ?_
  simp only [Act.put, List.setIfInBounds_toArray, List.set_cons_zero, List.set_cons_succ]
  refine oneZs 6 rfl (by kernel_rfl) (fun K hK => ?_)
  go_simp
  go_at_call 81
  refine HCC.out.mono ?_
  rintro e v2 ⟨he, new, hat2, -, hb2⟩
  obtain ⟨w0, hw0⟩ : ∃ w0, wys n f 0 = w0 := ⟨_, rfl⟩
  have HW0 := Lib.hid hw0
  rw [hw0] at he
  subst he
  have hS0 : NtS w n f a v1.heap.size (v1.heap.size + 1) (v1.heap.size + 2) 0 kx [] (.slice none 0 0) V := ⟨HKV.out, HLV.out, HWB.out, HCB.out, World.ownsRow_nil _ _ _ _, (fun g hg => by cases hg), ⟨_, HAV.out⟩, HBV.out⟩
  have HS2 := Lib.hid (hS0.but ((But.drew (b := a.M)).trans hb2) hat2 (by have := HNL.out.m; omega))
  have q0 := cell_of HS2.out.kb (o := 0) rfl
  have q1 := cell_of HS2.out.wb (o := 0) rfl
  have q2 := cell_of HS2.out.cb (o := 0) rfl
  unfold WyA.fn at q1
  have hH2 : (fun X : World => X.cell? ⟨w.heap.size, 0, none⟩ = some (.int .i64 (kx : Int)) ∧ X.cell? ⟨v1.heap.size, 0, none⟩ = some (.func (.func 81) #[] #[.pointer (some ⟨a.kb, 0, none⟩), .pointer (some ⟨a.bb, 0, none⟩), .pointer (some ⟨a.cb, 0, none⟩)]) ∧ X.cell? ⟨v1.heap.size + 1, 0, none⟩ = some (.int .u16 0)) v2 := ⟨q0, q1, q2⟩
  refine hK.out _ _ (.inr hH2) ?_
  clear hK K hHeld hS0 hat2 hb2 hw0 y0 y1 y2
  try simp only [Act.put, List.setIfInBounds_toArray, List.set_cons_zero, List.set_cons_succ]
  refine takeZs 7 (some 19) (by kernel_rfl) rfl rfl rfl (by kernel_rfl) (by kernel_rfl) (by kernel_rfl) (by kernel_rfl) (fun _ _ _ h => h) (by rfl) (by intro w ⟨g1, g2, g3⟩; go_simp; try with_reducible rfl) hH2 ?_
  simp only [Act.put, List.setIfInBounds_toArray, List.set_cons_zero, List.set_cons_succ]
  refine takeZs 8 (some 20) (by kernel_rfl) rfl rfl rfl (by kernel_rfl) (by kernel_rfl) (by kernel_rfl) (by kernel_rfl) (fun _ _ _ h => h) (by rfl) (by intro w ⟨g1, g2, g3⟩; go_simp; try with_reducible rfl) hH2 ?_
  simp only [Act.put, List.setIfInBounds_toArray, List.set_cons_zero, List.set_cons_succ]
  refine doneZs (by kernel_rfl) ?_ _
  refine only_intro ?_
  clear hH2 q1 q2
  rcases hge : decide ((w0 : Int) ≤ (kx : Int)) with _ | _
  rotate_left
  · have hge' := of_decide_eq_true hge
    have l0 := cell_of HS2.out.lb (o := 0) rfl
    have l1 := frz HS2.out.lb 0
    go_wp2_with (fail)
    refine leaves_marks (by simp) [] _ (Mks.nil 0 _) fun W' hW' => ?_
    have c0 : W'.cell? ⟨w.heap.size + 1, 0, none⟩ = some (.slice none 0 0) := cell_of (hW'.same _ _ (by simp) (set_field HS2.out.lb _)) rfl
    refine ⟨.tuple #[.slice none 0 0, .bool false], by simp [results, Try.results64, go_sem, c0], ⟨.inr ⟨fun h => by have := HW0.out; omega, rfl⟩, ?_⟩⟩
    exact hW'.below (fun b hb => by cases hb) (HS2.out.bel.setCell (p := ⟨w.heap.size + 1, 0, none⟩) (by show w.heap.size ≤ w.heap.size + 1; omega) _) (Nat.le_refl _)
  have hge' := of_decide_eq_false hge
  clear q0
  go_wp2_with (fail)
  have HAG := Lib.hid ha
  have hv2s : v1.heap.size + 2 ≤ v2.heap.size := by have := at_lt HS2.out.cb; omega
  clear ha
  refine wp_loop (fun a' wr => ∃ (u8 u9 u24 u25 u26 u27 u28 u29 u30 u31 u32 u33 u34 u35 u36 u37 u38 u39 u40 u41 u42 u43 u44 u45 u46 u47 u48 u23 : Value) (ds : List Deferred), (∃ (j u kk : Nat) (ln : List Nat) (v : Value), j ≤ n ∧ u23 = .int .i64 (j : Int) ∧ u < 2 ^ n ∧ free n u = n - j ∧ kk < wys n f u ∧ Hid (nthL n f n 0 kx = ln ++ nthL n f (n - j) u kk) ∧ Hid (NtS w n f a v1.heap.size (v1.heap.size + 1) (v1.heap.size + 2) u kk ln v wr) ∧ v1.heap.size + 1 < wr.heap.size ∧ Hid (ln.length = j) ∧ ∃ bs, ds = marks bs ∧ Hid (Mks (v1.heap.size + 2) bs wr)) ∧ a' = { tmps := #[.slice (some ⟨g, 0, none⟩) n n, .int .i64 (kx : Int), undef, .pointer (some ⟨w.heap.size, 0, none⟩), .pointer (some ⟨w.heap.size + 1, 0, none⟩), .bool false, .pointer (some ⟨v1.heap.size, 0, none⟩), .pointer (some ⟨v1.heap.size + 1, 0, none⟩), u8, u9, .slice (some ⟨g, 0, none⟩) n n, .func (.func 81) #[] #[.pointer (some ⟨a.kb, 0, none⟩), .pointer (some ⟨a.bb, 0, none⟩), .pointer (some ⟨a.cb, 0, none⟩)], .int .i64 (kx : Int), .bool false, .bool false, .int .i64 (kx : Int), .func (.func 81) #[] #[.pointer (some ⟨a.kb, 0, none⟩), .pointer (some ⟨a.bb, 0, none⟩), .pointer (some ⟨a.cb, 0, none⟩)], .int .u16 0, .int .i64 (w0 : Int), .bool false, .bool false, .slice (some ⟨g, 0, none⟩) n n, .int .i64 (n : Int), u23, u24, u25, u26, u27, u28, u29, u30, u31, u32, u33, u34, u35, u36, u37, u38, u39, u40, u41, u42, u43, u44, u45, u46, u47, u48, undef], defers := ds }) (fun a' _ => n - (intOf (a'.tmps.getD 23 undef)).toNat) ?atStart ?round
  case atStart =>
    (repeat apply Exists.intro)
    refine ⟨?rel0, rfl⟩
    exact ⟨0, 0, kx, [], .slice none 0 0, Nat.zero_le _, rfl, Nat.two_pow_pos n, by rw [free_none]; rfl, by rw [HW0.out]; omega, Lib.hid rfl, HS2, by omega, Lib.hid rfl, [], rfl, Lib.hid (Mks.nil _ _)⟩
  case round =>
    rintro _ wr ⟨u8, u9, u24, u25, u26, u27, u28, u29, u30, u31, u32, u33, u34, u35, u36, u37, u38, u39, u40, u41, u42, u43, u44, u45, u46, u47, u48, u23, ds, ⟨j, u, kk, ln, v, hj, rfl, hu, hfr, hkk, hQ, hS, hvw, hll, bs, rfl, hM⟩, rfl⟩
    have hti : ((j : Nat) : Int).toNat = j := by omega
    obtain ⟨As, cs, rfl⟩ := own_shape hS.out.row
    by_cases hlt : j < n
    · have htl : (j : Int) < (n : Int) := by omega
      have hu12 : u < 2 ^ 12 := by omega
      have hne : u ≠ 2 ^ n - 1 := fun e => by rw [e, free_all] at hfr; omega
      obtain ⟨i0, k0, hpk, him, hk0⟩ := nth_next hu hne hkk
      have HPK := Lib.hid hpk
      have hnx := nthL_next (r := n - j - 1) hpk
      rw [show n - j - 1 + 1 = n - j by omega] at hnx
      have HQ2 := Lib.hid (show nthL n f n 0 kx = (ln ++ [i0]) ++ nthL n f (n - (j + 1)) (u ||| 1 <<< i0) k0 by rw [hQ.out, hnx, List.append_assoc, show n - j - 1 = n - (j + 1) by omega]; rfl)
      obtain ⟨tab, hat⟩ := hS.out.at_
      have HAT := Lib.hid hat
      have y0 := cell_of hS.out.cb (o := 0) rfl
      have HLE := Lib.hid (lst_en (b := f) (s := u) hn)
      have hsb : setB (enB f u) n < 2 ^ 12 := Nat.lt_of_lt_of_le (setB_lt _ _) (Nat.pow_le_pow_right (by omega) hn)
      have hMw := hat.map.lt
      clear hat hpk hnx
      go_wp2_with (fail)
      clear y0
      go_at_call 59
      refine (c_enabled g n f hn hf u hu12 wr (by have := HAT.out.blk; rwa [HAG.out] at this)).mono ?_
      rintro e v3 ⟨rfl, hv3⟩
      rw [hv3]
      clear hv3 v3
      obtain ⟨s, hs⟩ : ∃ t, setB (enB f u) n = t := ⟨_, rfl⟩
      rw [hs] at HLE hsb ⊢
      have HSQ := Lib.hid (c_each 7 (by omega) (fun _ => False) s hsb wr)
      rw [HLE.out] at HSQ
      have HEI := Lib.hid (fun (i : Nat) (hi : i ∈ enL n f u) => (show i < n ∧ u.testBit i = false from by
        have h1 := enL_mem.1 hi
        refine ⟨h1.1, ?_⟩
        have := h1.2; unfold enB at this; simp at this; exact this.1))
      obtain ⟨L, hL⟩ : ∃ L, enL n f u = L := ⟨_, rfl⟩
      have HPK2 := HPK
      rw [hL] at HSQ HEI HPK2 him
      have hws := hS.out.bel.size
      clear hs hL
      go_wp2_with (fail)
      refine (wpIn_wide (n := 8)).1 ?_
      refine wpIn_it (n := 8) (by omega) (gf := 77) (fb := #[.int .u16 (s : Int)]) (lb := #[]) rfl eg_each (m := 0) (Gd := fun _ => False) (ok := okE) (ts := L) (w0 := wr) HSQ.out (KpG.refl _) (fun v t h => by rw [h]; rfl)
        (fun pre X => NtI w n f a v1.heap.size (v1.heap.size + 1) (v1.heap.size + 2) (v1.heap.size + 2) bs u kk ln (.slice As ln.length cs) L wr pre X) (fun c _ X => NtX w n f a v1.heap.size (v1.heap.size + 1) (v1.heap.size + 2) (v1.heap.size + 2) bs u kk ln L wr c X)
        (fun pre X Y h hE => h.own hE (by omega) (by omega) (fun b hb => by have := hM.out.lt hb; omega)) (fun c pre X Y h hE => h.own hE (by omega) (by omega) (fun b hb => by have := hM.out.lt hb; omega))
        (fun pre X l o o' h hl ho hc => h.put (by omega) (by omega) (fun b hb => by have := hM.out.lt hb; omega) ho hc) (fun c pre X l o o' h hl ho hc => h.put (by omega) (by omega) (fun b hb => by have := hM.out.lt hb; omega) ho hc)
        ⟨⟨kk, hS.out, by rw [List.length_nil, List.drop_zero], Nat.le_refl _⟩, hM.out, Nat.le_refl _⟩ ?iround ?idone ?istop
      case iround =>
        intro l pre v5 i X K hpre hok hKK
        obtain rfl : v5 = #[.int .i64 (i : Int)] := hok
        gi_wp2_with (fail)
        refine hKK _ _ (Below.refl _ _) ?_
        rintro Z ⟨o, o', ho', hoc, hYe⟩ hsz hI
        have hie := hpre.subset (show i ∈ pre ++ [i] by simp)
        obtain ⟨hin, hnb⟩ := HEI.out i hie
        obtain ⟨K', hs0, hp0, hk0'⟩ := hI.st
        obtain ⟨tl, htl2⟩ := hpre
        have hs2 := put_lt hu hin
        have HWF := Lib.hid (show ∀ ws : Nat, wys n f (u ||| 1 <<< i) = ws → pickN (wF n f u) L kk = if K' < ws then some (i, K') else pickN (wF n f u) (L.drop (pre ++ [i]).length) (K' - ws) from fun ws hws => by
          rw [hp0, ← htl2, show (pre ++ [i] ++ tl).drop (pre ++ [i]).length = tl by simp, show (pre ++ [i] ++ tl).drop pre.length = i :: tl by simp, pick_cons, show wF n f u i = ws from hws])
        have hwb := wys_12 (n := n) (b := f) hn (u ||| 1 <<< i)
        have hkb := wys_12 (n := n) (b := f) hn u
        have HS := Lib.hid hs0
        have HI := Lib.hid hI
        have HMK := Lib.hid hI.mks
        have hZs := hI.sz
        obtain ⟨tab2, hat2⟩ := hs0.at_
        have HAT2 := Lib.hid hat2
        have HROW := Lib.hid hs0.row
        have hlow := hs0.rge
        have HRGE := Lib.hid hlow
        obtain ⟨u2, hu2e⟩ : ∃ t, u ||| 1 <<< i = t := ⟨_, rfl⟩
        have HU2 := Lib.hid hu2e
        rw [hu2e] at hs2 hwb
        obtain ⟨ws, hws⟩ : ∃ t, wys n f u2 = t := ⟨_, rfl⟩
        have HWS := Lib.hid hws
        rw [hu2e] at HWF
        have HPP := Lib.hid (HWF.out ws hws)
        rw [hws] at hwb
        have HCW2 := Lib.hid (fun (X : World) (hX : WyAt n f a tab2 X) => c_ways1 a n f hn hf _ u2 tab2 X hs2 rfl hX)
        have HCO := Lib.hid (fun (X : World) => c_with u i (by omega) (by omega) X)
        rw [hu2e] at HCO
        have z1 := cell_of hs0.wb (o := 0) rfl
        have z2 := cell_of hs0.cb (o := 0) rfl
        unfold WyA.fn at z1
        clear hYe ho' hoc o o' hKK hI hs0 hp0 htl2 tl hat2 hu2e hws hie hlow HWF
        gi_wp2_with (fail)
        refine region_round_zs (fun _ => false) (S := fun X => X.cell? ⟨v1.heap.size, 0, none⟩ = some (.func (.func 81) #[] #[.pointer (some ⟨a.kb, 0, none⟩), .pointer (some ⟨a.bb, 0, none⟩), .pointer (some ⟨a.cb, 0, none⟩)]) ∧ X.cell? ⟨v1.heap.size + 1, 0, none⟩ = some (.int .u16 (u : Int))) hfm (by kernel_rfl) ⟨z1, z2⟩ (fun hHeld => ?_)
        refine takeZs 0 (some 30) (by kernel_rfl) rfl rfl rfl (by kernel_rfl) (by kernel_rfl) (by kernel_rfl) (by kernel_rfl) (fun _ _ _ h => h) (by rfl) (by intro w ⟨g1, g2⟩; go_simp; try with_reducible rfl) hHeld ?_
        simp only [Act.put, List.setIfInBounds_toArray, List.set_cons_zero, List.set_cons_succ]
        refine takeZs 1 (some 31) (by kernel_rfl) rfl rfl rfl (by kernel_rfl) (by kernel_rfl) (by kernel_rfl) (by kernel_rfl) (fun _ _ _ h => h) (by rfl) (by intro w ⟨g1, g2⟩; go_simp; try with_reducible rfl) hHeld ?_
        simp only [Act.put, List.setIfInBounds_toArray, List.set_cons_zero, List.set_cons_succ]
        refine takeZs 2 (some 32) (by kernel_rfl) rfl rfl rfl (by kernel_rfl) (by kernel_rfl) (by kernel_rfl) (by kernel_rfl) (fun _ _ _ h => h) (by rfl) (by intro w ⟨g1, g2⟩; go_simp; try with_reducible rfl) hHeld ?_
        simp only [Act.put, List.setIfInBounds_toArray, List.set_cons_zero, List.set_cons_succ]
        refine oneZs 3 rfl (by kernel_rfl) (fun K hK => ?_)
        go_simp
        go_at_call 80
        refine (HCO.out Z.drew).mono ?_
        rintro e wa ⟨rfl, hwa⟩
        rw [hwa]
        clear hwa wa
        refine hK.out _ _ (.inr hHeld) ?_
        clear hK K
        try simp only [Act.put, List.setIfInBounds_toArray, List.set_cons_zero, List.set_cons_succ]
        refine oneZs 4 rfl (by kernel_rfl) (fun K hK => ?_)
        go_simp
        go_at_call 81
        refine (HCW2.out Z.drew (HAT2.out.on (Below.refl _ _).drew (Nat.le_refl _))).mono ?_
        rintro e v4 ⟨he, new2, hat4, -, hb4⟩
        rw [HWS.out] at he
        subst he
        have hb4' : But a.M Z v4 := (But.drew (b := a.M)).trans hb4
        have HB4 := Lib.hid hb4'
        have hM0 : w.heap.size ≤ a.M := by have := HNL.out.m; omega
        have HS4 := Lib.hid (HS.out.but hb4' hat4 hM0)
        have hZ4 := hb4'.size
        have HMK4 := Lib.hid (show Mks (v1.heap.size + 2) bs v4 from ⟨HMK.out.nodup, fun b hb => ⟨(HMK.out.at_ b hb).1, hb4'.same _ _ (by have := (HMK.out.at_ b hb).1; omega) (HMK.out.at_ b hb).2⟩⟩)
        have q1 := cell_of HS4.out.wb (o := 0) rfl
        have q2 := cell_of HS4.out.cb (o := 0) rfl
        unfold WyA.fn at q1
        have hH2 : (fun X : World => X.cell? ⟨v1.heap.size, 0, none⟩ = some (.func (.func 81) #[] #[.pointer (some ⟨a.kb, 0, none⟩), .pointer (some ⟨a.bb, 0, none⟩), .pointer (some ⟨a.cb, 0, none⟩)]) ∧ X.cell? ⟨v1.heap.size + 1, 0, none⟩ = some (.int .u16 (u : Int))) v4 := ⟨q1, q2⟩
        refine hK.out _ _ (.inr hH2) ?_
        clear hK K hHeld hat4 hb4 hb4' z1 z2
        try simp only [Act.put, List.setIfInBounds_toArray, List.set_cons_zero, List.set_cons_succ]
        refine takeZs 5 (some 9) (by kernel_rfl) rfl rfl rfl (by kernel_rfl) (by kernel_rfl) (by kernel_rfl) (by kernel_rfl) (fun _ _ _ h => h) (by rfl) (by intro w ⟨g1, g2⟩; go_simp; try with_reducible rfl) hH2 ?_
        simp only [Act.put, List.setIfInBounds_toArray, List.set_cons_zero, List.set_cons_succ]
        refine doneZs (by kernel_rfl) ?_ _
        rw [noOut_normal]
        clear hH2 q1 q2
        have q0 := cell_of HS4.out.kb (o := 0) rfl
        have hkw : IntKind.i64.wrap ((K' : Int) - (ws : Int)) = (K' : Int) - (ws : Int) := wrap_in (by omega) (by omega)
        rcases hlt3 : decide ((K' : Int) < (ws : Int)) with _ | _
        · have hlt3' := of_decide_eq_false hlt3
          have hPN : pickN (wF n f u) L kk = pickN (wF n f u) (L.drop (pre ++ [i]).length) (K' - ws) := by rw [HPP.out, if_neg (by omega)]
          have HPN := Lib.hid hPN
          have qf := frz HS4.out.kb 0
          have HFIN := Lib.hid (show ∀ v : Int, v = (K' : Int) - (ws : Int) → KeepsFrom wr.heap.size Z (v4.setCell ⟨w.heap.size, 0, none⟩ (.int .i64 v)) ∧ KpIt (wr.heap.size + 2) 0 (fun _ => False) Z (v4.setCell ⟨w.heap.size, 0, none⟩ (.int .i64 v)) ∧ NtI w n f a v1.heap.size (v1.heap.size + 1) (v1.heap.size + 2) (v1.heap.size + 2) bs u kk ln (.slice As ln.length cs) L wr (pre ++ [i]) (v4.setCell ⟨w.heap.size, 0, none⟩ (.int .i64 v)) from fun v hv => by
            obtain rfl : v = ((K' - ws : Nat) : Int) := by omega
            have hk := kf_store (B := 0) (o := 0) (.int .i64 ((K' - ws : Nat) : Int)) HS4.out.kb
            have hot : ∀ (k : Nat) (o : Obj), k ≠ a.M → Z.heap[k]? = some o → o.isCells = false → (v4.setCell ⟨w.heap.size, 0, none⟩ (.int .i64 ((K' - ws : Nat) : Int))).heap[k]? = some o := fun k o h1 h2 h3 => hk.same k o (Nat.zero_le _) (HB4.out.same k o h1 h2) h3
            have hsz2 : Z.heap.size ≤ (v4.setCell ⟨w.heap.size, 0, none⟩ (.int .i64 ((K' - ws : Nat) : Int))).heap.size := Nat.le_trans HB4.out.size hk.size
            exact ⟨⟨hsz2, fun k o h1 h2 h3 => hot k o (by omega) h2 h3⟩, ⟨hsz2, fun k cs t fr h1 h2 => by rcases h1 with h1 | h1; exact h1.elim; omega, fun k o h1 h2 h3 => hot k o (by omega) h2 h3⟩, ⟨⟨K' - ws, HS4.out.setK HNL.out _, HPN.out, by omega⟩, HMK4.out.kept fun k o h1 h2 => hk.same k o (Nat.zero_le _) h1 h2, Nat.le_trans hZs hsz2⟩⟩)
          clear hPN
          gi_wp2_with (fail)
          exact HFIN.out _ rfl
        · have hlt3' := of_decide_eq_true hlt3
          have HPN := Lib.hid (show pickN (wF n f u) L kk = some (i, K') by rw [HPP.out, if_pos (by omega)])
          have y3 := cell_of HS4.out.lb (o := 0) rfl
          have y4 := cell_of HS4.out.cb (o := 0) rfl
          have hln12 : ln.length ≤ 12 := by rw [hll.out]; omega
          gi_wp2_with (fail)
          clear q0
          refine region_round_zs (fun i => i == 7 || i == 8) (S := fun X => X.cell? ⟨w.heap.size + 1, 0, none⟩ = some (.slice As ln.length cs) ∧ X.cell? ⟨v1.heap.size + 1, 0, none⟩ = some (.int .u16 (u : Int))) hfm (by kernel_rfl) ⟨y3, y4⟩ (fun hHeld => ?_)
          refine takeZs 0 (some 38) (by kernel_rfl) rfl rfl rfl (by kernel_rfl) (by kernel_rfl) (by kernel_rfl) (by kernel_rfl) (fun _ _ _ h => h) (by rfl) (by intro w ⟨g1, g2⟩; go_simp; try with_reducible rfl) hHeld ?_
          simp only [Act.put, List.setIfInBounds_toArray, List.set_cons_zero, List.set_cons_succ]
          refine takeZs 1 (some 39) (by kernel_rfl) rfl rfl rfl (by kernel_rfl) (by kernel_rfl) (by kernel_rfl) (by kernel_rfl) (fun _ _ _ h => h) (by rfl) (by intro w ⟨g1, g2⟩; go_simp; try with_reducible rfl) hHeld ?_
          simp only [Act.put, List.setIfInBounds_toArray, List.set_cons_zero, List.set_cons_succ]
          refine takeZs 4 (some 42) (by kernel_rfl) rfl rfl rfl (by kernel_rfl) (by kernel_rfl) (by kernel_rfl) (by kernel_rfl) (fun _ _ _ h => h) (by rfl) (by intro w ⟨g1, g2⟩; go_simp; try with_reducible rfl) hHeld ?_
          simp only [Act.put, List.setIfInBounds_toArray, List.set_cons_zero, List.set_cons_succ]
          refine takeZs 5 (some 43) (by kernel_rfl) rfl rfl rfl (by kernel_rfl) (by kernel_rfl) (by kernel_rfl) (by kernel_rfl) (fun _ _ _ h => h) (by rfl) (by intro w ⟨g1, g2⟩; go_simp; try with_reducible rfl) hHeld ?_
          simp only [Act.put, List.setIfInBounds_toArray, List.set_cons_zero, List.set_cons_succ]
          obtain ⟨X1, hX1⟩ : ∃ X, X = v4.alloc (.cells #[.int .i64 (i : Int)] 3) := ⟨_, rfl⟩
          have bX1 : Below v4.heap.size v4 X1 := by rw [hX1]; exact (Below.refl _ _).alloc (Nat.le_refl _) _
          have hz1 : X1.heap.size = v4.heap.size + 1 := by rw [hX1, World.size_alloc]
          have HN1 := Lib.hid (show X1.heap[v4.heap.size]? = some (.cells #[.int .i64 (i : Int)] 3 (0, 0)) by rw [hX1]; exact heap_alloc_new _ _)
          have HS5 := Lib.hid (HS4.out.on bX1 (Nat.le_refl _))
          refine oneZs 2 rfl (by kernel_rfl) (fun K hK => ?_)
          go_simp
          rw [← hX1]
          refine hK.out _ _ (.inr ⟨cell_of (w := X1.drew) HS5.out.lb rfl, cell_of (w := X1.drew) HS5.out.cb rfl⟩) ?_
          clear hK K hHeld y3 y4
          try simp only [Act.put, List.setIfInBounds_toArray, List.set_cons_zero, List.set_cons_succ]
          refine oneZs 3 rfl (by kernel_rfl) (fun K hK => ?_)
          obtain ⟨i1, hi1, hy1, hy2, hy3⟩ := info_parts int_info
          refine step_append_lies _ rfl (.tmp 38) (.tmp 40) 33 rfl w.heap.size 3 i1 (.int .i64 0) 1 8 Try.underlying33 hi1 hy1 hy2 hy3 rfl (by decide) (.slice As ln.length cs) ln.length (elV ln) (by simp [Act.eval, Act.put]) (show World.ownsRow X1.drew _ _ _ _ _ _ from HS5.out.row) ⟨v4.heap.size, 0, none⟩ 1 1 [.int .i64 (i : Int)] (by simp [Act.eval, Act.put]) rfl (show ∀ j u, _ → World.cell? X1.drew _ = _ from World.news_of_block (w := X1.drew) HN1.out) (by simp [Value.oneCell']) (by decide) (by unfold maxLen; omega) (by omega) (show w.heap.size ≤ X1.drew.heap.size from HS5.out.bel.size) (v4.heap.size + 1) (show X1.drew.heap.size = _ from hz1) ?_
          intro g4 cap4 Y4 hown hgrow0 hat hlt5
          have hgrow : X1.grownBy Y4 (Value.slice As ln.length cs).ownBlock := ⟨hgrow0.os, hgrow0.tape, hgrow0.output, hgrow0.size, hgrow0.block⟩
          clear hgrow0
          have hk4 : ∀ (j : Nat) (o : Obj), (Value.slice As ln.length cs).ownBlock ≠ some j → v4.heap[j]? = some o → Y4.heap[j]? = some o := fun j o hj ho => by
            have hl := at_lt ho
            rw [hgrow.block j (by omega) (fun e => hj e.symm), bX1.block _ hl]; exact ho
          have HG4 := Lib.hid (show ∀ g, (Value.slice (some ⟨g4, 0, none⟩) (ln.length + 1) cap4).ownBlock = some g → v1.heap.size + 2 ≤ g from fun g hg => by
            have hg2 : some g4 = some g := hg
            injection hg2 with hg2
            rcases hat with h | h
            · have := HRGE.out g4 h; omega
            · omega)
          have hbY : Below w.heap.size w Y4 := HS5.out.bel.grown hgrow (Nat.le_trans HS5.out.bel.size (Nat.le_refl _)) (fun q e => (ownsRow_lt HS5.out.row e).1)
          have HRW := Lib.hid (show Y4.ownsRow w.heap.size 3 1 (.slice (some ⟨g4, 0, none⟩) (ln.length + 1) cap4) (ln ++ [i]).length (elV (ln ++ [i])) by rw [List.length_append, elV_snoc]; exact hown)
          have HF1 := Lib.hid (HS4.out.setL HNL.out hk4 HRW.out HG4.out hbY)
          have HF2 := Lib.hid (HF1.out.setC HNL.out u2)
          have HC4 := Lib.hid (show ∀ (k : Nat) (o : Obj), v4.heap[k]? = some o → o.isCells = false → Y4.heap[k]? = some o from fun k o hk hc => hk4 k o (fun e => by
            obtain ⟨cs2, h2⟩ := own_cells HS4.out.row e
            rw [hk] at h2; cases h2; cases hc) hk)
          have hy5 : Y4.heap[w.heap.size + 1]? = some (.cells #[.slice As ln.length cs] 33 (0, 0)) := hk4 _ _ (fun e => by have h1 := HRGE.out _ e; have h2 := HNL.out.m; have h3 := HNL.out.o; omega) HS4.out.lb
          have hy6 : Y4.heap[v1.heap.size + 1]? = some (.cells #[.int .u16 (u : Int)] 72 (0, 0)) := hk4 _ _ (fun e => by have h1 := HRGE.out _ e; omega) HS4.out.cb
          have HLB := Lib.hid hy5
          have HCB2 := Lib.hid hy6
          have hsY := hgrow.size
          clear hown hgrow hat hk4 hbY HN1 hX1 bX1
          refine hK.out _ _ (.inr ⟨cell_of HLB.out rfl, cell_of HCB2.out rfl⟩) ?_
          clear hK K hy5 hy6
          try simp only [Act.put, List.setIfInBounds_toArray, List.set_cons_zero, List.set_cons_succ]
          refine oneZs 6 rfl (by kernel_rfl) (fun K hK => ?_)
          go_simp
          go_at_call 80
          refine (HCO.out Y4).mono ?_
          rintro e wa ⟨rfl, hwa⟩
          rw [hwa]
          clear hwa wa
          refine hK.out _ _ (.inr ⟨cell_of HLB.out rfl, cell_of HCB2.out rfl⟩) ?_
          clear hK K
          try simp only [Act.put, List.setIfInBounds_toArray, List.set_cons_zero, List.set_cons_succ]
          refine oneZs 7 rfl (by kernel_rfl) (fun K hK => ?_)
          have y5 := cell_of HLB.out (o := 0) rfl
          have y6 := frz HLB.out 0
          go_simp
          refine hK.out _ _ (.inl rfl) ?_
          clear hK K y5 y6
          try simp only [Act.put, List.setIfInBounds_toArray, List.set_cons_zero, List.set_cons_succ]
          refine oneZs 8 rfl (by kernel_rfl) (fun K hK => ?_)
          have HCB3 := Lib.hid (HF1.out.cb)
          have y5 := cell_of HCB3.out (o := 0) rfl
          have y6 := frz HCB3.out 0
          go_simp
          refine hK.out _ _ (.inl rfl) ?_
          clear hK K y5 y6
          refine doneZs (by kernel_rfl) ?_ _
          rw [noOut_normal]
          have hkA := kf_store (B := 0) (o := 0) (.slice (some ⟨g4, 0, none⟩) (ln.length + 1) cap4) HLB.out
          have hkB := kf_store (B := 0) (o := 0) (.int .u16 (u2 : Int)) HCB3.out
          have HOT := Lib.hid (show ∀ (k : Nat) (o : Obj), v4.heap[k]? = some o → o.isCells = false → ((Y4.setCell ⟨w.heap.size + 1, 0, none⟩ (.slice (some ⟨g4, 0, none⟩) (ln.length + 1) cap4)).setCell ⟨v1.heap.size + 1, 0, none⟩ (.int .u16 (u2 : Int))).heap[k]? = some o from fun k o h1 h2 => hkB.same k o (Nat.zero_le _) (hkA.same k o (Nat.zero_le _) (HC4.out k o h1 h2) h2) h2)
          have HSZ := Lib.hid (show Z.heap.size ≤ ((Y4.setCell ⟨w.heap.size + 1, 0, none⟩ (.slice (some ⟨g4, 0, none⟩) (ln.length + 1) cap4)).setCell ⟨v1.heap.size + 1, 0, none⟩ (.int .u16 (u2 : Int))).heap.size from by have h1 := hkA.size; have h2 := hkB.size; omega)
          clear hkA hkB
          gi_wp2_with (fail)
          exact ⟨⟨HSZ.out, fun k o h1 h2 h3 => HOT.out k o (HB4.out.same k o (by omega) h2) h3⟩, ⟨rfl, ⟨i, K', _, HPN.out, by rw [HU2.out]; exact HF2.out⟩, HMK4.out.kept HOT.out, Nat.le_trans hZs HSZ.out⟩⟩
      case idone =>
        rintro D X rfl hI hdef
        obtain ⟨K', h1, h2, h3⟩ := hI.st
        rw [HPK2.out, List.drop_length] at h2
        cases h2
      case istop =>
        rintro D c pre X rfl hpre hX hdef
        obtain ⟨i, K', v', h0, h1⟩ := hX.st
        have hcc := hX.c
        subst hcc
        rw [HPK2.out] at h0
        injection h0 with h0
        injection h0 with h01 h02
        subst h01 h02
        obtain ⟨hin, hnb⟩ := HEI.out i0 him
        have hu2 := put_lt hu hin
        have hfp := free_put hin hnb
        have HS9 := Lib.hid h1
        have HM9 := Lib.hid (show Mks (v1.heap.size + 2) (wr.heap.size :: bs) X from Mks.push hM.out hX.mks (Nat.le_refl _) (by omega) hdef)
        have hX9 := hX.sz
        have HK9 := Lib.hid hk0
        obtain ⟨u9, hu9⟩ : ∃ t, u ||| 1 <<< i0 = t := ⟨_, rfl⟩
        rw [hu9] at hu2 hfp HS9 HK9 HQ2
        clear h1 hX hdef hk0 HPK HPK2 hu9
        rw [wpIn_wide]
        go_wp2_with (fail)
        refine ⟨?q1, ?q2⟩
        case q1 =>
          (repeat apply Exists.intro)
          refine ⟨?rel1, rfl⟩
          exact ⟨j + 1, u9, k0, ln ++ [i0], v', by omega, by go_num, hu2, by omega, HK9.out, HQ2, HS9, by omega, Lib.hid (by rw [List.length_append, hll.out]; rfl), _, rfl, HM9⟩
        case q2 => simp [intOf]; omega
    · obtain rfl : j = n := by omega
      have hend : nthL j f j 0 kx = ln := by rw [hQ.out, Nat.sub_self]; simp [nthL]
      have HEND := Lib.hid hend
      have y0 := cell_of hS.out.lb (o := 0) rfl
      have y1 := frz hS.out.lb 0
      clear hend
      go_wp2_with (fail)
      have hkf := kf_store (B := 0) (o := 0) (.slice As ln.length cs) hS.out.lb
      have hMZ : Mks (v1.heap.size + 2) bs (wr.setCell ⟨w.heap.size + 1, 0, none⟩ (.slice As ln.length cs)) := hM.out.kept fun k o hk hc => hkf.same k o (Nat.zero_le _) hk hc
      refine leaves_marks (by simp) bs _ hMZ fun W' hW' => ?_
      have c0 : W'.cell? ⟨w.heap.size + 1, 0, none⟩ = some (.slice As ln.length cs) := cell_of (hW'.cells hMZ (set_field hS.out.lb (.slice As ln.length cs))) rfl
      have hrow : W'.ownsRow w.heap.size 3 1 (.slice As ln.length cs) ln.length (elV ln) := hW'.own hMZ (own_row_kept hS.out.row fun g cur hg hc => set_else hc (by have h1 := hS.out.rge g hg; have h2 := HNL.out.m; have h3 := HNL.out.o; omega))
      refine ⟨.tuple #[.slice As ln.length cs, .bool true], by simp [results, Try.results64, go_sem, c0], ⟨.inl ⟨by omega, by rw [HW0.out]; omega, _, rfl, ?_⟩, ?_⟩⟩
      · rw [show ((kx : Nat) : Int).toNat = kx by omega, HEND.out]; exact hrow
      · exact hW'.below (fun b hb => by have := (hMZ.at_ b hb).1; omega) (hS.out.bel.setCell (p := ⟨w.heap.size + 1, 0, none⟩) (by show w.heap.size ≤ w.heap.size + 1; omega) _) (Nat.le_refl _)
set_option maxHeartbeats 8000000 in
theorem c_Nth (A : Option Addr) (c : Nat) (xs : List LsV) (x : Int) (w : World) (h : LsAt w A c xs) : Calls Try.prog 30 #[.slice A xs.length c, .int .i64 x] w (NmTo w (ntN xs x) (nthL xs.length (ordF xs) xs.length 0 x.toNat)) := by
  have H := Lib.hid h
  obtain ⟨R, hR⟩ : ∃ R, R = NmTo w (ntN xs x) (nthL xs.length (ordF xs) xs.length 0 x.toNat) := ⟨_, rfl⟩
  rw [← hR]
  have HE := Lib.hid (show ∀ (X : World) (n : Int), ntN xs x = n → n ≠ 0 → Below w.heap.size w X → R (.returned (.tuple #[.slice none 0 0, .int .i64 n])) X from fun X n h h2 hb => by rw [hR, h]; exact ⟨.inl ⟨h2, rfl⟩, hb⟩)
  have HY := Lib.hid (show ∀ (X : World) (v : Value), ntN xs x = 0 → X.ownsRow w.heap.size 3 1 v (nthL xs.length (ordF xs) xs.length 0 x.toNat).length (elV (nthL xs.length (ordF xs) xs.length 0 x.toNat)) → Below w.heap.size w X → R (.returned (.tuple #[v, .int .i64 0])) X from fun X v h h2 hb => by rw [hR, h]; exact ⟨.inr ⟨rfl, v, rfl, h2⟩, hb⟩)
  clear hR h
  go_enter Try.func30, Try.ntmps30
  go_wp2_with (fail)
  go_at_call 48
  refine (c_read A c xs w H.out).mono ?_
  rintro e w1 ⟨⟨h0, rfl⟩ | ⟨h0, hl, hok, hno, g, rfl, hg, hblk⟩, b1⟩
  · have H0 := Lib.hid h0
    have K1 := Lib.hid b1
    have hne : (rdN xs != 0) = true := by simpa using h0
    have hd0 : (rdN xs == 0) = false := by simpa using h0
    clear h0 b1
    go_wp2_with (fail)
    exact HE.out _ _ (by unfold ntN; rw [if_pos H0.out]) H0.out K1.out
  · have H0 := Lib.hid h0
    have K1 := Lib.hid b1
    have HC := Lib.hid (c_nth g xs.length (ordF xs) hl (ordF_lt hl hok) x w1 hblk)
    clear h0 b1 hblk
    go_wp2_with (fail)
    go_at_call 64
    refine HC.out.mono ?_
    rintro e w2 ⟨⟨hx1, hx2, v, rfl, ho⟩ | ⟨hk, rfl⟩, b2⟩
    · have K2 := Lib.hid (below_join K1.out b2 K1.out.size)
      have HO := Lib.hid (own_mono ho K1.out.size)
      have HN := Lib.hid (nt_in H0.out ⟨hx1, hx2⟩)
      obtain ⟨As, cs, rfl⟩ := own_shape ho
      clear b2 hx1 hx2 ho
      go_wp2_with (fail)
      exact HY.out _ _ HN.out HO.out K2.out
    · have K2 := Lib.hid (below_join K1.out b2 K1.out.size)
      have HK := Lib.hid hk
      clear b2 hk
      go_wp2_with (fail)
      exact HE.out _ _ (nt_out H0.out HK.out) (by decide) K2.out
end Go.Proofs.Ytjheaeeeeggncaa

namespace Go.Proofs.Ytjheaeeeeggncaa
open Go.RowKit Go.Shelf
set_option maxRecDepth 100000
set_option linter.unusedVariables false
set_option linter.unusedSimpArgs false

def okN (n : Nat) (nx : Nat → Int) : Prop := ∀ g, g < n → nx g = -1 ∨ ∃ j, j < n ∧ nx g = ((j : Nat) : Int)
theorem okN.put {n f i : Nat} {nx : Nat → Int} (h : okN n nx) (hi : i < n) : okN n (putN nx f i) := fun g hg => by
  unfold putN
  by_cases e : g = f
  · rw [if_pos e]; exact .inr ⟨i, hi, rfl⟩
  · rw [if_neg e]; exact h g hg
/-- What the search keeps. -/
structure JK (n tr : Nat) (nx : Nat → Int) (r : Bool × JSt) : Prop where
  lt : r.2.1 < 2 ^ n
  ok : okN n r.2.2
  sub : Sup tr r.2.1
  keep : ∀ g, tr.testBit g = true → r.2.2 g = nx g
theorem jLoop_keeps {n i : Nat} {rec : Nat → Nat → (Nat → Int) → Bool × JSt} (hrec : ∀ j t x, j < n → t < 2 ^ n → okN n x → JK n t x (rec j t x)) (hi : i < n) :
    ∀ (L : List Nat) (t : Nat) (x : Nat → Int), (∀ f ∈ L, f < n) → t < 2 ^ n → okN n x → JK n t x (jLoop rec i L t x)
  | [], t, x, _, ht, hx => ⟨ht, hx, fun _ h => h, fun _ _ => rfl⟩
  | f :: L, t, x, hL, ht, hx => by
    have hfn := hL f (by simp)
    have hL2 : ∀ f ∈ L, f < n := fun g hg => hL g (List.mem_cons_of_mem _ hg)
    unfold jLoop
    by_cases hf : t.testBit f = true
    · rw [if_pos hf]; exact jLoop_keeps hrec hi L t x hL2 ht hx
    · rw [if_neg hf]
      have hne : ∀ g, t.testBit g = true → g ≠ f := fun g hg e => hf (e ▸ hg)
      by_cases hn : x f = -1
      · rw [if_pos hn]
        exact ⟨put_lt ht hfn, hx.put hi, sub_put t f, fun g hg => by show putN x f i g = _; unfold putN; rw [if_neg (hne g hg)]⟩
      · rw [if_neg hn]
        obtain ⟨j, hj, hxj⟩ := (hx f hfn).resolve_left hn
        have hjt : (x f).toNat = j := by rw [hxj]; rfl
        rw [hjt]
        have q := hrec j (t ||| 1 <<< f) x hj (put_lt ht hfn) hx
        obtain ⟨r, hr⟩ : ∃ r, rec j (t ||| 1 <<< f) x = r := ⟨_, rfl⟩
        rw [hr] at q ⊢
        simp only
        by_cases hb : r.1 = true
        · rw [if_pos hb]
          exact ⟨q.lt, q.ok.put hi, fun g hg => q.sub g (sub_put t f g hg), fun g hg => by show putN r.2.2 f i g = _; unfold putN; rw [if_neg (hne g hg)]; exact q.keep g (sub_put t f g hg)⟩
        · rw [if_neg hb]
          have q2 := jLoop_keeps hrec hi L r.2.1 r.2.2 hL2 q.lt q.ok
          exact ⟨q2.lt, q2.ok, fun g hg => q2.sub g (q.sub g (sub_put t f g hg)), fun g hg => (q2.keep g (q.sub g (sub_put t f g hg))).trans (q.keep g (sub_put t f g hg))⟩
theorem jn_keeps {n : Nat} {b : Nat → Nat} : ∀ (fuel i t : Nat) (x : Nat → Int), i < n → t < 2 ^ n → okN n x → JK n t x (jn n b fuel i t x)
  | 0, _, t, x, _, ht, hx => ⟨ht, hx, fun _ h => h, fun _ _ => rfl⟩
  | fuel + 1, i, t, x, hi, ht, hx => jLoop_keeps (fun j t x => jn_keeps fuel j t x) hi _ t x (fun f hf => (lst_mem.1 hf).1) ht hx
/-- All but some blocks are as they were. -/
structure ButS (p : Nat → Prop) (X Y : World) : Prop where
  os : Y.os = X.os
  tape : Y.tape = X.tape
  output : Y.output = X.output
  size : X.heap.size ≤ Y.heap.size
  same : ∀ (k : Nat) (o : Obj), ¬ p k → X.heap[k]? = some o → Y.heap[k]? = some o
section
variable {p : Nat → Prop} {S m : Nat} {X Y Z : World}
theorem ButS.refl (X : World) : ButS p X X := ⟨rfl, rfl, rfl, Nat.le_refl _, fun _ _ _ h => h⟩
theorem ButS.trans (h : ButS p X Y) (k : ButS p Y Z) : ButS p X Z := ⟨k.os.trans h.os, k.tape.trans h.tape, k.output.trans h.output, Nat.le_trans h.size k.size, fun i o ho hi => k.same i o ho (h.same i o ho hi)⟩
theorem ButS.of_below {B : Nat} (h : Below B X Y) (hB : X.heap.size ≤ B) : ButS p X Y := ⟨h.os, h.tape, h.output, h.size, fun k _ _ hk => (h.block k (Nat.lt_of_lt_of_le (at_lt hk) hB)).trans hk⟩
theorem ButS.drew : ButS p X X.drew := ⟨rfl, rfl, rfl, Nat.le_refl _, fun _ _ _ h => h⟩
/-- A store into one of them, or into what is new. -/
theorem ButS.set {b o : Nat} {v : Value} (h : ButS p X Y) (hb : p b ∨ X.heap.size ≤ b) : ButS p X (Y.setCell ⟨b, o, none⟩ v) :=
  ⟨h.os, h.tape, h.output, by simpa [World.setCell] using h.size, fun k u hne hk => by
    rw [Below.heap_setCell _ ⟨b, o, none⟩ v k (fun e => by subst e; rcases hb with hb | hb; exact hne hb; have := at_lt hk; exact absurd this (Nat.not_lt.2 hb))]
    exact h.same k u hne hk⟩
theorem ButS.own (h : ButS p X Y) (hE : OwnIt S m Y Z) (hS : X.heap.size ≤ S) : ButS p X Z :=
  ⟨hE.os.trans h.os, hE.tape.trans h.tape, hE.output.trans h.output, Nat.le_trans h.size hE.size, fun k o hne hk => hE.same k o (h.same k o hne hk) (.inl (by have := at_lt hk; omega))⟩
theorem ButS.put {l : Nat} (o' : Obj) (h : ButS p X Y) (hl : X.heap.size ≤ l) : ButS p X (Y.putObj l o') :=
  ⟨h.os, h.tape, h.output, by simpa using h.size, fun k o hne hk => put_else (h.same k o hne hk) (by have := at_lt hk; omega)⟩
theorem ButS.off {bs : List Nat} (h : ButS p X Y) (k : Off bs Y Z) (hb : ∀ b ∈ bs, X.heap.size ≤ b) : ButS p X Z :=
  ⟨k.os.trans h.os, k.tape.trans h.tape, k.output.trans h.output, Nat.le_trans h.size k.size, fun i o ho hi => k.same i o (fun hm => by have := hb i hm; have := at_lt hi; omega) (h.same i o ho hi)⟩
end
/-- The numbers of a row. -/
def nxC (n : Nat) (nx : Nat → Int) : List Value := (List.range n).map fun g => .int .i64 (nx g)
theorem nxC_len (n : Nat) (nx : Nat → Int) : (nxC n nx).length = n := by simp [nxC]
theorem nxC_at {n g : Nat} (nx : Nat → Int) (h : g < n) : (nxC n nx)[g]? = some (.int .i64 (nx g)) := by simp [nxC, h]
theorem nxC_set {n f i : Nat} {nx : Nat → Int} (hf : f < n) : (nxC n nx).set f (.int .i64 (i : Int)) = nxC n (putN nx f i) := by
  apply List.ext_getElem?
  intro j
  rw [List.getElem?_set]
  by_cases e : f = j
  · subst e; rw [if_pos rfl, nxC_len, if_pos hf, nxC_at _ hf]; unfold putN; rw [if_pos rfl]
  · rw [if_neg e]
    by_cases hj : j < n
    · rw [nxC_at _ hj, nxC_at _ hj]; unfold putN; rw [if_neg (fun x => e x.symm)]
    · rw [List.getElem?_eq_none (by rw [nxC_len]; omega), List.getElem?_eq_none (by rw [nxC_len]; omega)]
/-- Where joined keeps its variables: the order (block g, box bb), next (row r, box nb), tried, join. -/
structure JnA where
  g : Nat
  bb : Nat
  r : Nat
  nb : Nat
  tb : Nat
  jb : Nat
def JnA.fn (a : JnA) : Value := .func (.func 90) #[] #[.pointer (some ⟨a.bb, 0, none⟩), .pointer (some ⟨a.tb, 0, none⟩), .pointer (some ⟨a.nb, 0, none⟩), .pointer (some ⟨a.jb, 0, none⟩)]
structure JnL (a : JnA) : Prop where
  l1 : a.g < a.bb
  l2 : a.bb < a.r
  l3 : a.r < a.nb
  l4 : a.nb < a.tb
  l5 : a.tb < a.jb
abbrev JS (a : JnA) : Nat → Prop := fun k => k = a.tb ∨ k = a.r
structure JnAt (n : Nat) (f : Nat → Nat) (a : JnA) (tr : Nat) (nx : Nat → Int) (W : World) : Prop where
  blk : Blk W a.g n f
  ord : W.heap[a.bb]? = some (.cells #[.slice (some ⟨a.g, 0, none⟩) n n] 64 (0, 0))
  row : W.heap[a.r]? = some (.cells (nxC n nx).toArray 3 (0, 0))
  next : W.heap[a.nb]? = some (.cells #[.slice (some ⟨a.r, 0, none⟩) n n] 33 (0, 0))
  tried : W.heap[a.tb]? = some (.cells #[.int .u16 (tr : Int)] 72 (0, 0))
  join : W.heap[a.jb]? = some (.cells #[a.fn] 94 (0, 0))
section
variable {n tr : Nat} {f : Nat → Nat} {a : JnA} {nx : Nat → Int} {X Y : World}
theorem JnAt.keep (h : JnAt n f a tr nx X) (hs : ∀ (k : Nat) (cs : Array Value) (T : TypeId), X.heap[k]? = some (.cells cs T (0, 0)) → Y.heap[k]? = some (.cells cs T (0, 0))) : JnAt n f a tr nx Y :=
  ⟨hs _ _ _ h.blk, hs _ _ _ h.ord, hs _ _ _ h.row, hs _ _ _ h.next, hs _ _ _ h.tried, hs _ _ _ h.join⟩
theorem JnAt.on {B : Nat} (h : JnAt n f a tr nx X) (hb : Below B X Y) (hB : X.heap.size ≤ B) : JnAt n f a tr nx Y := h.keep fun k cs T ho => (hb.block _ (Nat.lt_of_lt_of_le (at_lt ho) hB)).trans ho
theorem JnAt.own {S : Nat} (h : JnAt n f a tr nx X) (hE : OwnIt S 0 X Y) : JnAt n f a tr nx Y := h.keep fun k cs T ho => own_cells' hE _ _ _ _ ho
theorem JnAt.put {l : Nat} {o o' : Obj} (h : JnAt n f a tr nx X) (ho : X.heap[l]? = some o) (hc : o.isCells = false) : JnAt n f a tr nx (X.putObj l o') := h.keep fun k cs T hk => put_cells hk ho hc
theorem JnAt.setT (h : JnAt n f a tr nx X) (l : JnL a) (t : Nat) : JnAt n f a t nx (X.setCell ⟨a.tb, 0, none⟩ (.int .u16 (t : Int))) := by
  have l1 := l.l1; have l2 := l.l2; have l3 := l.l3; have l4 := l.l4; have l5 := l.l5
  exact ⟨set_else h.blk (by omega), set_else h.ord (by omega), set_else h.row (by omega), set_else h.next (by omega), set_field h.tried _, set_else h.join (by omega)⟩
theorem JnAt.setN {g i : Nat} (h : JnAt n f a tr nx X) (l : JnL a) (hg : g < n) : JnAt n f a tr (putN nx g i) (X.setCell ⟨a.r, g, none⟩ (.int .i64 (i : Int))) := by
  have l1 := l.l1; have l2 := l.l2; have l3 := l.l3; have l4 := l.l4; have l5 := l.l5
  refine ⟨set_else h.blk (by omega), set_else h.ord (by omega), ?_, set_else h.next (by omega), set_else h.tried (by omega), set_else h.join (by omega)⟩
  have := set_field (o := g) h.row (.int .i64 (i : Int))
  rwa [List.setIfInBounds_toArray, nxC_set hg] at this
theorem JnAt.setO {b o : Nat} {v : Value} (h : JnAt n f a tr nx X) (hb : a.g ≠ b ∧ a.bb ≠ b ∧ a.r ≠ b ∧ a.nb ≠ b ∧ a.tb ≠ b ∧ a.jb ≠ b) : JnAt n f a tr nx (X.setCell ⟨b, o, none⟩ v) :=
  ⟨set_else h.blk hb.1, set_else h.ord hb.2.1, set_else h.row hb.2.2.1, set_else h.next hb.2.2.2.1, set_else h.tried hb.2.2.2.2.1, set_else h.join hb.2.2.2.2.2⟩
theorem JnAt.at_ {g : Nat} (h : JnAt n f a tr nx X) (hg : g < n) : X.cell? ⟨a.r, g, none⟩ = some (.int .i64 (nx g)) := cell_of h.row (by rw [List.getElem?_toArray]; exact nxC_at nx hg)
/-- What is no cells stays. -/
theorem JnAt.rest (h : JnAt n f a tr nx X) (hb : ButS (JS a) X Y) : ∀ (k : Nat) (o : Obj), X.heap[k]? = some o → o.isCells = false → Y.heap[k]? = some o := fun k o hk hc => hb.same k o (fun e => by
  rcases e with rfl | rfl
  · rw [h.tried] at hk; cases hk; cases hc
  · rw [h.row] at hk; cases hk; cases hc) hk
end
def JnPost (n : Nat) (f : Nat → Nat) (a : JnA) (W : World) (r : Bool × JSt) (e : Ending) (W' : World) : Prop :=
  e = .returned (.bool r.1) ∧ JnAt n f a r.2.1 r.2.2 W' ∧ ButS (JS a) W W'
/-- Between two rounds. -/
structure JnI (n : Nat) (f : Nat → Nat) (a : JnA) (fuel i tr : Nat) (nx : Nat → Int) (L : List Nat) (W : World) (pre : List Nat) (X : World) : Prop where
  ib : X.heap[W.heap.size]? = some (.cells #[.int .i64 (i : Int)] 3 (0, 0))
  rb : X.heap[W.heap.size + 1]? = some (.cells #[.bool false] 4 (0, 0))
  st : ∃ t x, JnAt n f a t x X ∧ t < 2 ^ n ∧ okN n x ∧ free n t ≤ free n tr ∧ jLoop (jn n f fuel) i L tr nx = jLoop (jn n f fuel) i (L.drop pre.length) t x
  bt : ButS (JS a) W X
/-- When it has returned. -/
structure JnX (n : Nat) (f : Nat → Nat) (a : JnA) (fuel i tr : Nat) (nx : Nat → Int) (L : List Nat) (W : World) (c : Code) (X : World) : Prop where
  c : c = .ret
  rb : X.heap[W.heap.size + 1]? = some (.cells #[.bool true] 4 (0, 0))
  st : ∃ t x, JnAt n f a t x X ∧ jLoop (jn n f fuel) i L tr nx = (true, t, x)
  bt : ButS (JS a) W X
section
variable {n fuel i tr : Nat} {f : Nat → Nat} {a : JnA} {nx : Nat → Int} {L pre : List Nat} {W X Y : World} {c : Code}
theorem JnI.own {S : Nat} (h : JnI n f a fuel i tr nx L W pre X) (hE : OwnIt S 0 X Y) (hS : W.heap.size ≤ S) : JnI n f a fuel i tr nx L W pre Y := by
  obtain ⟨t, x, h1, h2⟩ := h.st
  exact ⟨own_cells' hE _ _ _ _ h.ib, own_cells' hE _ _ _ _ h.rb, ⟨t, x, h1.own hE, h2⟩, h.bt.own hE hS⟩
theorem JnI.put {l : Nat} {o o' : Obj} (h : JnI n f a fuel i tr nx L W pre X) (hl : W.heap.size ≤ l) (ho : X.heap[l]? = some o) (hc : o.isCells = false) : JnI n f a fuel i tr nx L W pre (X.putObj l o') := by
  obtain ⟨t, x, h1, h2⟩ := h.st
  exact ⟨put_cells h.ib ho hc, put_cells h.rb ho hc, ⟨t, x, h1.put ho hc, h2⟩, h.bt.put _ hl⟩
theorem JnX.own {S : Nat} (h : JnX n f a fuel i tr nx L W c X) (hE : OwnIt S 0 X Y) (hS : W.heap.size ≤ S) : JnX n f a fuel i tr nx L W c Y := by
  obtain ⟨t, x, h1, h2⟩ := h.st
  exact ⟨h.c, own_cells' hE _ _ _ _ h.rb, ⟨t, x, h1.own hE, h2⟩, h.bt.own hE hS⟩
theorem JnX.put {l : Nat} {o o' : Obj} (h : JnX n f a fuel i tr nx L W c X) (hl : W.heap.size ≤ l) (ho : X.heap[l]? = some o) (hc : o.isCells = false) : JnX n f a fuel i tr nx L W c (X.putObj l o') := by
  obtain ⟨t, x, h1, h2⟩ := h.st
  exact ⟨h.c, put_cells h.rb ho hc, ⟨t, x, h1.put ho hc, h2⟩, h.bt.put _ hl⟩
end
end Go.Proofs.Ytjheaeeeeggncaa

namespace Go.Proofs.Ytjheaeeeeggncaa
open Go.RowKit Go.Shelf
attribute [local go_sem] Oper.semAt_some
set_option maxRecDepth 100000
set_option linter.unusedVariables false
set_option linter.unusedSimpArgs false

theorem jn_fin {n fuel i tr t ff B : Nat} {f : Nat → Nat} {a : JnA} {nx x : Nat → Int} {Ls : List Nat} {W Z V : World} (L : JnL a) (hW : a.jb < W.heap.size) (hff : ff < n) (hat : JnAt n f a t x V)
    (hrb : V.heap[W.heap.size + 1]? = some (.cells #[.bool false] 4 (0, 0))) (hB : ButS (JS a) W V) (hZ : ∀ (k : Nat) (o : Obj), Z.heap[k]? = some o → o.isCells = false → V.heap[k]? = some o) (hs : Z.heap.size ≤ V.heap.size)
    (hq : jLoop (jn n f fuel) i Ls tr nx = (true, t, putN x ff i)) :
    KeepsFrom B Z ((V.setCell ⟨a.r, ff, none⟩ (.int .i64 (i : Int))).setCell ⟨W.heap.size + 1, 0, none⟩ (.bool true)) ∧ JnX n f a fuel i tr nx Ls W .ret ((V.setCell ⟨a.r, ff, none⟩ (.int .i64 (i : Int))).setCell ⟨W.heap.size + 1, 0, none⟩ (.bool true)) := by
  have l1 := L.l1; have l2 := L.l2; have l3 := L.l3; have l4 := L.l4; have l5 := L.l5
  have hrb2 : (V.setCell ⟨a.r, ff, none⟩ (.int .i64 (i : Int))).heap[W.heap.size + 1]? = some (.cells #[.bool false] 4 (0, 0)) := set_else hrb (by omega)
  have k1 := kf_store (B := 0) (o := ff) (.int .i64 (i : Int)) hat.row
  have k2 := kf_store (B := 0) (o := 0) (.bool true) hrb2
  exact ⟨⟨by have h1 := k1.size; have h2 := k2.size; omega, fun k o _ h1 h2 => k2.same k o (Nat.zero_le _) (k1.same k o (Nat.zero_le _) (hZ k o h1 h2) h2) h2⟩,
    ⟨rfl, set_field hrb2 _, ⟨t, putN x ff i, (hat.setN L hff).setO ⟨by omega, by omega, by omega, by omega, by omega, by omega⟩, hq⟩, (hB.set (.inl (.inr rfl))).set (.inr (Nat.le_succ _))⟩⟩
set_option maxHeartbeats 32000000 in
theorem c_joined1 (a : JnA) (LL : JnL a) (n : Nat) (f : Nat → Nat) (hn : n ≤ 12) (hf : ∀ j, j < n → f j < 2 ^ n) : ∀ (fuel i tr : Nat) (nx : Nat → Int) (W : World), i < n → tr < 2 ^ n → okN n nx → free n tr < fuel → JnAt n f a tr nx W →
    Calls Try.prog 90 #[.int .i64 (i : Int), .pointer (some ⟨a.bb, 0, none⟩), .pointer (some ⟨a.tb, 0, none⟩), .pointer (some ⟨a.nb, 0, none⟩), .pointer (some ⟨a.jb, 0, none⟩)] W (JnPost n f a W (jn n f fuel i tr nx)) := by
  intro fuel
  induction fuel with
  | zero => intro i tr nx W _ _ _ h _; exact absurd h (Nat.not_lt_zero _)
  | succ fuel ih =>
    intro i tr nx W hi htr hnx hfr h
    have hp12 := pow12 hn
    obtain ⟨V1, h1⟩ : ∃ V, V = W.alloc (.cells #[.int .i64 (i : Int)] 3) := ⟨_, rfl⟩
    obtain ⟨V, h2⟩ : ∃ V, V = V1.alloc (.cells #[.bool false] 4) := ⟨_, rfl⟩
    obtain ⟨hbV, hb1, hb2, hzV⟩ := two_boxes h1 h2
    have HBV := Lib.hid hbV
    have HIB := Lib.hid hb1
    have HRB := Lib.hid hb2
    have HAV := Lib.hid (h.on hbV (Nat.le_refl _))
    have HLL := Lib.hid LL
    have l1 := LL.l1; have l2 := LL.l2; have l3 := LL.l3; have l4 := LL.l4; have l5 := LL.l5
    have hjb := at_lt h.join
    have y0 := cell_of HAV.out.ord (o := 0) rfl
    have y1 := cell_of HIB.out (o := 0) rfl
    have y2 := HAV.out.blk.at_ hi
    have hil : (i : Int) < (n : Int) := by omega
    have hsb := hf i hi
    obtain ⟨s, hs⟩ : ∃ s, f i = s := ⟨_, rfl⟩
    rw [hs] at y2 hsb
    have hs12 : s < 2 ^ 12 := by omega
    have HSQ := Lib.hid (c_each 7 (by omega) (fun _ => False) s hs12 V)
    rw [show lst 12 s = lst n s by have h0 := lst_cut hsb (12 - n); rwa [show n + (12 - n) = 12 by omega] at h0] at HSQ
    have HJ := Lib.hid (show jn n f (fuel + 1) i tr nx = jLoop (jn n f fuel) i (lst n s) tr nx by rw [← hs]; rfl)
    have HLM := Lib.hid (fun (g : Nat) (hg : g ∈ lst n s) => (lst_mem.1 hg).1)
    obtain ⟨Ls, hLs⟩ : ∃ L, lst n s = L := ⟨_, rfl⟩
    rw [hLs] at HSQ HJ HLM
    have HIH := Lib.hid ih
    have HOK := Lib.hid hnx
    rw [h2, h1] at y0 y1 y2
    clear h ih hbV hb1 hb2 hs hnx hLs
    refine (callsIn_wide (n := 8)).1 ?_
    refine callsIn_of_wp_marks Try.func90 rfl trivial ?_ rfl
    simp only [Try.ntmps90, List.size_toArray, List.length_cons, List.length_nil, Nat.reduceAdd, Nat.reduceSub, Array.replicate_succ, Array.replicate_zero, List.push_toArray, List.append_toArray, List.nil_append, List.cons_append]
    rw [wpIn_wide]
    go_wp2_with (fail)
    rw [← h1, ← h2]
    clear h1 h2 y0 y1 y2
    refine (wpIn_wide (n := 8)).1 ?_
    refine wpIn_it (n := 8) (by omega) (gf := 77) (fb := #[.int .u16 (s : Int)]) (lb := #[]) rfl eg_each (m := 0) (Gd := fun _ => False) (ok := okE) (ts := Ls) (w0 := V) HSQ.out (KpG.refl _) (fun v t h => by rw [h]; rfl)
      (fun pre X => JnI n f a fuel i tr nx Ls W pre X) (fun c _ X => JnX n f a fuel i tr nx Ls W c X)
      (fun pre X Y h hE => h.own hE (by omega)) (fun c pre X Y h hE => h.own hE (by omega))
      (fun pre X l o o' h hl ho hc => h.put (by omega) ho hc) (fun c pre X l o o' h hl ho hc => h.put (by omega) ho hc)
      ⟨HIB.out, HRB.out, ⟨tr, nx, HAV.out, htr, HOK.out, Nat.le_refl _, by rw [List.length_nil, List.drop_zero]⟩, ButS.of_below HBV.out (Nat.le_refl _)⟩ ?iround ?idone ?istop
    case iround =>
      intro l pre v5 ff X K hpre hok hKK
      obtain rfl : v5 = #[.int .i64 (ff : Int)] := hok
      gi_wp2_with (fail)
      refine hKK _ _ (Below.refl _ _) ?_
      rintro Z ⟨o, o', ho', hoc, hYe⟩ hsz hI
      have hff := HLM.out ff (hpre.subset (show ff ∈ pre ++ [ff] by simp))
      obtain ⟨t, x, hat, ht, hx, hfr2, hQ⟩ := hI.st
      obtain ⟨tl, htl⟩ := hpre
      have hd : Ls.drop pre.length = ff :: Ls.drop (pre ++ [ff]).length := by rw [← htl]; simp
      rw [hd, jLoop] at hQ
      have HI := Lib.hid hI
      have HAT := Lib.hid hat
      have HOX := Lib.hid hx
      have hfl : (ff : Int) < (n : Int) := by omega
      have hzZ := hI.bt.size
      have z0 := cell_of hat.tried (o := 0) rfl
      have z1 := frz hat.tried 0
      clear hYe ho' hoc o o' hKK hI hd htl tl hat hx
      rcases hbt : t.testBit ff with _ | _
      rotate_left
      · have HQ := Lib.hid (show jLoop (jn n f fuel) i Ls tr nx = jLoop (jn n f fuel) i (Ls.drop (pre ++ [ff]).length) t x by rw [hQ, if_pos hbt])
        have HHA := Lib.hid (c_has t (by omega) (ff : Int) true (by simp [hbt]) Z)
        clear hQ hbt
        gi_wp2_with (fail)
        refine ⟨trivial, ?_⟩
        gi_at_call 76
        refine (CallsIn.inRound l (calls_wide HHA.out)).mono ?_
        rintro e wa ⟨rfl, hwa⟩
        rw [hwa]
        clear hwa wa
        gi_wp2_with (fail)
        exact ⟨⟨Nat.le_refl _, fun _ _ _ h _ => h⟩, KpIt.refl _, ⟨HI.out.ib, HI.out.rb, ⟨t, x, HAT.out, ht, HOX.out, hfr2, HQ.out⟩, HI.out.bt⟩⟩
      · rw [if_neg (by rw [hbt]; decide)] at hQ
        have HHA := Lib.hid (c_has t (by omega) (ff : Int) false (by simp [hbt]) Z)
        have HCO := Lib.hid (c_with t ff (by omega) (by omega) Z)
        have ht2 := put_lt ht hff
        have hfl2 := free_less hff hbt
        have hbit : (t ||| 1 <<< ff).testBit ff = true := by rw [or_bit]; simp
        obtain ⟨t2, ht2e⟩ : ∃ y, t ||| 1 <<< ff = y := ⟨_, rfl⟩
        rw [ht2e] at hQ HCO ht2 hfl2 hbit
        have HBIT := Lib.hid hbit
        have HQ := Lib.hid hQ
        have HA1 := Lib.hid (HAT.out.setT HLL.out t2)
        clear hQ hbt ht2e hbit
        gi_wp2_with (fail)
        refine ⟨trivial, ?_⟩
        gi_at_call 76
        refine (CallsIn.inRound l (calls_wide HHA.out)).mono ?_
        rintro e wa ⟨rfl, hwa⟩
        rw [hwa]
        clear hwa wa
        gi_wp2_with (fail)
        refine ⟨trivial, ?_⟩
        gi_at_call 80
        refine (CallsIn.inRound l (calls_wide HCO.out)).mono ?_
        rintro e wa ⟨rfl, hwa⟩
        rw [hwa]
        clear hwa wa
        gi_wp2_with (fail)
        obtain ⟨Z1, hZ1⟩ : ∃ Y, Y = Z.setCell ⟨a.tb, 0, none⟩ (.int .u16 (t2 : Int)) := ⟨_, rfl⟩
        rw [← hZ1] at HA1 ⊢
        have HB1 := Lib.hid (show ButS (JS a) Z Z1 by rw [hZ1]; exact (ButS.refl Z).set (.inl (.inl rfl)))
        have HI1 := Lib.hid (show Z1.heap[W.heap.size]? = some (.cells #[.int .i64 (i : Int)] 3 (0, 0)) by rw [hZ1]; exact set_else HI.out.ib (by omega))
        have HR1 := Lib.hid (show Z1.heap[W.heap.size + 1]? = some (.cells #[.bool false] 4 (0, 0)) by rw [hZ1]; exact set_else HI.out.rb (by omega))
        have hz1 := HB1.out.size
        have n0 := cell_of HA1.out.next (o := 0) rfl
        have n1 := cell_of HA1.out.join (o := 0) rfl
        have n2 := HA1.out.at_ hff
        have hfm : Try.prog.follows Departure.mixedOrders = true := by kernel_rfl
        unfold JnA.fn at n1
        clear hZ1 z0 z1 HHA HCO
        rcases HOX.out ff hff with hxe | ⟨j, hj, hxe⟩
        · rw [hxe] at n2
          have HF := Lib.hid (show jLoop (jn n f fuel) i Ls tr nx = (true, t2, putN x ff i) by rw [HQ.out, if_pos hxe])
          have HFIN := Lib.hid (jn_fin (B := V.heap.size) (Z := Z) HLL.out hjb hff (show JnAt n f a t2 x Z1.drew from HA1.out.on (Below.refl _ _).drew (Nat.le_refl _)) HR1.out ((HI.out.bt.trans HB1.out).trans ButS.drew) (HAT.out.rest (HB1.out.trans ButS.drew)) hz1 HF.out)
          refine region_round_zs (fun _ => false) (S := fun X => X.cell? ⟨a.nb, 0, none⟩ = some (.slice (some ⟨a.r, 0, none⟩) n n) ∧ X.cell? ⟨a.jb, 0, none⟩ = some (.func (.func 90) #[] #[.pointer (some ⟨a.bb, 0, none⟩), .pointer (some ⟨a.tb, 0, none⟩), .pointer (some ⟨a.nb, 0, none⟩), .pointer (some ⟨a.jb, 0, none⟩)]) ∧ X.cell? ⟨a.r, ff, none⟩ = some (.int .i64 (-1))) hfm (by kernel_rfl) ⟨n0, n1, n2⟩ (fun hHeld => ?_)
          refine takeZs 0 (some 20) (by kernel_rfl) rfl rfl rfl (by kernel_rfl) (by kernel_rfl) (by kernel_rfl) (by kernel_rfl) (fun _ _ _ h => h) (by rfl) (by intro w ⟨g1, g2, g3⟩; go_simp; try with_reducible rfl) hHeld ?_
          simp only [Act.put, List.setIfInBounds_toArray, List.set_cons_zero, List.set_cons_succ]
          refine takeZs 1 (some 21) (by kernel_rfl) rfl rfl rfl (by kernel_rfl) (by kernel_rfl) (by kernel_rfl) (by kernel_rfl) (fun _ _ _ h => h) (by rfl) (by intro w ⟨g1, g2, g3⟩; go_simp; try with_reducible rfl) hHeld ?_
          simp only [Act.put, List.setIfInBounds_toArray, List.set_cons_zero, List.set_cons_succ]
          refine takeZs 2 (some 22) (by kernel_rfl) rfl rfl rfl (by kernel_rfl) (by kernel_rfl) (by kernel_rfl) (by kernel_rfl) (fun _ _ _ h => h) (by rfl) (by intro w ⟨g1, g2, g3⟩; go_simp; try with_reducible rfl) hHeld ?_
          simp only [Act.put, List.setIfInBounds_toArray, List.set_cons_zero, List.set_cons_succ]
          refine takeZs 3 (some 23) (by kernel_rfl) rfl rfl rfl (by kernel_rfl) (by kernel_rfl) (by kernel_rfl) (by kernel_rfl) (fun _ _ _ h => h) (by rfl) (by intro w ⟨g1, g2, g3⟩; go_simp; try with_reducible rfl) hHeld ?_
          simp only [Act.put, List.setIfInBounds_toArray, List.set_cons_zero, List.set_cons_succ]
          refine takeZs 4 (some 24) (by kernel_rfl) rfl rfl rfl (by kernel_rfl) (by kernel_rfl) (by kernel_rfl) (by kernel_rfl) (fun _ _ _ h => h) (by rfl) (by intro w ⟨g1, g2, g3⟩; go_simp; try with_reducible rfl) hHeld ?_
          simp only [Act.put, List.setIfInBounds_toArray, List.set_cons_zero, List.set_cons_succ]
          refine takeZs 5 (some 25) (by kernel_rfl) rfl rfl rfl (by kernel_rfl) (by kernel_rfl) (by kernel_rfl) (by kernel_rfl) (fun _ _ _ h => h) (by rfl) (by intro w ⟨g1, g2, g3⟩; go_simp; try with_reducible rfl) hHeld ?_
          simp only [Act.put, List.setIfInBounds_toArray, List.set_cons_zero, List.set_cons_succ]
          refine skipZs 6 (some 26) (by kernel_rfl) rfl rfl rfl (by kernel_rfl) (by kernel_rfl) (by kernel_rfl) (by kernel_rfl) (fun _ _ _ h => h) (by rfl) hHeld ?_
          simp only [Act.put, List.setIfInBounds_toArray, List.set_cons_zero, List.set_cons_succ]
          refine skipZs 7 (some 27) (by kernel_rfl) rfl rfl rfl (by kernel_rfl) (by kernel_rfl) (by kernel_rfl) (by kernel_rfl) (fun _ _ _ h => h) (by rfl) hHeld ?_
          simp only [Act.put, List.setIfInBounds_toArray, List.set_cons_zero, List.set_cons_succ]
          refine skipZs 8 (some 28) (by kernel_rfl) rfl rfl rfl (by kernel_rfl) (by kernel_rfl) (by kernel_rfl) (by kernel_rfl) (fun _ _ _ h => h) (by rfl) hHeld ?_
          simp only [Act.put, List.setIfInBounds_toArray, List.set_cons_zero, List.set_cons_succ]
          refine skipZs 9 (some 29) (by kernel_rfl) rfl rfl rfl (by kernel_rfl) (by kernel_rfl) (by kernel_rfl) (by kernel_rfl) (fun _ _ _ h => h) (by rfl) hHeld ?_
          simp only [Act.put, List.setIfInBounds_toArray, List.set_cons_zero, List.set_cons_succ]
          refine skipZs 10 (some 30) (by kernel_rfl) rfl rfl rfl (by kernel_rfl) (by kernel_rfl) (by kernel_rfl) (by kernel_rfl) (fun _ _ _ h => h) (by rfl) hHeld ?_
          simp only [Act.put, List.setIfInBounds_toArray, List.set_cons_zero, List.set_cons_succ]
          refine skipZs 11 (some 31) (by kernel_rfl) rfl rfl rfl (by kernel_rfl) (by kernel_rfl) (by kernel_rfl) (by kernel_rfl) (fun _ _ _ h => h) (by rfl) hHeld ?_
          simp only [Act.put, List.setIfInBounds_toArray, List.set_cons_zero, List.set_cons_succ]
          refine takeZs 12 (some 32) (by kernel_rfl) rfl rfl rfl (by kernel_rfl) (by kernel_rfl) (by kernel_rfl) (by kernel_rfl) (fun _ _ _ h => h) (by rfl) (by intro w ⟨g1, g2, g3⟩; go_simp; try with_reducible rfl) hHeld ?_
          simp only [Act.put, List.setIfInBounds_toArray, List.set_cons_zero, List.set_cons_succ]
          refine doneZs (by kernel_rfl) ?_ _
          rw [noOut_normal]
          clear hHeld n1
          have n3 := cell_of HI1.out (o := 0) rfl
          have n4 := frz HA1.out.row ff
          have n5 : (Z1.setCell ⟨a.r, ff, none⟩ (.int .i64 (i : Int))).cell? ⟨W.heap.size + 1, 0, none⟩ = some (.bool false) := cell_of (set_else HR1.out (by omega)) rfl
          have n6 : (Z1.setCell ⟨a.r, ff, none⟩ (.int .i64 (i : Int))).frozen? ⟨W.heap.size + 1, 0, none⟩ = false := frz (set_else HR1.out (by omega)) 0
          gi_wp2_with (fail)
          exact HFIN.out
        · rw [hxe] at n2
          have hd0 : ((j : Int) == -1) = false := by rw [beq_eq_false_iff_ne]; omega
          have hjt : (x ff).toNat = j := by rw [hxe]; rfl
          have hQ := HQ.out
          rw [if_neg (by rw [hxe]; omega), hjt] at hQ
          have hk := jn_keeps (n := n) (b := f) fuel j t2 x hj ht2 HOX.out
          have HC := Lib.hid (fun (Y : World) (hY : JnAt n f a t2 x Y) => HIH.out j t2 x Y hj ht2 HOX.out (by omega) hY)
          obtain ⟨r, hr⟩ : ∃ r, jn n f fuel j t2 x = r := ⟨_, rfl⟩
          rw [hr] at hQ hk HC
          try simp only at hQ
          have HK := Lib.hid hk
          have HQ2 := Lib.hid hQ
          clear hQ hk hr HQ hjt
          refine region_round_zs (fun _ => false) (S := fun X => X.cell? ⟨a.nb, 0, none⟩ = some (.slice (some ⟨a.r, 0, none⟩) n n) ∧ X.cell? ⟨a.jb, 0, none⟩ = some (.func (.func 90) #[] #[.pointer (some ⟨a.bb, 0, none⟩), .pointer (some ⟨a.tb, 0, none⟩), .pointer (some ⟨a.nb, 0, none⟩), .pointer (some ⟨a.jb, 0, none⟩)]) ∧ X.cell? ⟨a.r, ff, none⟩ = some (.int .i64 (j : Int))) hfm (by kernel_rfl) ⟨n0, n1, n2⟩ (fun hHeld => ?_)
          refine takeZs 0 (some 20) (by kernel_rfl) rfl rfl rfl (by kernel_rfl) (by kernel_rfl) (by kernel_rfl) (by kernel_rfl) (fun _ _ _ h => h) (by rfl) (by intro w ⟨g1, g2, g3⟩; go_simp; try with_reducible rfl) hHeld ?_
          simp only [Act.put, List.setIfInBounds_toArray, List.set_cons_zero, List.set_cons_succ]
          refine takeZs 1 (some 21) (by kernel_rfl) rfl rfl rfl (by kernel_rfl) (by kernel_rfl) (by kernel_rfl) (by kernel_rfl) (fun _ _ _ h => h) (by rfl) (by intro w ⟨g1, g2, g3⟩; go_simp; try with_reducible rfl) hHeld ?_
          simp only [Act.put, List.setIfInBounds_toArray, List.set_cons_zero, List.set_cons_succ]
          refine takeZs 2 (some 22) (by kernel_rfl) rfl rfl rfl (by kernel_rfl) (by kernel_rfl) (by kernel_rfl) (by kernel_rfl) (fun _ _ _ h => h) (by rfl) (by intro w ⟨g1, g2, g3⟩; go_simp; try with_reducible rfl) hHeld ?_
          simp only [Act.put, List.setIfInBounds_toArray, List.set_cons_zero, List.set_cons_succ]
          refine takeZs 3 (some 23) (by kernel_rfl) rfl rfl rfl (by kernel_rfl) (by kernel_rfl) (by kernel_rfl) (by kernel_rfl) (fun _ _ _ h => h) (by rfl) (by intro w ⟨g1, g2, g3⟩; go_simp; try with_reducible rfl) hHeld ?_
          simp only [Act.put, List.setIfInBounds_toArray, List.set_cons_zero, List.set_cons_succ]
          refine takeZs 4 (some 24) (by kernel_rfl) rfl rfl rfl (by kernel_rfl) (by kernel_rfl) (by kernel_rfl) (by kernel_rfl) (fun _ _ _ h => h) (by rfl) (by intro w ⟨g1, g2, g3⟩; go_simp; try with_reducible rfl) hHeld ?_
          simp only [Act.put, List.setIfInBounds_toArray, List.set_cons_zero, List.set_cons_succ]
          refine takeZs 5 (some 25) (by kernel_rfl) rfl rfl rfl (by kernel_rfl) (by kernel_rfl) (by kernel_rfl) (by kernel_rfl) (fun _ _ _ h => h) (by rfl) (by intro w ⟨g1, g2, g3⟩; go_simp; try with_reducible rfl) hHeld ?_
          simp only [Act.put, List.setIfInBounds_toArray, List.set_cons_zero, List.set_cons_succ]
          refine takeZs 6 (some 26) (by kernel_rfl) rfl rfl rfl (by kernel_rfl) (by kernel_rfl) (by kernel_rfl) (by kernel_rfl) (fun _ _ _ h => h) (by rfl) (by intro w ⟨g1, g2, g3⟩; go_simp; try with_reducible rfl) hHeld ?_
          simp only [Act.put, List.setIfInBounds_toArray, List.set_cons_zero, List.set_cons_succ]
          refine takeZs 7 (some 27) (by kernel_rfl) rfl rfl rfl (by kernel_rfl) (by kernel_rfl) (by kernel_rfl) (by kernel_rfl) (fun _ _ _ h => h) (by rfl) (by intro w ⟨g1, g2, g3⟩; go_simp; try with_reducible rfl) hHeld ?_
          simp only [Act.put, List.setIfInBounds_toArray, List.set_cons_zero, List.set_cons_succ]
          refine takeZs 8 (some 28) (by kernel_rfl) rfl rfl rfl (by kernel_rfl) (by kernel_rfl) (by kernel_rfl) (by kernel_rfl) (fun _ _ _ h => h) (by rfl) (by intro w ⟨g1, g2, g3⟩; go_simp; try with_reducible rfl) hHeld ?_
          simp only [Act.put, List.setIfInBounds_toArray, List.set_cons_zero, List.set_cons_succ]
          refine takeZs 9 (some 29) (by kernel_rfl) rfl rfl rfl (by kernel_rfl) (by kernel_rfl) (by kernel_rfl) (by kernel_rfl) (fun _ _ _ h => h) (by rfl) (by intro w ⟨g1, g2, g3⟩; go_simp; try with_reducible rfl) hHeld ?_
          simp only [Act.put, List.setIfInBounds_toArray, List.set_cons_zero, List.set_cons_succ]
          refine takeZs 10 (some 30) (by kernel_rfl) rfl rfl rfl (by kernel_rfl) (by kernel_rfl) (by kernel_rfl) (by kernel_rfl) (fun _ _ _ h => h) (by rfl) (by intro w ⟨g1, g2, g3⟩; go_simp; try with_reducible rfl) hHeld ?_
          simp only [Act.put, List.setIfInBounds_toArray, List.set_cons_zero, List.set_cons_succ]
          refine oneZs 11 rfl (by kernel_rfl) (fun K hK => ?_)
          go_simp
          go_at_call 90
          refine (HC.out Z1.drew (HA1.out.on (Below.refl _ _).drew (Nat.le_refl _))).mono ?_
          rintro e v2 ⟨rfl, hat2, hb2⟩
          have HB2 := Lib.hid (HB1.out.trans (ButS.drew.trans hb2))
          have HA2 := Lib.hid hat2
          have hz2 := HB2.out.size
          have hne1 : ¬ JS a W.heap.size := fun e => by rcases e with e | e <;> omega
          have hne2 : ¬ JS a (W.heap.size + 1) := fun e => by rcases e with e | e <;> omega
          have HI2 := Lib.hid (HB2.out.same _ _ hne1 HI.out.ib)
          have HR2 := Lib.hid (HB2.out.same _ _ hne2 HI.out.rb)
          have m0 := cell_of HA2.out.next (o := 0) rfl
          have m1 := cell_of HA2.out.join (o := 0) rfl
          have m2 := HA2.out.at_ hff
          rw [HK.out.keep ff HBIT.out, hxe] at m2
          unfold JnA.fn at m1
          have hH2 : (fun X => X.cell? ⟨a.nb, 0, none⟩ = some (.slice (some ⟨a.r, 0, none⟩) n n) ∧ X.cell? ⟨a.jb, 0, none⟩ = some (.func (.func 90) #[] #[.pointer (some ⟨a.bb, 0, none⟩), .pointer (some ⟨a.tb, 0, none⟩), .pointer (some ⟨a.nb, 0, none⟩), .pointer (some ⟨a.jb, 0, none⟩)]) ∧ X.cell? ⟨a.r, ff, none⟩ = some (.int .i64 (j : Int))) v2 := ⟨m0, m1, m2⟩
          refine hK.out _ _ (.inr hH2) ?_
          clear hK K hHeld hat2 hb2 n0 n1 n2 hne1 hne2
          try simp only [Act.put, List.setIfInBounds_toArray, List.set_cons_zero, List.set_cons_succ]
          obtain ⟨rb, rt, rx⟩ := r
          try simp only at HK
          try simp only at HQ2
          try simp only at HA2
          try simp only at m2
          try simp only at hH2
          try simp only
          cases rb
          · have HQ3 := Lib.hid (show jLoop (jn n f fuel) i Ls tr nx = jLoop (jn n f fuel) i (Ls.drop (pre ++ [ff]).length) rt rx by rw [HQ2.out]; rfl)
            refine takeZs 12 (some 32) (by kernel_rfl) rfl rfl rfl (by kernel_rfl) (by kernel_rfl) (by kernel_rfl) (by kernel_rfl) (fun _ _ _ h => h) (by rfl) (by intro w ⟨g1, g2, g3⟩; go_simp; try with_reducible rfl) hH2 ?_
            simp only [Act.put, List.setIfInBounds_toArray, List.set_cons_zero, List.set_cons_succ]
            refine doneZs (by kernel_rfl) ?_ _
            rw [noOut_normal]
            clear hH2 m0 m1 m2
            gi_wp2_with (fail)
            have hot := HAT.out.rest HB2.out
            have hfs : free n rt ≤ free n t2 := free_sub (n := n) HK.out.sub
            exact ⟨⟨hz2, fun k o _ h2 h3 => hot k o h2 h3⟩, ⟨hz2, fun k cs t fr h1 h2 => by rcases h1 with h1 | h1; exact h1.elim; omega, fun k o _ h2 h3 => hot k o h2 h3⟩, ⟨HI2.out, HR2.out, ⟨rt, rx, HA2.out, HK.out.lt, HK.out.ok, by omega, HQ3.out⟩, HI.out.bt.trans HB2.out⟩⟩
          · have HF := Lib.hid (show jLoop (jn n f fuel) i Ls tr nx = (true, rt, putN rx ff i) by rw [HQ2.out]; rfl)
            have HFIN := Lib.hid (jn_fin (B := W.heap.size + 1 + 1) (Z := Z) HLL.out hjb hff HA2.out HR2.out (HI.out.bt.trans HB2.out) (HAT.out.rest HB2.out) hz2 HF.out)
            refine takeZs 12 (some 32) (by kernel_rfl) rfl rfl rfl (by kernel_rfl) (by kernel_rfl) (by kernel_rfl) (by kernel_rfl) (fun _ _ _ h => h) (by rfl) (by intro w ⟨g1, g2, g3⟩; go_simp; try with_reducible rfl) hH2 ?_
            simp only [Act.put, List.setIfInBounds_toArray, List.set_cons_zero, List.set_cons_succ]
            refine doneZs (by kernel_rfl) ?_ _
            rw [noOut_normal]
            clear hH2 m1
            have n3 := cell_of HI2.out (o := 0) rfl
            have n4 := frz HA2.out.row ff
            have n5 : (v2.setCell ⟨a.r, ff, none⟩ (.int .i64 (i : Int))).cell? ⟨W.heap.size + 1, 0, none⟩ = some (.bool false) := cell_of (set_else HR2.out (by omega)) rfl
            have n6 : (v2.setCell ⟨a.r, ff, none⟩ (.int .i64 (i : Int))).frozen? ⟨W.heap.size + 1, 0, none⟩ = false := frz (set_else HR2.out (by omega)) 0
            gi_wp2_with (fail)
            exact HFIN.out
    case idone =>
      rintro D X rfl hI hdef
      obtain ⟨t, x, hat, ht, hx, hfr2, hQ⟩ := hI.st
      rw [List.drop_length] at hQ
      have HJ2 := Lib.hid (show jn n f (fuel + 1) i tr nx = (false, t, x) by rw [HJ.out, hQ]; rfl)
      have HM := Lib.hid (show Mks V.heap.size [V.heap.size] X from Mks.push (Mks.nil V.heap.size V) (Mks.nil _ X) (Nat.le_refl _) (Nat.le_refl _) hdef)
      have HR := Lib.hid hI.rb
      have HAX := Lib.hid hat
      have HBX := Lib.hid hI.bt
      have y0 := cell_of hI.rb (o := 0) rfl
      have y1 := frz hI.rb 0
      clear hI hat hQ hx hdef
      go_wp2_with (fail)
      have hkf := kf_store (B := 0) (o := 0) (.bool false) HR.out
      have hMZ : Mks V.heap.size [V.heap.size] (X.setCell ⟨W.heap.size + 1, 0, none⟩ (.bool false)) := HM.out.kept fun k o hk hc => hkf.same k o (Nat.zero_le _) hk hc
      refine leaves_marks (by simp) [V.heap.size] _ hMZ fun W' hW' => ?_
      have c0 : W'.cell? ⟨W.heap.size + 1, 0, none⟩ = some (.bool false) := cell_of (hW'.cells hMZ (set_field HR.out _)) rfl
      refine ⟨.bool false, by simp [results, Try.results90, go_sem, c0], ?_⟩
      rw [HJ2.out]
      have hbx := HBX.out.set (b := W.heap.size + 1) (o := 0) (v := .bool false) (.inr (Nat.le_succ _))
      exact ⟨rfl, (HAX.out.setO ⟨by omega, by omega, by omega, by omega, by omega, by omega⟩).keep fun k cs T ho => hW'.cells hMZ ho, hbx.off hW' fun b hb => by rcases List.mem_singleton.1 hb with rfl; omega⟩
    case istop =>
      rintro D c pre X rfl hpre hX hdef
      obtain ⟨t, x, hat, hQ⟩ := hX.st
      have hcc := hX.c
      subst hcc
      have HJ2 := Lib.hid (show jn n f (fuel + 1) i tr nx = (true, t, x) by rw [HJ.out, hQ])
      have HM := Lib.hid (show Mks V.heap.size [V.heap.size] X from Mks.push (Mks.nil V.heap.size V) (Mks.nil _ X) (Nat.le_refl _) (Nat.le_refl _) hdef)
      have HR := Lib.hid hX.rb
      have HAX := Lib.hid hat
      have HBX := Lib.hid hX.bt
      clear hX hat hQ hdef
      rw [wpIn_wide]
      go_wp2_with (fail)
      refine leaves_marks (by simp) [V.heap.size] _ HM.out fun W' hW' => ?_
      have c0 : W'.cell? ⟨W.heap.size + 1, 0, none⟩ = some (.bool true) := cell_of (hW'.cells HM.out HR.out) rfl
      refine ⟨.bool true, by simp [results, Try.results90, go_sem, c0], ?_⟩
      rw [HJ2.out]
      exact ⟨rfl, HAX.out.keep fun k cs T ho => hW'.cells HM.out ho, HBX.out.off hW' fun b hb => by rcases List.mem_singleton.1 hb with rfl; omega⟩
end Go.Proofs.Ytjheaeeeeggncaa

namespace Go.Proofs.Ytjheaeeeeggncaa
open Go.RowKit
set_option maxRecDepth 100000
set_option linter.unusedSimpArgs false
set_option linter.unusedVariables false

theorem retTT {fn : Func} {a : Act} {W : World} {R : Ending → World → Prop} {i j : Nat} {x y : Value} (hfn : fn.results = #[.tmp i, .tmp j]) (hi : a.tmps[i]?.getD undef = x) (hj : a.tmps[j]?.getD undef = y) (hd : a.defers = [])
    (hR : R (.returned (.tuple #[x, y])) W) : bodyPost Try.prog fn R .ret a W :=
  bodyPost_ret (v := .tuple #[x, y]) (by simp [results, hfn, hi, hj, go_sem]) hd hR
theorem mul_bits : ∀ n : Nat, n < 65 → bits .and .u64 (n : Int) 4294967295 = (n : Int) ∧ (n : Int) / 4294967296 = 0 ∧ IntKind.u64.wrap (n : Int) = (n : Int) := by decide +kernel
theorem mul_bits1 : bits .and .u64 1 4294967295 = 1 ∧ bits .and .u64 0 4294967295 = 0 := by decide +kernel
set_option maxHeartbeats 4000000 in
theorem c_Mul64 (N : Nat) (hN : N ≤ 64) (w : World) : Calls Try.prog 109 #[.int .u64 1, .int .u64 (N : Int)] w fun e w' => e = .returned (.tuple #[.int .u64 0, .int .u64 (N : Int)]) ∧ w = w' := by
  obtain ⟨h1, h2, h3⟩ := mul_bits N (by omega)
  obtain ⟨h4, h5⟩ := mul_bits1
  go_enter Try.func109, Try.ntmps109
  go_wp2
  exact retTT rfl rfl rfl rfl ⟨rfl, rfl⟩
set_option maxHeartbeats 4000000 in
theorem c_Mul (N : Nat) (hN : N ≤ 64) (w : World) : Calls Try.prog 102 #[.int .u64 1, .int .u64 (N : Int)] w fun e w' => e = .returned (.tuple #[.int .u64 0, .int .u64 (N : Int)]) ∧ w = w' := by
  go_enter Try.func102, Try.ntmps102
  go_wp2_with (fail)
  go_at_call 109
  refine (c_Mul64 N hN _).mono ?_
  rintro e w1 ⟨rfl, rfl⟩
  go_wp2_with (fail)
  exact retTT rfl rfl rfl rfl ⟨rfl, rfl⟩
theorem _root_.Go.Lib.cell_of_row' {W : World} {b j : Nat} {cur : List Value} {T : TypeId} (h : W.heap[b]? = some (.cells cur.toArray T (0, 0))) : W.cell? ⟨b, j, none⟩ = cur[j]? := by
  simp [World.cell?, h]
/-- The new slice between two rounds. -/
def RpRel (N : Nat) (w : World) (g : Nat) (p : Int) (n : Value) (wr : World) : Prop :=
  ∃ (k : Nat) (cur : List Value), n = .int .i64 (k : Int) ∧ 1 ≤ k ∧ k ≤ N ∧ wr.heap[g]? = some (.cells cur.toArray 3 (0, 0)) ∧ cur.length = N ∧ Hid (cur.take k = List.replicate k (.int .i64 p)) ∧ Hid (Below w.heap.size w wr)
theorem row_whole_own {w : World} {base n g : Nat} {T : TypeId} {xs : List Value} (h : w.ownsRow base T 1 (.slice (some ⟨g, 0, none⟩) n n) n xs) : ∃ cur : List Value, w.heap[g]? = some (.cells cur.toArray T (0, 0)) ∧ cur.length = n := by
  obtain ⟨k1, ⟨e, -⟩ | ⟨g', cap', cur, e, k3, k4, k5, k6, k7, k8⟩⟩ := h
  · cases e
  · injection e with e1 _ e2
    injection e1 with e1
    injection e1 with e1
    subst e1 e2
    exact ⟨cur.toList, by simpa using k4, by simpa using k7⟩
theorem int_size : (Try.prog.info? 3).map (·.size) = some 1 := by kernel_rfl
set_option maxHeartbeats 1000000 in
theorem c_Repeat (N : Nat) (hN : 1 ≤ N ∧ N ≤ 64) (p : Int) (b o c : Nat) (w : World) (hb : b < w.heap.size) (hc1 : 1 ≤ c) (hc2 : c ≤ maxLen) (hcell : w.cell? ⟨b, o, none⟩ = some (.int .i64 p)) : Calls Try.prog 89 #[.slice (some ⟨b, o, none⟩) 1 c, .int .i64 (N : Int)] w fun e w' => e = .returned (.slice (some ⟨w.heap.size, 0, none⟩) N N) ∧ w'.heap[w.heap.size]? = some (.cells (List.replicate N (Value.int .i64 p)).toArray 3 (0, 0)) ∧ Below w.heap.size w w' := by
  unfold maxLen at hc2
  go_enter Try.func89, Try.ntmps89
  go_wp2_with (fail)
  go_at_call 102
  refine (c_Mul N hN.2 _).mono ?_
  rintro e w1 ⟨rfl, rfl⟩
  obtain ⟨i0, hi0, hzz0, hzz1, hzz2⟩ := info_parts int_info
  have HSRC := Lib.hid (fun (X : World) (hX : Below w.heap.size w X) (j : Nat) (u : Value) (hj : [Value.int .i64 p][j]? = some u) => show X.cell? ((⟨b, o, none⟩ : Addr).add j) = some u from by
    match j, hj with
    | 0, hj => simp at hj; subst hj; exact (hX.cell (p := ⟨b, o, none⟩) hb).trans hcell)
  go_wp2_with (first
    | (at_make; refine wpList_make_full (P := Try.prog) _ rfl _ _ 33 rfl w.heap.size 3 i0 (.int .i64 0) 1 Try.underlying33 hi0 hzz0 hzz1 .i64 .i64 _ _ N rfl rfl rfl rfl (by rw [hzz2]; omega) (by unfold maxLen; omega) (Nat.le_refl _) ?_; intro w1 ho1 hg1; obtain ⟨cur, hcur, hsz⟩ := row_whole_own ho1; have HB1 := Lib.hid ((Below.refl w.heap.size w).grown hg1 (Nat.le_refl _) (fun k hk => by cases hk)); clear ho1 hg1)
    | (refine wpList_copy_splice rfl (.tmp 31) (.tmp 32) _ _ rfl 3 Try.underlying33 int_size _ _ N N 1 c rfl rfl w.heap.size 0 cur 3 hcur [.int .i64 p] (show 1 = Nat.min 1 N from (Nat.min_eq_left hN.1).symm) (fun _ => ⟨rfl, _, rfl, HSRC.out _ HB1.out⟩) (by simp; omega) (by simp [Value.oneCell']) w.heap.size w HB1.out (Nat.le_refl _) ?_; intro w2 hrow hb2))
  have HR2 := hrow
  have HB2 := Lib.hid hb2
  clear hb2 hcur
  go_wp2_with (fail)
  go_loopw [8] (fun n wr => RpRel N w w.heap.size p n wr) (fun n _ => N - (intOf n).toNat)
  case atStart => exact ⟨1, _, rfl, by omega, by omega, HR2.out, by rw [length_splice _ _ _ (by simp; omega)]; exact hsz, Lib.hid (by simp [splice]), Lib.hid HB2.out⟩
  case round =>
    obtain ⟨k, cu, rfl, hk1, hk2, hrow, hlen, htk, hB⟩ := hrel
    have HR := Lib.hid hrow
    have hki : ((k : Nat) : Int).toNat = k := by omega
    by_cases hlt : k < N
    · obtain ⟨m, hm⟩ : ∃ m, m = Nat.min k (N - k) := ⟨_, rfl⟩
      have hm0 : 0 < m := by rw [hm]; exact Nat.lt_min.2 ⟨by omega, by omega⟩
      have hmk : m ≤ k := by rw [hm]; exact Nat.min_le_left _ _
      have hmk2 : m ≤ N - k := by rw [hm]; exact Nat.min_le_right _ _
      have HC := Lib.hid (fun (j : Nat) (u : Value) (hj : (List.replicate m (Value.int .i64 p))[j]? = some u) => show wr.cell? ((⟨w.heap.size, 0, none⟩ : Addr).add j) = some u from by
        have hj' := (List.getElem?_eq_some_iff.1 hj).1
        rw [List.length_replicate] at hj'
        have e : (⟨w.heap.size, 0, none⟩ : Addr).add j = ⟨w.heap.size, j, none⟩ := by unfold Addr.add; split <;> simp_all
        rw [e, Lib.cell_of_row' hrow, ← hj, List.getElem?_replicate, if_pos hj']
        have := congrArg (fun l => l[j]?) htk.out
        simp only [List.getElem?_take_of_lt (show j < k by omega)] at this
        rw [this, List.getElem?_replicate, if_pos (by omega)])
      have h300 : (k : Int) < N := by omega
      have h301 : (k : Int) ≤ N := by omega
      have h302 : ¬ (N = k) := by omega
      have HMM := Lib.hid hm
      clear hrow hm
      go_wp2_with (fail)
      go_region_law (refine step_copy_splice rfl (.tmp 41) (.tmp 44) _ _ rfl 3 Try.underlying33 int_size (some ⟨w.heap.size, k, none⟩) (some ⟨w.heap.size, 0, none⟩) (N - k) (N - k) k N (by simp [Act.eval, Act.put]) (by simp [Act.eval, Act.put]) w.heap.size k cu 3 HR.out (List.replicate m (.int .i64 p)) (by rw [List.length_replicate]; exact HMM.out) (fun _ => ⟨rfl, _, rfl, HC.out⟩) (by rw [List.length_replicate]; omega) (by intro u hu; rw [(List.mem_replicate.1 hu).2]; rfl) w.heap.size w hB.out.drew (Nat.le_refl _) ?_; intro w4 hg4 hb4)
      have hl4 : (splice cu k (List.replicate m (Value.int .i64 p))).length = N := by rw [length_splice _ _ _ (by rw [List.length_replicate]; omega)]; exact hlen
      have R := Lib.hid (show RpRel N w w.heap.size p (.int .i64 ((k : Int) + (m : Int))) w4 from ⟨k + m, _, by push_cast; rfl, by omega, by omega, hg4.out, hl4, Lib.hid (by
        unfold splice
        rw [← List.append_assoc, List.take_append_of_le_length (by rw [List.length_append, List.length_take, List.length_replicate]; omega), List.take_of_length_le (by rw [List.length_append, List.length_take, List.length_replicate]; omega), htk.out, List.replicate_append_replicate]), Lib.hid hb4⟩)
      clear hg4 hb4 hl4
      have el : (List.replicate m (Value.int .i64 p)).length = m := List.length_replicate
      have hwr : IntKind.i64.wrap ((k : Int) + (m : Int)) = (k : Int) + (m : Int) := by rw [IntKind.wrap_i64]; omega
      have HW := Lib.hid hwr
      clear hwr
      go_simp
      go_wp2_with (fail)
      have hwr := HW.out
      go_roundw
      case rel => rw [hwr]; exact R.out
      case measure => simp only [intOf]; rw [hwr]; omega
    · obtain rfl : N = k := by omega
      go_wp2_with (fail)
      go_ret
      have ht := htk.out
      rw [List.take_of_length_le (by omega)] at ht
      rw [ht] at hrow
      exact ⟨rfl, hrow, hB.out⟩
set_option maxHeartbeats 1000000 in
theorem c_Repeat0 (p : Int) (b o c : Nat) (w : World) (hb : b < w.heap.size) (hc1 : 1 ≤ c) (hc2 : c ≤ maxLen) (hcell : w.cell? ⟨b, o, none⟩ = some (.int .i64 p)) : Calls Try.prog 89 #[.slice (some ⟨b, o, none⟩) 1 c, .int .i64 0] w fun e w' => e = .returned (.slice (some ⟨w.heap.size, 0, none⟩) 0 0) ∧ w'.heap[w.heap.size]? = some (.cells #[] 3 (0, 0)) ∧ Below w.heap.size w w' := by
  unfold maxLen at hc2
  go_enter Try.func89, Try.ntmps89
  go_wp2_with (fail)
  go_at_call 102
  refine (c_Mul 0 (by omega) _).mono ?_
  rintro e w1 ⟨rfl, rfl⟩
  obtain ⟨i0, hi0, hzz0, hzz1, hzz2⟩ := info_parts int_info
  go_wp2_with (first
    | (at_make; refine wpList_make_full (P := Try.prog) _ rfl _ _ 33 rfl w.heap.size 3 i0 (.int .i64 0) 1 Try.underlying33 hi0 hzz0 hzz1 .i64 .i64 _ _ 0 rfl rfl rfl rfl (by rw [hzz2]; omega) (by unfold maxLen; omega) (Nat.le_refl _) ?_; intro w1 ho1 hg1; obtain ⟨cur, hcur, hsz⟩ := row_whole_own ho1; have HB1 := Lib.hid ((Below.refl w.heap.size w).grown hg1 (Nat.le_refl _) (fun k hk => by cases hk)); clear ho1 hg1)
    | (refine wpList_copy_splice rfl (.tmp 31) (.tmp 32) _ _ rfl 3 Try.underlying33 int_size _ _ 0 0 1 c rfl rfl w.heap.size 0 cur 3 hcur [] rfl (fun h => absurd h (by simp)) (by simp) (by simp) w.heap.size w HB1.out (Nat.le_refl _) ?_; intro w2 hrow hb2))
  have hc0 : cur = [] := List.length_eq_zero_iff.1 hsz
  subst hc0
  have HR2 := Lib.hid hrow
  have HB2 := Lib.hid hb2
  clear hb2 hcur hrow
  go_wp2_with (fail)
  go_loopw [8] (fun n wr => n = .int .i64 0 ∧ wr = w2) (fun _ _ => 0)
  case atStart => exact ⟨rfl, rfl⟩
  case round =>
    obtain ⟨rfl, rfl⟩ := hrel
    go_wp2_with (fail)
    go_ret
    exact ⟨rfl, HR2.out, HB2.out⟩
theorem c_RepeatN (N : Nat) (hN : N ≤ 64) (p : Int) (b o c : Nat) (w : World) (hb : b < w.heap.size) (hc1 : 1 ≤ c) (hc2 : c ≤ maxLen) (hcell : w.cell? ⟨b, o, none⟩ = some (.int .i64 p)) : Calls Try.prog 89 #[.slice (some ⟨b, o, none⟩) 1 c, .int .i64 (N : Int)] w fun e w' => e = .returned (.slice (some ⟨w.heap.size, 0, none⟩) N N) ∧ w'.heap[w.heap.size]? = some (.cells (List.replicate N (Value.int .i64 p)).toArray 3 (0, 0)) ∧ Below w.heap.size w w' := by
  rcases Nat.eq_zero_or_pos N with rfl | h
  · exact c_Repeat0 p b o c w hb hc1 hc2 hcell
  · exact c_Repeat N ⟨h, hN⟩ p b o c w hb hc1 hc2 hcell
end Go.Proofs.Ytjheaeeeeggncaa

namespace Go.Proofs.Ytjheaeeeeggncaa
open Go.RowKit Go.Shelf
attribute [local go_sem] Oper.semAt_some
set_option maxRecDepth 100000
set_option linter.unusedVariables false
set_option linter.unusedSimpArgs false

theorem ButS.low {p : Nat → Prop} {X Y w : World} {B : Nat} (h : ButS p X Y) (k : Below B w X) (hp : ∀ k, p k → B ≤ k) (hB : B ≤ w.heap.size) : Below B w Y := by
  refine ⟨h.os.trans k.os, h.tape.trans k.tape, h.output.trans k.output, Nat.le_trans k.size h.size, fun i hi => ?_⟩
  have hlt : i < X.heap.size := Nat.lt_of_lt_of_le (Nat.lt_of_lt_of_le hi hB) k.size
  have h3 := Array.getElem?_eq_getElem hlt
  have := h.same i _ (fun e => by have := hp i e; omega) h3
  rw [this, ← h3]
  exact k.block i hi
theorem nxC_none (n : Nat) : List.replicate n (Value.int .i64 (-1)) = nxC n (fun _ => -1) := by
  apply List.ext_getElem?
  intro j
  by_cases h : j < n
  · rw [nxC_at _ h, List.getElem?_replicate, if_pos h]
  · rw [List.getElem?_eq_none (by rw [List.length_replicate]; omega), List.getElem?_eq_none (by rw [nxC_len]; omega)]
/-- What joined answers. -/
def JdTo (w : World) (n : Nat) (f : Nat → Nat) (e : Ending) (w' : World) : Prop :=
  ∃ r, e = .returned (.slice (some ⟨r, 0, none⟩) n n) ∧ w'.heap[r]? = some (.cells (nxC n (joinB n f n)).toArray 3 (0, 0)) ∧ w.heap.size ≤ r ∧ Below w.heap.size w w'
/-- Between two rounds. -/
structure JdI (w : World) (g n : Nat) (f : Nat → Nat) (r nb p : Nat) (X : World) : Prop where
  blk : Blk X g n f
  ord : X.heap[w.heap.size]? = some (.cells #[.slice (some ⟨g, 0, none⟩) n n] 64 (0, 0))
  row : X.heap[r]? = some (.cells (nxC n (joinB n f p)).toArray 3 (0, 0))
  next : X.heap[nb]? = some (.cells #[.slice (some ⟨r, 0, none⟩) n n] 33 (0, 0))
  ok : okN n (joinB n f p)
  bel : Below w.heap.size w X
set_option maxHeartbeats 16000000 in
theorem c_joined (g n : Nat) (f : Nat → Nat) (hn : n ≤ 12) (hf : ∀ j, j < n → f j < 2 ^ n) (w : World) (h : Blk w g n f) :
    Calls Try.prog 83 #[.slice (some ⟨g, 0, none⟩) n n] w (JdTo w n f) := by
  have H := Lib.hid h
  have hgw := at_lt h
  obtain ⟨W1, h1⟩ : ∃ W, W = w.alloc (.cells #[.slice (some ⟨g, 0, none⟩) n n] 64) := ⟨_, rfl⟩
  obtain ⟨W2, h2⟩ : ∃ W, W = W1.alloc (.cells #[.int .i64 (-1)] 3) := ⟨_, rfl⟩
  obtain ⟨hb2, k1, k2, hz2⟩ := two_boxes h1 h2
  have z1 : W1.heap.size = w.heap.size + 1 := by rw [h1, World.size_alloc]
  have HB2 := Lib.hid hb2
  have HO2 := Lib.hid k1
  have y0 := cell_of k1 (o := 0) rfl
  have HRP := Lib.hid (c_RepeatN n (by omega) (-1) (w.heap.size + 1) 0 1 W2 (by omega) (Nat.le_refl _) (by decide) (cell_of k2 rfl))
  rw [h2, h1] at y0
  clear h hb2 k1 k2
  go_enter Try.func83, Try.ntmps83
  go_wp2_with (fail)
  rw [← h1, ← h2]
  clear h1 h2 y0
  go_at_call 89
  refine HRP.out.mono ?_
  rintro e W3 ⟨rfl, hr3, hb3⟩
  obtain ⟨W4, h4⟩ : ∃ W, W = W3.alloc (.cells #[.slice (some ⟨W2.heap.size, 0, none⟩) n n] 33) := ⟨_, rfl⟩
  have b4 : Below W3.heap.size W3 W4 := by rw [h4]; exact (Below.refl _ _).alloc (Nat.le_refl _) _
  have hz3 := hb3.size
  have hr3l := at_lt hr3
  have z4 : W4.heap.size = W3.heap.size + 1 := by rw [h4, World.size_alloc]
  have kp : ∀ (k : Nat) (o : Obj), W2.heap[k]? = some o → W4.heap[k]? = some o := fun k o ho => (b4.block _ (by have := at_lt ho; omega)).trans ((hb3.block _ (at_lt ho)).trans ho)
  obtain ⟨r, hr⟩ : ∃ r, W2.heap.size = r := ⟨_, rfl⟩
  obtain ⟨nb, hnb⟩ : ∃ r, W3.heap.size = r := ⟨_, rfl⟩
  have HI4 := Lib.hid (show JdI w g n f r nb 0 W4 from ⟨kp _ _ ((HB2.out.block _ hgw).trans H.out), kp _ _ HO2.out, (b4.block _ (by omega)).trans (by rw [← hr, hr3, nxC_none]; rfl), by rw [← hnb, h4, ← hr]; exact heap_alloc_new _ _, fun g _ => .inl rfl, (HB2.out.trans (hb3.mono (by omega))).trans (b4.mono (by omega))⟩)
  rw [hr] at h4
  rw [hr] at hr3l hz2
  rw [hnb] at hr3l z4
  have HZ2 := Lib.hid hz2
  clear hb3 hr3 b4 kp hz3 hz2 z1
  have y1 := cell_of HI4.out.ord (o := 0) rfl
  rw [h4] at y1
  rw [hr]
  go_wp2_with (fail)
  rw [← h4]
  clear h4 y1
  go_loopw [13] (fun i wr => ∃ p : Nat, p ≤ n ∧ i = .int .i64 (p : Int) ∧ Hid (JdI w g n f r nb p wr) ∧ nb < wr.heap.size) (fun i _ => n - (intOf i).toNat)
  case atStart => exact ⟨0, Nat.zero_le _, rfl, HI4, by omega⟩
  case round =>
    obtain ⟨p, hp, rfl, hI, hnw⟩ := hrel
    have hpi : ((p : Nat) : Int).toNat = p := by omega
    by_cases hlt : p < n
    · have hpl : (p : Int) < (n : Int) := by omega
      obtain ⟨T1, h1⟩ : ∃ W, W = wr.alloc (.cells #[.int .u16 0] 72) := ⟨_, rfl⟩
      obtain ⟨T2, h2⟩ : ∃ W, W = T1.alloc (.cells #[(JnA.mk g w.heap.size r nb wr.heap.size (wr.heap.size + 1)).fn] 94) := ⟨_, rfl⟩
      obtain ⟨hbT, k1, k2, hzT⟩ := two_boxes h1 h2
      have HBT := Lib.hid hbT
      have kp : ∀ (k : Nat) (o : Obj), wr.heap[k]? = some o → T2.heap[k]? = some o := fun k o ho => (hbT.block _ (at_lt ho)).trans ho
      have hz := HZ2.out
      have HLL := Lib.hid (show JnL ⟨g, w.heap.size, r, nb, wr.heap.size, wr.heap.size + 1⟩ from ⟨hgw, by show w.heap.size < r; omega, hr3l, hnw, Nat.lt_succ_self _⟩)
      have HAT := Lib.hid (show JnAt n f ⟨g, w.heap.size, r, nb, wr.heap.size, wr.heap.size + 1⟩ 0 (joinB n f p) T2 from ⟨kp _ _ hI.out.blk, kp _ _ hI.out.ord, kp _ _ hI.out.row, kp _ _ hI.out.next, k1, k2⟩)
      have HC := Lib.hid (c_joined1 ⟨g, w.heap.size, r, nb, wr.heap.size, wr.heap.size + 1⟩ HLL.out n f hn hf (n + 1) p 0 (joinB n f p) T2 hlt (Nat.two_pow_pos n) hI.out.ok (by rw [free_none]; omega) HAT.out)
      have HJK := Lib.hid (jn_keeps (n := n) (b := f) (n + 1) p 0 (joinB n f p) hlt (Nat.two_pow_pos n) hI.out.ok)
      clear hbT k1 k2 kp hz
      go_wp2_with (fail)
      rw [show (.cells #[.func (.func 90) #[] #[.pointer (some ⟨w.heap.size, 0, none⟩), .pointer (some ⟨wr.heap.size, 0, none⟩), .pointer (some ⟨nb, 0, none⟩), .pointer (some ⟨wr.heap.size + 1, 0, none⟩)]] 94 : Obj) = .cells #[(JnA.mk g w.heap.size r nb wr.heap.size (wr.heap.size + 1)).fn] 94 from rfl, ← h1, ← h2]
      clear h1 h2
      go_at_call 90
      refine HC.out.mono ?_
      rintro e T3 ⟨rfl, hat3, hb3⟩
      have HI3 := Lib.hid (show JdI w g n f r nb (p + 1) T3 from ⟨hat3.blk, hat3.ord, hat3.row, hat3.next, HJK.out.ok, hb3.low (hI.out.bel.trans (HBT.out.mono hI.out.bel.size)) (fun k hk => by
        have h1 := HZ2.out
        have h2 := hI.out.bel.size
        rcases hk with h | h
        · have h : k = wr.heap.size := h; omega
        · have h : k = r := h; omega) (Nat.le_refl _)⟩)
      have hz3 := hb3.size
      clear hat3 hb3
      go_wp2_with (fail)
      go_roundw
      case rel => exact ⟨p + 1, by omega, by go_num, HI3, by omega⟩
      case measure => simp only [intOf]; omega
    · obtain rfl : p = n := by omega
      have y2 := cell_of hI.out.next (o := 0) rfl
      go_wp2_with (fail)
      go_ret
      exact ⟨r, rfl, hI.out.row, by have := HZ2.out; omega, hI.out.bel⟩
end Go.Proofs.Ytjheaeeeeggncaa
