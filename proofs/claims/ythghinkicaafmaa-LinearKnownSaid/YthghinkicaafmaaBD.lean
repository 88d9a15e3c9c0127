/-
  DERIVED. The law's numbers and made (stage 6).
-/
import Derived.Test.YthghinkicaafmaaBC
import Derived.BigRegion
import Derived.Deep.RegionLaw
namespace Go.Proofs.Ythghinkicaafmaa
open Go.RowKit
set_option maxRecDepth 100000

/-- Small loads, as a slice. -/
def U8Sl (w : World) (v : Value) (l : List Nat) : Prop :=
  ∃ A c, v = .slice A l.length c ∧ l.length ≤ c ∧ c ≤ maxLen ∧ (A = none → c = 0) ∧ (∀ x ∈ l, x ≤ 255) ∧ (0 < l.length → ∃ b o, A = some ⟨b, o, none⟩ ∧ b < w.heap.size ∧ ∀ (j : Nat) (x : Nat), l[j]? = some x → w.cell? ⟨b, o + j, none⟩ = some (.int .u8 (x : Int)))
/-- numbers' answer. -/
def ldL (l : List Nat) : List Int := (l.take 30).map fun x : Nat => (x : Int)
theorem ldL_len (l : List Nat) : (ldL l).length ≤ 30 := by unfold ldL; rw [List.length_map, List.length_take]; omega
theorem U8Sl.at_ {w : World} {v : Value} {l : List Nat} (h : U8Sl w v l) {k : Nat} {x : Nat} (hk : l[k]? = some x) : ∃ b o c, v = .slice (some ⟨b, o, none⟩) l.length c ∧ b < w.heap.size ∧ x ≤ 255 ∧ w.cell? ⟨b, o + k, none⟩ = some (.int .u8 (x : Int)) := by
  obtain ⟨A, c, h1, h2, h3, -, h5, h4⟩ := h
  have hl := (List.getElem?_eq_some_iff.1 hk).1
  obtain ⟨b, o, rfl, hlt, hc⟩ := h4 (by omega)
  exact ⟨b, o, c, h1, hlt, h5 x (List.mem_of_getElem? hk), hc k x hk⟩
theorem U8Sl.shape {w : World} {v : Value} {l : List Nat} (h : U8Sl w v l) : ∃ A c, v = .slice A l.length c ∧ l.length ≤ c ∧ c ≤ maxLen := by
  obtain ⟨A, c, h1, h2, h3, -⟩ := h
  exact ⟨A, c, h1, h2, h3⟩
theorem U8Sl.on {w w' : World} {v : Value} {l : List Nat} {B : Nat} (h : U8Sl w v l) (hb : Below B w w') (hB : w.heap.size ≤ B) : U8Sl w' v l := by
  obtain ⟨A, c, h1, h2, h3, h5, h6, h4⟩ := h
  refine ⟨A, c, h1, h2, h3, h5, h6, fun h0 => ?_⟩
  obtain ⟨b, o, e, hlt, hc⟩ := h4 h0
  exact ⟨b, o, e, Nat.lt_of_lt_of_le hlt hb.size, fun j x hj => (hb.cell (p := ⟨b, o + j, none⟩) (by show b < B; omega)).trans (hc j x hj)⟩
def LdRel (w : World) (l : List Nat) (v i : Value) (wr : World) : Prop :=
  ∃ k : Nat, i = .int .i64 (k : Int) ∧ k ≤ l.length ∧ k ≤ 30 ∧ wr.ownsRow w.heap.size 3 1 v k (ints ((l.take k).map fun x : Nat => (x : Int))) ∧ Hid (Below w.heap.size w wr)
set_option maxHeartbeats 4000000 in
theorem c_numbers (l : List Nat) (v : Value) (w : World) (h : U8Sl w v l) : Calls Try.prog 27 #[v] w fun e w' => ∃ v', e = .returned v' ∧ w'.ownsRow w.heap.size 3 1 v' (ldL l).length (ints (ldL l)) ∧ Below w.heap.size w w' := by
  have H := Lib.hid h
  obtain ⟨A, c, rfl, h2, h3⟩ := h.shape
  unfold maxLen at h3
  obtain ⟨i0, hi0, hz0, hz1, hz2⟩ := info_parts int_info
  clear h
  go_enter Try.func27, Try.ntmps27
  go_wp2_with (fail)
  go_loopw [3, 4] (fun v i wr => LdRel w l v i wr) (fun _ i _ => l.length - (intOf i).toNat)
  case atStart => exact ⟨0, rfl, Nat.zero_le _, Nat.zero_le _, World.ownsRow_nil _ _ _ _, Lib.hid (Below.refl _ _)⟩
  case round =>
    obtain ⟨k, rfl, hk, hk30, hown, hB⟩ := hrel
    by_cases hlt : k < l.length
    · have d1 : decide ((k : Int) < ((l.length : Nat) : Int)) = true := decide_eq_true (by omega)
      by_cases hlt2 : k < 30
      · obtain ⟨x, hx⟩ : ∃ x, l[k]? = some x := ⟨_, List.getElem?_eq_getElem hlt⟩
        obtain ⟨b, o, c', e, hbl, hx255, hc0⟩ := H.out.at_ hx
        injection e with e1 _ e2
        subst e1 e2
        have hcell := (hB.out.cell (p := ⟨b, o + k, none⟩) hbl).trans hc0
        have HX := Lib.hid hx
        have hki : ((k : Nat) : Int).toNat = k := by omega
        have hlt' : (k : Int) < ((l.length : Nat) : Int) := by omega
        clear hx hc0
        go_wp2_with (at_builtin; refine wpList_append_own _ rfl _ _ 32 rfl w.heap.size 3 i0 (.int .i64 0) 1 8 Try.underlying32 hi0 hz0 hz1 hz2 rfl (by omega) _ _ _ rfl (hown.alloc _) ⟨wr.heap.size, 0, none⟩ 1 1 [.int .i64 (x : Int)] rfl rfl (one_at (heap_alloc_new _ _)) (by simp [Value.oneCell']) (by unfold maxLen; omega) (by omega) (by have := hB.out.size; simp; omega) ?_)
        intro v2 w2 hown2 hgrow _
        have R := Lib.hid (show LdRel w l v2 (.int .i64 ((k : Int) + 1)) w2 from ⟨k + 1, by go_num, by omega, by omega, by
          rw [List.take_add_one, HX.out, List.map_append]
          simpa [ints] using hown2, Lib.hid ((hB.out.alloc hB.out.size _).grown hgrow (by have := hB.out.size; simp; omega) (fun g hg => (hown.lt g hg).1))⟩)
        clear hown hown2 hgrow
        go_wp2
        go_roundw
        case rel => exact R.out
        case measure => simp only [intOf]; omega
      · obtain rfl : k = 30 := by omega
        have hL : ldL l = (l.take 30).map fun x : Nat => (x : Int) := rfl
        have HO := Lib.hid (show wr.ownsRow w.heap.size 3 1 _ (ldL l).length (ints (ldL l)) by rw [hL, List.length_map, List.length_take, Nat.min_eq_left hk]; exact hown)
        clear hown
        go_wp2_with (fail)
        go_ret
        exact ⟨_, rfl, HO.out, hB.out⟩
    · obtain rfl : k = l.length := by omega
      have d1 : decide (((l.length : Nat) : Int) < ((l.length : Nat) : Int)) = false := decide_eq_false (by omega)
      have hL : ldL l = (l.take l.length).map fun x : Nat => (x : Int) := by unfold ldL; rw [List.take_of_length_le hk30, List.take_of_length_le (Nat.le_refl _)]
      have HO := Lib.hid (show wr.ownsRow w.heap.size 3 1 _ (ldL l).length (ints (ldL l)) by rw [hL, List.length_map, List.length_take, Nat.min_self]; exact hown)
      clear hown
      go_wp2_with (fail)
      go_ret
      exact ⟨_, rfl, HO.out, hB.out⟩

/-- Small numbers (Carry, Start, N, Times, Delays, A, B). -/
def smallV (c s n t0 t1 d0 d1 : Nat) (A B : Value) : Value := .agg #[.int .u8 (c : Int), .int .u8 (s : Int), .int .u8 (n : Int), .int .u8 (t0 : Int), .int .u8 (t1 : Int), .int .u8 (d0 : Int), .int .u8 (d1 : Int), A, B]
/-- The parts of small numbers. -/
def mdP (t0 t1 d0 d1 : Int) : List (Int × Int × Int) := [(0, t0, d0), (1, t1, d1)]
theorem pt_info : (Try.prog.info? 41).map (fun i => (i.zero, i.size, i.bytes)) = some (some (.agg #[.int .i64 0, .int .i64 0, .int .i64 0]), 3, 24) := by kernel_rfl
/-- made's loop: k parts are there. -/
structure MdI (w : World) (cs : Array Value) (C : Int) (l : List (Int × Int × Int)) (X : World) : Prop where
  sm : X.heap[w.heap.size]? = some (.cells cs 48 (0, 0))
  rs : X.heap[w.heap.size + 1]? = some (.cells #[.int .i64 0, .slice none 0 0] 24 (0, 0))
  ln : ∃ v, X.heap[w.heap.size + 1 + 1]? = some (.cells #[.int .i64 C, v] 24 (0, 0)) ∧ X.ownsRow (w.heap.size + 3) 41 3 v l.length (cellsP l)
  bel : Below w.heap.size w X
  size : w.heap.size + 3 ≤ X.heap.size
theorem cells9 {X : World} {b : Nat} {x0 x1 x2 x3 x4 x5 x6 x7 x8 : Value} {T : TypeId} (h : X.heap[b]? = some (.cells #[x0, x1, x2, x3, x4, x5, x6, x7, x8] T (0, 0))) :
    X.cell? ⟨b, 0, none⟩ = some x0 ∧ X.cell? ⟨b, 1, none⟩ = some x1 ∧ X.cell? ⟨b, 2, none⟩ = some x2 ∧ X.cell? ⟨b, 3, none⟩ = some x3 ∧ X.cell? ⟨b, 4, none⟩ = some x4 ∧ X.cell? ⟨b, 5, none⟩ = some x5 ∧ X.cell? ⟨b, 6, none⟩ = some x6 ∧ X.cell? ⟨b, 7, none⟩ = some x7 ∧ X.cell? ⟨b, 8, none⟩ = some x8 :=
  ⟨cell_of h rfl, cell_of h rfl, cell_of h rfl, cell_of h rfl, cell_of h rfl, cell_of h rfl, cell_of h rfl, cell_of h rfl, cell_of h rfl⟩
theorem set_field {X : World} {b i : Nat} {xs : Array Value} {T : TypeId} (h : X.heap[b]? = some (.cells xs T (0, 0))) (v : Value) : (X.setCell ⟨b, i, none⟩ v).heap[b]? = some (.cells (xs.setIfInBounds i v) T (0, 0)) := by
  simp only [World.setCell, Array.getElem?_modify, if_pos trivial, h]
  simp
theorem own_kept_set {X : World} {base e size n : Nat} {v u : Value} {b i : Nat} {xs : List Value} (h : X.ownsRow base e size v n xs) (hne : ∀ g, v.ownBlock = some g → g ≠ b) : (X.setCell ⟨b, i, none⟩ u).ownsRow base e size v n xs :=
  own_row_kept h (fun g cur hg hc => by rw [Below.heap_setCell _ ⟨b, i, none⟩ u g (hne g hg)]; exact hc)
theorem md_step {w Y Z : World} {cs : Array Value} {C : Int} {l : List (Int × Int × Int)} {p : Int × Int × Int} {v : Value} {g cap H : Nat} {tmp : Obj}
    (m1 : Y.heap[w.heap.size]? = some (.cells cs 48 (0, 0))) (m2 : Y.heap[w.heap.size + 1]? = some (.cells #[.int .i64 0, .slice none 0 0] 24 (0, 0)))
    (m3 : Y.heap[w.heap.size + 1 + 1]? = some (.cells #[.int .i64 C, v] 24 (0, 0))) (m4 : Y.ownsRow (w.heap.size + 3) 41 3 v l.length (cellsP l)) (m5 : Below w.heap.size w Y) (m6 : w.heap.size + 3 ≤ Y.heap.size)
    (hown : Z.ownsRow (w.heap.size + 3) 41 3 (.slice (some ⟨g, 0, none⟩) (l.length + 1) cap) (l.length + 1) (cellsP l ++ [.int .i64 p.1, .int .i64 p.2.1, .int .i64 p.2.2])) (hgrow : (Y.alloc tmp).drew.grownBy Z v.ownBlock) (_hat : v.ownBlock = some g ∨ g = H) :
    MdI w cs C (l ++ [p]) (Z.setCell ⟨w.heap.size + 1 + 1, 1, none⟩ (.slice (some ⟨g, 0, none⟩) (l.length + 1) cap)) := by
  have hv : ∀ k, v.ownBlock = some k → w.heap.size + 3 ≤ k := fun k hk => (m4.lt k hk).1
  have hb : ∀ k, k < w.heap.size + 3 → Z.heap[k]? = Y.heap[k]? := fun k hk => by
    rw [hgrow.block k (by show k < (Y.alloc tmp).heap.size; simp; omega) (fun e => by have := hv k e.symm; omega)]
    exact Below.heap_alloc _ _ _ (by omega)
  have hs : ∀ k, k ≠ w.heap.size + 1 + 1 → (Z.setCell ⟨w.heap.size + 1 + 1, 1, none⟩ (.slice (some ⟨g, 0, none⟩) (l.length + 1) cap)).heap[k]? = Z.heap[k]? := fun k hk => Below.heap_setCell Z ⟨w.heap.size + 1 + 1, 1, none⟩ _ k hk
  have hg3 : w.heap.size + 3 ≤ g := (hown.lt g rfl).1
  have hs1 := hgrow.size
  have e1 : (Y.alloc tmp).drew.heap.size = Y.heap.size + 1 := by show (Y.alloc tmp).heap.size = _; simp
  have hsz : Y.heap.size ≤ Z.heap.size := by omega
  refine ⟨by rw [hs _ (by omega), hb _ (by omega)]; exact m1, by rw [hs _ (by omega), hb _ (by omega)]; exact m2, ⟨_, set_field ((hb _ (by omega)).trans m3) _, ?_⟩, ?_, by simp [World.setCell]; omega⟩
  · rw [List.length_append, show cellsP (l ++ [p]) = cellsP l ++ [.int .i64 p.1, .int .i64 p.2.1, .int .i64 p.2.2] by simp [cellsP]]
    exact own_kept_set hown (fun k hk => by have := (hown.lt k hk).1; omega)
  · have e2 : Below w.heap.size w Z := ⟨hgrow.os.trans m5.os, hgrow.tape.trans m5.tape, hgrow.output.trans m5.output, Nat.le_trans m5.size hsz, fun k hk => by rw [hb k (by omega)]; exact m5.block k hk⟩
    exact e2.setCell (p := ⟨w.heap.size + 1 + 1, 1, none⟩) (by show w.heap.size ≤ w.heap.size + 1 + 1; omega) _
theorem two_alloc {X : World} {b : Nat} {x y : Value} {T : TypeId} (h : X.heap[b]? = some (.cells #[x, y] T (0, 0))) (o : Obj) : (X.alloc o).cell? ⟨b, 0, none⟩ = some x ∧ (X.alloc o).cell? ⟨b, 1, none⟩ = some y ∧ (X.alloc o).frozen? ⟨b, 0, none⟩ = false ∧ (X.alloc o).frozen? ⟨b, 1, none⟩ = false := by
  have h2 := old_heap o h
  exact ⟨cell_of h2 rfl, cell_of h2 rfl, by simp [World.frozen?, h2], by simp [World.frozen?, h2]⟩
theorem two_here {X : World} {b : Nat} {x y : Value} {T : TypeId} (h2 : X.heap[b]? = some (.cells #[x, y] T (0, 0))) : X.cell? ⟨b, 0, none⟩ = some x ∧ X.cell? ⟨b, 1, none⟩ = some y ∧ X.frozen? ⟨b, 0, none⟩ = false ∧ X.frozen? ⟨b, 1, none⟩ = false :=
  ⟨cell_of h2 rfl, cell_of h2 rfl, by simp [World.frozen?, h2], by simp [World.frozen?, h2]⟩
theorem st2_size {X : World} {b : Nat} {x y : Value} : ((X.setCell ⟨b, 0, none⟩ x).setCell ⟨b, 1, none⟩ y).heap.size = X.heap.size := by simp [World.setCell]
theorem st2_heap {X : World} {b k : Nat} {x y : Value} (hne : k ≠ b) : ((X.setCell ⟨b, 0, none⟩ x).setCell ⟨b, 1, none⟩ y).heap[k]? = X.heap[k]? := by
  rw [Below.heap_setCell _ ⟨b, 1, none⟩ y k hne, Below.heap_setCell _ ⟨b, 0, none⟩ x k hne]
theorem own_shape {X : World} {base : Nat} {e : TypeId} {size n : Nat} {v : Value} {xs : List Value} (h : X.ownsRow base e size v n xs) (h0 : 0 < n) : ∃ g cap, v = .slice (some ⟨g, 0, none⟩) n cap := by
  obtain ⟨-, ⟨-, h1⟩ | ⟨g, cap, cur, h2, -⟩⟩ := h
  · omega
  · exact ⟨g, cap, h2⟩
/-- What made hands over: a line's parts, and two lists of inputs, all in rows of their own. -/
structure MdO (w w' : World) (l : List (Int × Int × Int)) (la lb : List Int) (P I : Value) : Prop where
  bel : Below w.heap.size w w'
  own : ∃ (m1 m2 b : Nat) (u1 u2 : Value), w.heap.size ≤ m1 ∧ m1 ≤ m2 ∧ m2 ≤ b ∧ b < w'.heap.size ∧ w'.ownsRow w.heap.size 41 3 P l.length (cellsP l) ∧ (∀ g, P.ownBlock = some g → g < m1) ∧
    w'.ownsRow m1 3 1 u1 la.length (ints la) ∧ (∀ g, u1.ownBlock = some g → g < m2) ∧ w'.ownsRow m2 3 1 u2 lb.length (ints lb) ∧ (∀ g, u2.ownBlock = some g → g < b) ∧ I = .slice (some ⟨b, 0, none⟩) 2 2 ∧ w'.heap[b]? = some (.cells #[u1, u2] 32 (0, 0))
theorem own_base {X : World} {base base' : Nat} {e : TypeId} {size n : Nat} {v : Value} {xs : List Value} (h : X.ownsRow base e size v n xs) (hb : base' ≤ base) : X.ownsRow base' e size v n xs := by
  obtain ⟨k1, h | ⟨g, cap, cur, h2, h3, h4⟩⟩ := h
  · exact ⟨k1, .inl h⟩
  · exact ⟨k1, .inr ⟨g, cap, cur, h2, Nat.le_trans hb h3, h4⟩⟩
theorem md_final {w wr wa wb X : World} {l : List (Int × Int × Int)} {la lb : List Int} {P ua ub : Value} (hP : wr.ownsRow (w.heap.size + 3) 41 3 P l.length (cellsP l)) (hr : w.heap.size + 3 ≤ wr.heap.size)
    (hA : wa.ownsRow wr.heap.size 3 1 ua la.length (ints la)) (hB : wb.ownsRow wa.heap.size 3 1 ub lb.length (ints lb)) (ba : Below wr.heap.size wr wa) (bb : Below wa.heap.size wa wb)
    (hX : ∀ k, k < wb.heap.size → k ≠ w.heap.size + 1 → X.heap[k]? = wb.heap[k]?) (hN : X.heap[wb.heap.size]? = some (.cells #[ua, ub] 32 (0, 0))) (hbel : Below w.heap.size w X) :
    MdO w X l la lb P (.slice (some ⟨wb.heap.size, 0, none⟩) 2 2) := by
  have s1 := ba.size
  have s2 := bb.size
  refine ⟨hbel, wr.heap.size, wa.heap.size, wb.heap.size, ua, ub, by omega, s1, s2, at_lt hN, ?_, fun g hg => (hP.lt g hg).2, ?_, fun g hg => (hA.lt g hg).2, ?_, fun g hg => (hB.lt g hg).2, rfl, hN⟩
  · refine own_base (own_row_kept hP fun g cur hg hc => ?_) (by omega)
    have h1 := hP.lt g hg
    rw [hX g (by omega) (by omega), bb.block g (by omega), ba.block g h1.2]; exact hc
  · refine own_row_kept hA fun g cur hg hc => ?_
    have h1 := hA.lt g hg
    rw [hX g (by omega) (by omega), bb.block g h1.2]; exact hc
  · refine own_row_kept hB fun g cur hg hc => ?_
    have h1 := hB.lt g hg
    rw [hX g h1.2 (by omega)]; exact hc
theorem ret2LTT {fn : Func} {a : Act} {W : World} {R : Ending → World → Prop} {b i j k : Nat} {x0 x1 y z : Value} (hfn : fn.results = #[.cell i 24, .tmp j, .tmp k]) (hp : a.tmps[i]?.getD undef = .pointer (some ⟨b, 0, none⟩)) (hj : a.tmps[j]?.getD undef = y) (hk : a.tmps[k]?.getD undef = z) (hd : a.defers = [])
    (h : W.heap[b]? = some (.cells #[x0, x1] 24 (0, 0))) (hR : R (.returned (.tuple #[.agg #[x0, x1], y, z])) W) : bodyPost Try.prog fn R .ret a W := by
  have c0 : W.cell? ⟨b, 0, none⟩ = some x0 := cell_of h rfl
  have c1 : W.cell? ⟨b, 1, none⟩ = some x1 := cell_of h rfl
  exact bodyPost_ret (v := .tuple #[.agg #[x0, x1], y, z]) (by simp [results, hfn, hp, hj, hk, go_sem, c0, c1]) hd hR
set_option maxHeartbeats 8000000 in
theorem c_made (c s n t0 t1 d0 d1 : Nat) (hc : c ≤ 255 ∧ s ≤ 255 ∧ n ≤ 255 ∧ t0 ≤ 255 ∧ t1 ≤ 255 ∧ d0 ≤ 255 ∧ d1 ≤ 255) (A B : Value) (la lb : List Nat) (w : World) (hA : U8Sl w A la) (hB : U8Sl w B lb) :
    Calls Try.prog 26 #[smallV c s n t0 t1 d0 d1 A B] w fun e w' => ∃ P I, e = .returned (.tuple #[lnV (c : Int) P, I, .int .i64 ((n : Int).tmod 41)]) ∧ MdO w w' (mdP ((t0 : Int).tmod 4) ((t1 : Int).tmod 4) ((d0 : Int).tmod 9) ((d1 : Int).tmod 9)) (ldL la) (ldL lb) P I := by
  unfold smallV lnV
  obtain ⟨cs, hcs⟩ : ∃ cs : Array Value, cs = #[.int .u8 (c : Int), .int .u8 (s : Int), .int .u8 (n : Int), .int .u8 (t0 : Int), .int .u8 (t1 : Int), .int .u8 (d0 : Int), .int .u8 (d1 : Int), A, B] := ⟨_, rfl⟩
  obtain ⟨W, hW⟩ : ∃ W, W = ((w.alloc (.cells #[.int .u8 (c : Int), .int .u8 (s : Int), .int .u8 (n : Int), .int .u8 (t0 : Int), .int .u8 (t1 : Int), .int .u8 (d0 : Int), .int .u8 (d1 : Int), A, B] 48)).alloc (.cells #[.int .i64 0, .slice none 0 0] 24)).alloc (.cells #[.int .i64 (c : Int), .slice none 0 0] 24) := ⟨_, rfl⟩
  have HM := Lib.hid (show MdI w cs (c : Int) [] W from ⟨by subst hW hcs; exact old_heap _ (old_heap _ (heap_alloc_new _ _)), by subst hW; exact old_heap _ (row_new _ _ _ (by simp)), ⟨.slice none 0 0, by subst hW; exact row_new _ _ _ (by simp), World.ownsRow_nil _ _ _ _⟩, by subst hW; exact below_a3 _ _ _ _, by subst hW; simp⟩)
  have HCS := Lib.hid hcs
  have HA := Lib.hid hA
  have HBB := Lib.hid hB
  clear hA hB
  obtain ⟨q0, hq0⟩ : ∃ q, (t0 : Int).tmod 4 = q := ⟨_, rfl⟩
  obtain ⟨q1, hq1⟩ : ∃ q, (t1 : Int).tmod 4 = q := ⟨_, rfl⟩
  obtain ⟨r0, hr0⟩ : ∃ q, (d0 : Int).tmod 9 = q := ⟨_, rfl⟩
  obtain ⟨r1, hr1⟩ : ∃ q, (d1 : Int).tmod 9 = q := ⟨_, rfl⟩
  have hw0 : IntKind.i64.wrap (t0 : Int) = t0 := by rw [IntKind.wrap_i64]; omega
  have hw1 : IntKind.i64.wrap (t1 : Int) = t1 := by rw [IntKind.wrap_i64]; omega
  have hw2 : IntKind.i64.wrap (d0 : Int) = d0 := by rw [IntKind.wrap_i64]; omega
  have hw3 : IntKind.i64.wrap (d1 : Int) = d1 := by rw [IntKind.wrap_i64]; omega
  rw [hq0, hq1, hr0, hr1]
  have hwn : IntKind.i64.wrap (n : Int) = n := by rw [IntKind.wrap_i64]; omega
  obtain ⟨nn, hnn⟩ : ∃ q, (n : Int).tmod 41 = q := ⟨_, rfl⟩
  rw [hnn]
  have hwc : IntKind.i64.wrap (c : Int) = c := by rw [IntKind.wrap_i64]; omega
  clear hcs
  obtain ⟨i0, hi0, hz0, hz1, hz2⟩ := info_parts pt_info
  go_enter Try.func26, Try.ntmps26
  go_wp2_with (fail)
  rw [← hW]
  clear hW
  go_loopw [6] (fun i wr => (i = .int .i64 0 ∧ Hid (MdI w cs (c : Int) [] wr)) ∨ (i = .int .i64 1 ∧ Hid (MdI w cs (c : Int) [(0, q0, r0)] wr)) ∨ (i = .int .i64 2 ∧ Hid (MdI w cs (c : Int) (mdP q0 q1 r0 r1) wr))) (fun i _ => 2 - (intOf i).toNat)
  case atStart => exact .inl ⟨rfl, HM⟩
  case round =>
    rcases hrel with ⟨rfl, hM⟩ | ⟨rfl, hM⟩ | ⟨rfl, hM⟩
    · obtain ⟨m1, m2, ⟨v, m3, m4⟩, m5, m6⟩ := hM.out
      rw [HCS.out] at m1
      obtain ⟨x0, x1, x2, x3, x4, x5, x6, x7, x8⟩ := cells9 m1
      obtain ⟨y0, y1⟩ := lin_cells m3
      have f1 : wr.frozen? ⟨w.heap.size + 1 + 1, 1, none⟩ = false := by simp [World.frozen?, m3]
      have y1a : ∀ o, (wr.alloc o).cell? ⟨w.heap.size + 1 + 1, 1, none⟩ = some v := fun o => (lin_cells (old_heap o m3)).2
      have M1 := Lib.hid m1
      have M2 := Lib.hid m2
      have M5 := Lib.hid m5
      clear x0 x1 x2 x4 x6 x7 x8 m1 m2
      go_wp2_with (fail)
      go_region_law (refine step_append_lies _ rfl (.tmp 16) (.tmp 31) 22 rfl (w.heap.size + 3) 41 i0 (.agg #[.int .i64 0, .int .i64 0, .int .i64 0]) 3 24 Try.underlying22 hi0 hz0 hz1 hz2 rfl (by decide) v 0 [] (by simp [Act.eval]) (m4.alloc _) ⟨wr.heap.size, 0, none⟩ 1 1 [.int .i64 0, .int .i64 q0, .int .i64 r0] (by simp [Act.eval]) rfl (World.news_of_block (row_new _ _ _ rfl)) (by intro u hu; simp at hu; rcases hu with rfl | rfl | rfl <;> rfl) (by omega) (by simp only [maxLen]; omega) (by omega) (by (try simp) <;> omega) _ rfl ?_; intro g cap w6 hown6 hgrow hat hlt6; have hc6 := (hgrow.block (w.heap.size + 1 + 1) (by (try simp) <;> omega) (fun e => by have := (m4.lt _ e.symm).1; omega)).trans (old_heap _ m3); obtain ⟨e0, e1⟩ := lin_cells hc6; have f6 : w6.frozen? ⟨w.heap.size + 1 + 1, 1, none⟩ = false := (by simp [World.frozen?, hc6]))
      all_goals (
        have hbb := m5.size
        have hR := md_step (l := []) (p := (0, q0, r0)) M1.out M2.out m3 m4 M5.out m6 hown6 hgrow hat
        have HR := Lib.hid hR
        clear hR hown6 hgrow hat hc6
        go_wp2_with (fail)
        go_roundw
        case rel => exact .inr (.inl ⟨by go_num, Lib.hid (by rw [HCS.out]; exact HR.out)⟩)
        case measure => (simp only [intOf]; omega))
    · obtain ⟨m1, m2, ⟨v, m3, m4⟩, m5, m6⟩ := hM.out
      rw [HCS.out] at m1
      obtain ⟨x0, x1, x2, x3, x4, x5, x6, x7, x8⟩ := cells9 m1
      obtain ⟨y0, y1⟩ := lin_cells m3
      have f1 : wr.frozen? ⟨w.heap.size + 1 + 1, 1, none⟩ = false := by simp [World.frozen?, m3]
      have y1a : ∀ o, (wr.alloc o).cell? ⟨w.heap.size + 1 + 1, 1, none⟩ = some v := fun o => (lin_cells (old_heap o m3)).2
      have M1 := Lib.hid m1
      have M2 := Lib.hid m2
      have M5 := Lib.hid m5
      clear x0 x1 x2 x3 x5 x7 x8 m1 m2
      go_wp2_with (fail)
      go_region_law (refine step_append_lies _ rfl (.tmp 16) (.tmp 31) 22 rfl (w.heap.size + 3) 41 i0 (.agg #[.int .i64 0, .int .i64 0, .int .i64 0]) 3 24 Try.underlying22 hi0 hz0 hz1 hz2 rfl (by decide) v 1 (cellsP [(0, q0, r0)]) (by simp [Act.eval]) (m4.alloc _) ⟨wr.heap.size, 0, none⟩ 1 1 [.int .i64 1, .int .i64 q1, .int .i64 r1] (by simp [Act.eval]) rfl (World.news_of_block (row_new _ _ _ rfl)) (by intro u hu; simp at hu; rcases hu with rfl | rfl | rfl <;> rfl) (by omega) (by simp only [maxLen]; omega) (by omega) (by (try simp) <;> omega) _ rfl ?_; intro g cap w6 hown6 hgrow hat hlt6; have hc6 := (hgrow.block (w.heap.size + 1 + 1) (by (try simp) <;> omega) (fun e => by have := (m4.lt _ e.symm).1; omega)).trans (old_heap _ m3); obtain ⟨e0, e1⟩ := lin_cells hc6; have f6 : w6.frozen? ⟨w.heap.size + 1 + 1, 1, none⟩ = false := (by simp [World.frozen?, hc6]))
      all_goals (
        have hbb := m5.size
        have hR := md_step (l := [(0, q0, r0)]) (p := (1, q1, r1)) M1.out M2.out m3 m4 M5.out m6 hown6 hgrow hat
        have HR := Lib.hid hR
        clear hR hown6 hgrow hat hc6
        go_wp2_with (fail)
        go_roundw
        case rel => exact .inr (.inr ⟨by go_num, Lib.hid (by rw [HCS.out]; exact HR.out)⟩)
        case measure => (simp only [intOf]; omega))
    · have HM2 := Lib.hid hM.out
      obtain ⟨m1, m2, ⟨v, m3, m4⟩, m5, m6⟩ := hM.out
      obtain ⟨gP, cP, rfl⟩ := own_shape m4 (show 0 < 2 by decide)
      rw [HCS.out] at m1
      have M1 := Lib.hid m1
      have M2 := Lib.hid m2
      have M3 := Lib.hid m3
      have M4 := Lib.hid m4
      have M5 := Lib.hid m5
      have HS := Lib.hid (fun (X : World) (h3 : X.heap[w.heap.size + 1 + 1]? = wr.heap[w.heap.size + 1 + 1]?) (h1 : X.heap[w.heap.size]? = wr.heap[w.heap.size]?) => (⟨lin_cells (h3.trans m3), (cells9 (h1.trans m1)).2.2.1, (cells9 (h1.trans m1)).2.2.2.2.2.2.2.1, (cells9 (h1.trans m1)).2.2.2.2.2.2.2.2⟩ : (X.cell? ⟨w.heap.size + 1 + 1, 0, none⟩ = some (.int .i64 (c : Int)) ∧ X.cell? ⟨w.heap.size + 1 + 1, 1, none⟩ = some (.slice (some ⟨gP, 0, none⟩) (mdP q0 q1 r0 r1).length cP)) ∧ X.cell? ⟨w.heap.size, 2, none⟩ = some (.int .u8 (n : Int)) ∧ X.cell? ⟨w.heap.size, 7, none⟩ = some A ∧ X.cell? ⟨w.heap.size, 8, none⟩ = some B))
      have l1 := at_lt m1
      have l3 := at_lt m3
      have HNA := Lib.hid (c_numbers la A wr.drew (HA.out.on m5.drew (Nat.le_refl _)))
      have HNB := Lib.hid (fun (X : World) (hX : Below wr.heap.size wr X) => c_numbers lb B X (HBB.out.on (below_join m5 hX m5.size) (Nat.le_refl _)))
      have hzb := m5.size
      clear m1 m2 m3 m4 m5
      go_wp2_with (fail)
      go_region_held3 (fun X => (X.cell? ⟨w.heap.size + 1 + 1, 0, none⟩ = some (.int .i64 (c : Int)) ∧ X.cell? ⟨w.heap.size + 1 + 1, 1, none⟩ = some (.slice (some ⟨gP, 0, none⟩) (mdP q0 q1 r0 r1).length cP)) ∧ X.cell? ⟨w.heap.size, 2, none⟩ = some (.int .u8 (n : Int)) ∧ X.cell? ⟨w.heap.size, 7, none⟩ = some A ∧ X.cell? ⟨w.heap.size, 8, none⟩ = some B)
        (first | exact HS.out wr.drew rfl rfl | exact HS.out wa (HKA.out.block _ l3) (HKA.out.block _ l1) | exact HS.out wb (HKB.out.block _ l3) (HKB.out.block _ l1) | exact HS.out _ ((HKB.out.alloc HKB.out.size _).block _ l3) ((HKB.out.alloc HKB.out.size _).block _ l1) | exact HS.out _ ((st2_heap (by omega)).trans ((HKB.out.alloc HKB.out.size _).block _ l3)) ((st2_heap (by omega)).trans ((HKB.out.alloc HKB.out.size _).block _ l1)) | exact HS.out _ ((st2_heap (by omega)).trans (HKB.out.block _ l3)) ((st2_heap (by omega)).trans (HKB.out.block _ l1)) | exact HS.out _ ((Below.heap_alloc _ _ _ (by rw [st2_size]; exact l3b)).trans ((st2_heap (by omega)).trans (HKB.out.block _ l3))) ((Below.heap_alloc _ _ _ (by rw [st2_size]; exact l1b)).trans ((st2_heap (by omega)).trans (HKB.out.block _ l1))))
        (first
          | (go_at_call 27; (with_reducible refine HNA.out.mono ?_); rintro e wa ⟨ua, rfl, hoa, hba⟩; obtain ⟨Aa, ca, rfl, -, -⟩ := (own_intSl hoa).shape; have HOA := Lib.hid hoa; have HKA := Lib.hid (below_join (Below.refl wr.heap.size wr).drew hba (Nat.le_refl _)); clear hoa hba)
          | (go_at_call 27; (with_reducible refine (HNB.out wa HKA.out).mono ?_); rintro e wb ⟨ub, rfl, hob, hbb⟩; obtain ⟨Ab, cb, rfl, -, -⟩ := (own_intSl hob).shape; have HOB := Lib.hid hob; have HLB := Lib.hid hbb; have HKB := Lib.hid (below_join HKA.out hbb HKA.out.size); have z0 := fun o => (two_alloc ((HKB.out.block _ (at_lt M2.out)).trans M2.out) o).1; have z1 := fun o => (two_alloc ((HKB.out.block _ (at_lt M2.out)).trans M2.out) o).2.1; have z2 := fun o => (two_alloc ((HKB.out.block _ (at_lt M2.out)).trans M2.out) o).2.2.1; have z3 := fun o => (two_alloc ((HKB.out.block _ (at_lt M2.out)).trans M2.out) o).2.2.2; obtain ⟨z4, z5, z6, z7⟩ := two_here ((HKB.out.block _ (at_lt M2.out)).trans M2.out); have l3b := Nat.lt_of_lt_of_le l3 HKB.out.size; have l1b := Nat.lt_of_lt_of_le l1 HKB.out.size; clear hob hbb)
          | fail)
      · obtain ⟨X, hX⟩ : ∃ X, X = ((wb.alloc (.cells #[.slice Aa (ldL la).length ca, .slice Ab (ldL lb).length cb] 32)).setCell ⟨w.heap.size + 1, 0, none⟩ (.int .i64 (c : Int))).setCell ⟨w.heap.size + 1, 1, none⟩ (.slice (some ⟨gP, 0, none⟩) (mdP q0 q1 r0 r1).length cP) := ⟨_, rfl⟩
        have HRX := Lib.hid (show X.heap[w.heap.size + 1]? = some (.cells #[.int .i64 (c : Int), .slice (some ⟨gP, 0, none⟩) (mdP q0 q1 r0 r1).length cP] 24 (0, 0)) by subst hX; exact set_field (set_field (old_heap _ ((HKB.out.block _ (at_lt M2.out)).trans M2.out)) _) _)
        have hzw := HKB.out.size
        have HO := Lib.hid (show MdO w X (mdP q0 q1 r0 r1) (ldL la) (ldL lb) (.slice (some ⟨gP, 0, none⟩) (mdP q0 q1 r0 r1).length cP) (.slice (some ⟨wb.heap.size, 0, none⟩) 2 2) from
          md_final M4.out m6 HOA.out HOB.out HKA.out HLB.out (fun k hk hne => by subst hX; exact (st2_heap hne).trans (Below.heap_alloc _ _ _ hk)) (by subst hX; exact (st2_heap (by omega)).trans (heap_alloc_new _ _)) (by subst hX; exact (((below_join M5.out HKB.out M5.out.size).alloc (by omega) _).setCell (p := ⟨w.heap.size + 1, 0, none⟩) (by show w.heap.size ≤ w.heap.size + 1; omega) _).setCell (p := ⟨w.heap.size + 1, 1, none⟩) (by show w.heap.size ≤ w.heap.size + 1; omega) _))
        rw [← hX]
        clear hX z0 z1 z2 z3 z4 z5 z6 z7
        go_wp2_with (fail)
        exact ret2LTT rfl rfl rfl rfl rfl HRX.out ⟨_, _, rfl, HO.out⟩
      · obtain ⟨X, hX⟩ : ∃ X, X = ((wb.setCell ⟨w.heap.size + 1, 0, none⟩ (.int .i64 (c : Int))).setCell ⟨w.heap.size + 1, 1, none⟩ (.slice (some ⟨gP, 0, none⟩) (mdP q0 q1 r0 r1).length cP)).alloc (.cells #[.slice Aa (ldL la).length ca, .slice Ab (ldL lb).length cb] 32) := ⟨_, rfl⟩
        have HRX := Lib.hid (show X.heap[w.heap.size + 1]? = some (.cells #[.int .i64 (c : Int), .slice (some ⟨gP, 0, none⟩) (mdP q0 q1 r0 r1).length cP] 24 (0, 0)) by subst hX; exact old_heap _ (set_field (set_field ((HKB.out.block _ (at_lt M2.out)).trans M2.out) _) _))
        have hzw := HKB.out.size
        have HO := Lib.hid (show MdO w X (mdP q0 q1 r0 r1) (ldL la) (ldL lb) (.slice (some ⟨gP, 0, none⟩) (mdP q0 q1 r0 r1).length cP) (.slice (some ⟨wb.heap.size, 0, none⟩) 2 2) from
          md_final M4.out m6 HOA.out HOB.out HKA.out HLB.out (fun k hk hne => by subst hX; exact (Below.heap_alloc _ _ _ (by rw [st2_size]; exact hk)).trans (st2_heap hne)) (by subst hX; exact row_new _ _ _ st2_size.symm) (by subst hX; exact (((below_join M5.out HKB.out M5.out.size).setCell (p := ⟨w.heap.size + 1, 0, none⟩) (by show w.heap.size ≤ w.heap.size + 1; omega) _).setCell (p := ⟨w.heap.size + 1, 1, none⟩) (by show w.heap.size ≤ w.heap.size + 1; omega) _).alloc (by rw [st2_size]; omega) _))
        rw [← hX]
        clear hX z0 z1 z2 z3 z4 z5 z6 z7
        go_wp2_with (fail)
        exact ret2LTT rfl rfl rfl rfl rfl HRX.out ⟨_, _, rfl, HO.out⟩
end Go.Proofs.Ythghinkicaafmaa
