/-
  DERIVED. firstAbove (stage 6).
-/
import Derived.Test.YthghinkicaafmaaAV
import Derived.Test.YthghinkicaafmaaAC
namespace Go.Proofs.Ythghinkicaafmaa
open Go.RowKit Go.Shelf
attribute [local go_sem] Oper.semAt_some
set_option maxRecDepth 100000

theorem boxed_put {X : World} {b l : Nat} {T : TypeId} {v : Value} {o o' : Obj} (h : Boxed X b T v) (hl : X.heap[l]? = some o) (ho : o.isCells = false) : Boxed (X.putObj l o') b T v := put_cells h hl ho
/-- No level so far is above the limit. -/
structure FaI (w : World) (lim : Int) (pre : List (Nat × Int)) (X : World) : Prop where
  lm : Boxed X w.heap.size 3 (.int .i64 lim)
  rs : Boxed X (w.heap.size + 1) 3 (.int .i64 0)
  bel : Below w.heap.size w X
  low : ∀ y ∈ pre, y.2 ≤ lim
/-- A level was above it. -/
structure FaX (w : World) (r : Int) (X : World) : Prop where
  rs : Boxed X (w.heap.size + 1) 3 (.int .i64 r)
  bel : Below w.heap.size w X
section
variable {w X Y : World} {lim r : Int} {pre : List (Nat × Int)} {S m : Nat}
theorem FaI.own (h : FaI w lim pre X) (hE : OwnIt S m X Y) (hS : w.heap.size + 2 ≤ S) : FaI w lim pre Y := ⟨hE.same _ _ h.lm (.inl (by omega)), hE.same _ _ h.rs (.inl (by omega)), below_own h.bel hE (by omega), h.low⟩
theorem FaX.own (h : FaX w r X) (hE : OwnIt S m X Y) (hS : w.heap.size + 2 ≤ S) : FaX w r Y := ⟨hE.same _ _ h.rs (.inl (by omega)), below_own h.bel hE (by omega)⟩
theorem FaI.put {l : Nat} {o o' : Obj} (h : FaI w lim pre X) (hw : w.heap.size ≤ l) (hl : X.heap[l]? = some o) (ho : o.isCells = false) : FaI w lim pre (X.putObj l o') := ⟨put_cells h.lm hl ho, put_cells h.rs hl ho, below_put h.bel hw, h.low⟩
theorem FaX.put {l : Nat} {o o' : Obj} (h : FaX w r X) (hw : w.heap.size ≤ l) (hl : X.heap[l]? = some o) (ho : o.isCells = false) : FaX w r (X.putObj l o') := ⟨put_cells h.rs hl ho, below_put h.bel hw⟩
end
theorem frs_stop {ts : List (Nat × Int)} (hf : ∀ (i : Nat) (t : Nat × Int), ts[i]? = some t → t.1 = i) {lim : Int} {pre : List (Nat × Int)} {t : Nat × Int} (hp : pre ++ [t] <+: ts) (h1 : ∀ y ∈ pre, y.2 ≤ lim) (h2 : lim < t.2) : frs lim (ts.map (·.2)) = (t.1 : Int) := by
  obtain ⟨rest, hr⟩ := hp
  have ht : ts[pre.length]? = some t := by rw [← hr]; simp
  rw [hf _ _ ht]
  refine frs_at (x := t.2) (by rw [List.getElem?_map, ht]; rfl) h2 (fun j y hj hy => ?_)
  rw [List.getElem?_map, ← hr, List.append_assoc, List.getElem?_append_left hj, List.getElem?_eq_getElem hj] at hy
  injection hy with hy
  rw [← hy]
  exact h1 _ (List.getElem_mem hj)
set_option maxHeartbeats 8000000 in
theorem c_firstAbove (lim : Int) (lb : Array Value) (Gd : Nat → Prop) (ts : List (Nat × Int)) (hf : ∀ (i : Nat) (t : Nat × Int), ts[i]? = some t → t.1 = i) (w : World) (hGd : ∀ k, Gd k → k < w.heap.size) (hseq : SeqIt 7 Try.prog 48 lb 3 Gd okL ts w) (r : Int) (hr : frs lim (ts.map (·.2)) = r) :
    Calls Try.prog 37 #[.int .i64 lim, .func (.func 48) #[] lb] w fun e w' => e = .returned (.int .i64 r) ∧ Below w.heap.size w w' := by
  obtain ⟨W, hW⟩ : ∃ W, W = (w.alloc (.cells #[.int .i64 lim] 3)).alloc (.cells #[.int .i64 0] 3) := ⟨_, rfl⟩
  have HB := Lib.hid (show Below w.heap.size w W by subst hW; exact ((Below.refl _ _).alloc (Nat.le_refl _) _).alloc (by simp) _)
  have H0 := Lib.hid (show Boxed W w.heap.size 3 (.int .i64 lim) by subst hW; exact old_heap _ (heap_alloc_new _ _))
  have H1 := Lib.hid (show Boxed W (w.heap.size + 1) 3 (.int .i64 0) by subst hW; exact row_new _ _ _ (by simp))
  have hzW : w.heap.size + 2 ≤ W.heap.size := by subst hW; simp
  have HSQ := Lib.hid hseq
  have HGD := Lib.hid hGd
  have HF := Lib.hid hf
  have HR := Lib.hid hr
  clear hseq hGd hf hr
  refine (callsIn_wide (n := 8)).1 ?_
  refine callsIn_of_wp_marks Try.func37 rfl trivial ?_ rfl
  simp only [Try.ntmps37, List.size_toArray, List.length_cons, List.length_nil, Nat.reduceAdd, Nat.reduceSub, Array.replicate_succ, Array.replicate_zero, List.push_toArray, List.append_toArray, List.nil_append, List.cons_append]
  rw [wpIn_wide]
  go_wp2_with (fail)
  rw [← hW]
  clear hW
  refine (wpIn_wide (n := 8)).1 ?_
  refine wpIn_it (n := 8) (by omega) (gf := 48) (lb := lb) rfl eg_lv (m := 3) (Gd := Gd) (ok := okL) (ts := ts) (w0 := w) HSQ.out (KpG.of_below HB.out (Nat.le_refl _)) (fun v t h => by rw [h]; rfl)
    (fun pre X => FaI w lim pre X) (fun c _ X => c = .ret ∧ FaX w r X)
    (fun pre X Y h hE => h.own hE (by omega)) (fun c pre X Y h hE => ⟨h.1, h.2.own hE (by omega)⟩)
    (fun pre X l o o' h hl ho hc => h.put (by omega) ho hc) (fun c pre X l o o' h hl ho hc => ⟨h.1, h.2.put (by omega) ho hc⟩)
    ⟨H0.out, H1.out, HB.out, fun y hy => absurd hy List.not_mem_nil⟩ ?round ?done ?stop
  case round =>
    intro l pre v x X K hpre hok hK
    obtain ⟨x1, x2⟩ := x
    obtain rfl : v = #[.int .i64 (x1 : Int), .int .i64 x2] := hok
    gi_wp2_with (fail)
    refine hK _ _ (Below.refl _ _) ?_
    rintro Y ⟨o, o', ho, hoc, hYe⟩ hsz ⟨i1, i2, i3, i4⟩
    have HI := Lib.hid (And.intro i1 (And.intro i2 (And.intro i3 i4)))
    have y0 := i1.cell
    have y1 := i2.cell
    have f1 := i2.frozen
    have HP := Lib.hid hpre
    clear hYe ho hoc o o' hK i1 i2 i3 i4 hpre
    rcases Int.lt_or_le lim x2 with hlt | hle
    · gi_wp2_with (fail)
      obtain ⟨i1, i2, i3, i4⟩ := HI.out
      have hrx : (x1 : Int) = r := by rw [← HR.out, frs_stop HF.out HP.out i4 hlt]
      exact ⟨kf_store _ i2, rfl, by rw [← hrx]; exact i2.set _, i3.setCell (p := ⟨w.heap.size + 1, 0, none⟩) (by show w.heap.size ≤ w.heap.size + 1; omega) _⟩
    · gi_wp2_with (fail)
      obtain ⟨i1, i2, i3, i4⟩ := HI.out
      exact ⟨KeepsFrom.refl _ _, KpIt.refl _, i1, i2, i3, fun y hy => by
        rcases List.mem_append.1 hy with h | h
        · exact i4 y h
        · rw [List.mem_singleton.1 h]; exact hle⟩
  case done =>
    rintro D X rfl ⟨i1, i2, i3, i4⟩ hdef
    have HRX := Lib.hid (show (-1 : Int) = r by
      rw [← HR.out]
      refine (frs_none.2 (fun x hx => ?_)).symm
      obtain ⟨y, hy, rfl⟩ := List.mem_map.1 hx
      exact i4 y hy)
    have y1 := i2.cell
    have f1 := i2.frozen
    have HDEF := Lib.hid hdef
    have H2 := Lib.hid i2
    have H3 := Lib.hid i3
    clear i1 i2 i3 i4 hdef
    go_wp2_with (fail)
    have hD2 : (X.setCell ⟨w.heap.size + 1, 0, none⟩ (.int .i64 (-1))).heap[W.heap.size]? = some (.deferred (some [])) := by
      rw [Below.heap_setCell _ ⟨w.heap.size + 1, 0, none⟩ _ W.heap.size (by show W.heap.size ≠ w.heap.size + 1; omega)]
      exact HDEF.out
    have n1 := (boxed_put (o' := .deferred none) (H2.out.set (.int .i64 (-1))) hD2 rfl).cell
    refine ⟨by simp, .inl ⟨_, _, rfl, run_takeDeferred hD2, ?_⟩⟩
    exact ⟨.int .i64 (-1), by simp [results, Try.results37, go_sem, n1], by rw [HRX.out], below_put (H3.out.setCell (p := ⟨w.heap.size + 1, 0, none⟩) (by show w.heap.size ≤ w.heap.size + 1; omega) _) (by omega)⟩
  case stop =>
    rintro D c pre X rfl hpre ⟨rfl, i1, i2⟩ hdef
    have n1 := (boxed_put (o' := .deferred none) i1 hdef rfl).cell
    have HDEF := Lib.hid hdef
    have H2 := Lib.hid i2
    clear i1 i2 hdef hpre
    gi_wp2_with (fail)
    refine ⟨by simp, .inl ⟨_, _, rfl, run_takeDeferred HDEF.out, ?_⟩⟩
    exact ⟨.int .i64 r, by simp [results, Try.results37, go_sem, n1], rfl, below_put H2.out (by omega)⟩
end Go.Proofs.Ythghinkicaafmaa
