/-
  DERIVED. Several texts in one.
-/
import Derived.Test.YtjheaeeeeggncaaPB3
import Derived.Test.YtjheaeeeeggncaaPB2
import Derived.Laws.EntriesVeiled
set_option linter.unusedVariables false
set_option linter.unusedSimpArgs false

namespace Go.Proofs.Ytjheaeeeeggncaa
open Go.RowKit Go.Shelf
attribute [local go_sem] Oper.semAt_some
set_option maxRecDepth 100000
set_option linter.unusedVariables false
set_option linter.unusedSimpArgs false

theorem zeroInt (w : World) : (zeroValue 3).run Try.prog w = .ok (.int .i64 0) w := by kernel_rfl
/-- Where ways keeps its variables: kb: what is known (the map M); bb: the order (the block g); cb: the closure. -/
structure WyA where
  g : Nat
  kb : Nat
  M : Nat
  bb : Nat
  cb : Nat
def WyA.fn (a : WyA) : Value := .func (.func 81) #[] #[.pointer (some ⟨a.kb, 0, none⟩), .pointer (some ⟨a.bb, 0, none⟩), .pointer (some ⟨a.cb, 0, none⟩)]
structure WyAt (n : Nat) (f : Nat → Nat) (a : WyA) (tab : List (Nat × Nat)) (W : World) : Prop where
  blk : Blk W a.g n f
  known : W.heap[a.kb]? = some (.cells #[.map (some a.M)] 98 (0, 0))
  map : MapN W a.M tab
  ord : W.heap[a.bb]? = some (.cells #[.slice (some ⟨a.g, 0, none⟩) n n] 64 (0, 0))
  clo : W.heap[a.cb]? = some (.cells #[a.fn] 81 (0, 0))
  ok : TabOk n f tab
  all : (2 ^ n - 1, 1) ∈ tab
theorem MapN.ne {W : World} {M k : Nat} {tab : List (Nat × Nat)} {cs : Array Value} {T : TypeId} {fr : Nat × Nat} (h : MapN W M tab) (hk : W.heap[k]? = some (.cells cs T fr)) : k ≠ M := by
  obtain ⟨es, h1, -⟩ := h
  intro e
  subst e
  rw [h1] at hk
  cases hk
theorem WyAt.but {n : Nat} {f : Nat → Nat} {a : WyA} {tab new : List (Nat × Nat)} {W X : World} (h : WyAt n f a tab W) (hb : But a.M W X) (hm : MapN X a.M (tab ++ new)) (hn : TabOk n f new) : WyAt n f a (tab ++ new) X :=
  ⟨hb.same _ _ (h.map.ne h.blk) h.blk, hb.same _ _ (h.map.ne h.known) h.known, hm, hb.same _ _ (h.map.ne h.ord) h.ord, hb.same _ _ (h.map.ne h.clo) h.clo, h.ok.app hn, List.mem_append_left _ h.all⟩
theorem WyAt.on {n B : Nat} {f : Nat → Nat} {a : WyA} {tab : List (Nat × Nat)} {W X : World} (h : WyAt n f a tab W) (hb : Below B W X) (hB : W.heap.size ≤ B) : WyAt n f a tab X := by
  have hm := h.map.on hb hB
  have := h.but (new := []) (X := X) (But.of_below hb hB) (by simpa using hm) (fun x hx => by cases hx)
  simpa using this
def Sup (s x : Nat) : Prop := ∀ i, s.testBit i = true → x.testBit i = true
/-- What is added. -/
structure New (n : Nat) (f : Nat → Nat) (s : Nat) (new : List (Nat × Nat)) : Prop where
  ok : TabOk n f new
  sup : ∀ x ∈ new, Sup s x.1
theorem New.nil {n : Nat} {f : Nat → Nat} (s : Nat) : New n f s [] := ⟨fun x hx => (by cases hx), fun x hx => (by cases hx)⟩
theorem New.app {n s : Nat} {f : Nat → Nat} {a b : List (Nat × Nat)} (h : New n f s a) (k : New n f s b) : New n f s (a ++ b) := ⟨h.ok.app k.ok, fun x hx => by
  rcases List.mem_append.1 hx with hx | hx
  · exact h.sup x hx
  · exact k.sup x hx⟩
def WyPost (n : Nat) (f : Nat → Nat) (a : WyA) (tab : List (Nat × Nat)) (s : Nat) (W : World) (e : Ending) (W' : World) : Prop :=
  e = .returned (.int .i64 ((wys n f s : Nat) : Int)) ∧ ∃ new, WyAt n f a (tab ++ new) W' ∧ New n f s new ∧ But a.M W W'
/-- Between two rounds. -/
structure WyI (n : Nat) (f : Nat → Nat) (a : WyA) (tab : List (Nat × Nat)) (s : Nat) (W : World) (pre : List Nat) (X : World) : Prop where
  ib : X.heap[W.heap.size]? = some (.cells #[.int .u16 (s : Int)] 72 (0, 0))
  mb : X.heap[W.heap.size + 1]? = some (.cells #[.int .i64 ((sumW (fun i => wys n f (s ||| 1 <<< i)) pre : Nat) : Int)] 3 (0, 0))
  at_ : ∃ new, WyAt n f a (tab ++ new) X ∧ New n f s new ∧ ∀ x ∈ new, ∃ i, s.testBit i = false ∧ x.1.testBit i = true
  bt : But a.M W X
theorem WyAt.keep {n : Nat} {f : Nat → Nat} {a : WyA} {tab : List (Nat × Nat)} {X Y : World} (h : WyAt n f a tab X) (hs : ∀ (k : Nat) (o : Obj), k = a.g ∨ k = a.kb ∨ k = a.M ∨ k = a.bb ∨ k = a.cb → X.heap[k]? = some o → Y.heap[k]? = some o) : WyAt n f a tab Y :=
  ⟨hs _ _ (by simp) h.blk, hs _ _ (by simp) h.known, h.map.keep fun o ho => hs _ _ (by simp) ho, hs _ _ (by simp) h.ord, hs _ _ (by simp) h.clo, h.ok, h.all⟩
theorem WyI.own {n : Nat} {f : Nat → Nat} {a : WyA} {tab : List (Nat × Nat)} {s S : Nat} {W X Y : World} {pre : List Nat} (h : WyI n f a tab s W pre X) (hE : OwnIt S 0 X Y) (hS : W.heap.size + 2 ≤ S) (hM : a.M < S) : WyI n f a tab s W pre Y := by
  have hc : ∀ (k : Nat) (cs : Array Value) (T : TypeId) (fr : Nat × Nat), X.heap[k]? = some (.cells cs T fr) → Y.heap[k]? = some (.cells cs T fr) := fun k cs T fr ho => by
    rcases Nat.lt_or_ge k S with g | g
    · exact hE.same k _ ho (.inl g)
    · exact hE.same k _ ho (.inr ⟨rfl, g⟩)
  obtain ⟨new, h1, h2, h3⟩ := h.at_
  exact ⟨hc _ _ _ _ h.ib, hc _ _ _ _ h.mb, ⟨new, ⟨hc _ _ _ _ h1.blk, hc _ _ _ _ h1.known, h1.map.keep fun o ho => hE.same _ _ ho (.inl hM), hc _ _ _ _ h1.ord, hc _ _ _ _ h1.clo, h1.ok, h1.all⟩, h2, h3⟩, h.bt.own hE (by omega)⟩
theorem WyI.put {n : Nat} {f : Nat → Nat} {a : WyA} {tab : List (Nat × Nat)} {s l : Nat} {W X : World} {pre : List Nat} {o o' : Obj} (h : WyI n f a tab s W pre X) (hl : W.heap.size ≤ l) (hM : a.M < W.heap.size) (ho : X.heap[l]? = some o) (hc : o.isCells = false) : WyI n f a tab s W pre (X.putObj l o') := by
  obtain ⟨new, h1, h2, h3⟩ := h.at_
  exact ⟨put_cells h.ib ho hc, put_cells h.mb ho hc, ⟨new, ⟨put_cells h1.blk ho hc, put_cells h1.known ho hc, h1.map.keep fun o hh => put_else hh (by omega), put_cells h1.ord ho hc, put_cells h1.clo ho hc, h1.ok, h1.all⟩, h2, h3⟩, h.bt.put _ hl⟩
set_option maxHeartbeats 16000000 in
theorem c_ways1 (a : WyA) (n : Nat) (f : Nat → Nat) (hn : n ≤ 12) (hf : ∀ j, f j < 2 ^ 12) : ∀ (r s : Nat) (tab : List (Nat × Nat)) (W : World), s < 2 ^ n → free n s = r → WyAt n f a tab W →
    Calls Try.prog 81 #[.int .u16 (s : Int), .pointer (some ⟨a.kb, 0, none⟩), .pointer (some ⟨a.bb, 0, none⟩), .pointer (some ⟨a.cb, 0, none⟩)] W (WyPost n f a tab s W) := by
  intro r
  induction r using Nat.strongRecOn with
  | _ r ih =>
    intro s tab W hs hr h
    have hs12 : s < 2 ^ 12 := Nat.lt_of_lt_of_le hs (Nat.pow_le_pow_right (by omega) hn)
    obtain ⟨V1, h1⟩ : ∃ V, V = W.alloc (.cells #[.int .u16 (s : Int)] 72) := ⟨_, rfl⟩
    have b1 : Below W.heap.size W V1 := by rw [h1]; exact (Below.refl _ _).alloc (Nat.le_refl _) _
    have z1 : V1.heap.size = W.heap.size + 1 := by rw [h1, World.size_alloc]
    have A1 := h.on b1 (Nat.le_refl _)
    have hlk := run_lookM Try.underlying98 Try.underlying72 (zeroInt V1) A1.map s
    have x0 := cell_of A1.known (o := 0) rfl
    have x1 : V1.cell? ⟨W.heap.size, 0, none⟩ = some (.int .u16 (s : Int)) := cell_of (by rw [h1]; exact heap_alloc_new _ _) rfl
    have H := Lib.hid h
    have HIH := Lib.hid ih
    have HR := Lib.hid hr
    rcases hq : assocN s tab with _ | v
    · rw [hq] at hlk
      simp only [Option.getD_none, Option.isSome_none] at hlk
      have HQ := Lib.hid hq
      have hne : s ≠ 2 ^ n - 1 := fun e => assocN_none.1 hq _ h.all e.symm
      obtain ⟨V, hV⟩ : ∃ V, V = V1.alloc (.cells #[.int .i64 0] 3) := ⟨_, rfl⟩
      have bV : Below W.heap.size W V := by rw [hV]; exact b1.alloc b1.size _
      have zV : V.heap.size = W.heap.size + 2 := by rw [hV, World.size_alloc, z1]
      have HBV := Lib.hid bV
      have hML := h.map.lt
      have HAV := Lib.hid (h.on bV (Nat.le_refl _))
      have HIB := Lib.hid (show V.heap[W.heap.size]? = some (.cells #[.int .u16 (s : Int)] 72 (0, 0)) by rw [hV]; refine old_heap _ ?_; rw [h1]; exact heap_alloc_new _ _)
      have HMB := Lib.hid (show V.heap[W.heap.size + 1]? = some (.cells #[.int .i64 0] 3 (0, 0)) by rw [hV, ← z1]; exact heap_alloc_new _ _)
      have y0 := cell_of HAV.out.ord (o := 0) rfl
      have y1 := cell_of HIB.out (o := 0) rfl
      rw [h1] at hlk x0 x1
      rw [hV, h1] at y0 y1
      clear h ih hr hq b1 z1 A1 bV
      refine (callsIn_wide (n := 8)).1 ?_
      refine callsIn_of_wp_marks Try.func81 rfl trivial ?_ rfl
      simp only [Try.ntmps81, List.size_toArray, List.length_cons, List.length_nil, Nat.reduceAdd, Nat.reduceSub, Array.replicate_succ, Array.replicate_zero, List.push_toArray, List.append_toArray, List.nil_append, List.cons_append]
      rw [wpIn_wide]
      go_wp2_with (fail)
      rw [← h1, ← hV]
      clear h1 hV hlk x0 x1 y0 y1
      go_at_call 59
      refine (c_enabled a.g n f hn hf s hs12 V HAV.out.blk).mono ?_
      rintro e v1 ⟨rfl, hv1⟩
      rw [hv1]
      clear hv1 v1
      have HLE := Lib.hid (lst_en (b := f) (s := s) hn)
      have hsb : setB (enB f s) n < 2 ^ 12 := Nat.lt_of_lt_of_le (setB_lt _ _) (Nat.pow_le_pow_right (by omega) hn)
      obtain ⟨t, ht⟩ : ∃ t, setB (enB f s) n = t := ⟨_, rfl⟩
      rw [ht] at HLE hsb ⊢
      have HSQ := Lib.hid (c_each 7 (by omega) (fun _ => False) t hsb V)
      rw [HLE.out] at HSQ
      have HST := Lib.hid (wys_step (b := f) hs hne)
      have HWB := Lib.hid (fun k => wys_12 (b := f) hn k)
      clear ht
      go_wp2_with (fail)
      refine (wpIn_wide (n := 8)).1 ?_
      refine wpIn_it (n := 8) (by omega) (gf := 77) (fb := #[.int .u16 (t : Int)]) (lb := #[]) rfl eg_each (m := 0) (Gd := fun _ => False) (ok := okE) (ts := enL n f s) (w0 := V) HSQ.out (KpG.refl _) (fun v t h => by rw [h]; rfl)
        (fun pre X => WyI n f a tab s W pre X) (fun _ _ _ => False)
        (fun pre X Y h hE => h.own hE (by omega) (by omega)) (fun _ _ _ _ h _ => h.elim)
        (fun pre X l o o' h hl ho hc => h.put (by omega) hML ho hc) (fun _ _ _ _ _ _ h _ _ _ => h.elim)
        ⟨HIB.out, HMB.out, ⟨[], by simpa using HAV.out, New.nil s, fun x hx => by cases hx⟩, But.of_below HBV.out (Nat.le_refl _)⟩ ?iround ?idone (fun _ _ _ _ _ _ h _ => h.elim)
      case iround =>
        intro l pre v i X K hpre hok hKK
        obtain rfl : v = #[.int .i64 (i : Int)] := hok
        gi_wp2_with (fail)
        refine hKK _ _ (Below.refl _ _) ?_
        rintro Y ⟨o, o', ho', hoc, hYe⟩ hsz hI
        have hie := hpre.subset (show i ∈ pre ++ [i] by simp)
        have hin := enL_mem.1 hie
        have hnb : s.testBit i = false := by have := hin.2; unfold enB at this; simp at this; exact this.1
        have HNB := Lib.hid hnb
        have hfr := free_put hin.1 hnb
        have hs2 := put_lt hs hin.1
        obtain ⟨s2, hs2e⟩ : ∃ t, s ||| 1 <<< i = t := ⟨_, rfl⟩
        have HS2 := Lib.hid hs2e
        have HBIT := Lib.hid (show Sup s s2 ∧ s2.testBit i = true by rw [← hs2e]; exact ⟨fun j hj => by rw [or_bit, hj]; rfl, by rw [or_bit]; simp⟩)
        obtain ⟨new, hat, hnw, hnn⟩ := hI.at_
        have HAT := Lib.hid hat
        have HNW := Lib.hid hnw
        have HNN := Lib.hid hnn
        have HI := Lib.hid hI
        rw [hs2e] at hfr hs2
        have HCW := Lib.hid (fun (Z : World) (hZ : WyAt n f a (tab ++ new) Z) => HIH.out (free n s2) (by have := HR.out; omega) s2 (tab ++ new) Z hs2 rfl hZ)
        have HCO := Lib.hid (fun (Z : World) => c_with s i (by omega) (by have := hin.1; omega) Z)
        rw [hs2e] at HCO
        have z0 := cell_of hI.mb (o := 0) rfl
        have z1 := cell_of hI.ib (o := 0) rfl
        have z2 := cell_of hat.clo (o := 0) rfl
        unfold WyA.fn at z2
        have hsp := sumW_pre (fun i => wys n f (s ||| 1 <<< i)) hpre
        have hso := sumW_snoc (fun i => wys n f (s ||| 1 <<< i)) pre i
        have hwb := HWB.out s
        rw [HST.out] at hwb
        rw [show sumW (fun i => wys n f (s ||| 1 <<< i)) (pre ++ [i]) = sumW (fun i => wys n f (s ||| 1 <<< i)) pre + wys n f s2 by rw [hso, hs2e]] at hsp
        have hsp2 : sumW (fun i => wys n f (s ||| 1 <<< i)) pre + wys n f s2 ≤ 479001600 := Nat.le_trans hsp hwb
        have HSO := Lib.hid (show sumW (fun i => wys n f (s ||| 1 <<< i)) (pre ++ [i]) = sumW (fun i => wys n f (s ||| 1 <<< i)) pre + wys n f s2 by rw [hso, hs2e])
        obtain ⟨S, hS⟩ : ∃ S, sumW (fun i => wys n f (s ||| 1 <<< i)) pre = S := ⟨_, rfl⟩
        obtain ⟨ws, hws⟩ : ∃ S, wys n f s2 = S := ⟨_, rfl⟩
        have HSS := Lib.hid hS
        rw [hS] at z0 HSO hsp2
        have HWS := Lib.hid hws
        rw [hws] at HSO hsp2
        have hw : IntKind.i64.wrap ((S : Int) + (ws : Int)) = ((S + ws : Nat) : Int) := by rw [wrap_in (by omega) (by omega)]; omega
        have hfm : Try.prog.follows Departure.mixedOrders = true := by kernel_rfl
        clear hYe ho' hoc o o' hKK hI hpre hie hin hnb hs2e hat hnw hnn hsp hso hwb hS hws hfr hs2
        gi_wp2_with (fail)
        refine region_round_z 7 (S := fun X => X.cell? ⟨W.heap.size + 1, 0, none⟩ = some (.int .i64 (S : Int)) ∧ X.cell? ⟨a.cb, 0, none⟩ = some (.func (.func 81) #[] #[.pointer (some ⟨a.kb, 0, none⟩), .pointer (some ⟨a.bb, 0, none⟩), .pointer (some ⟨a.cb, 0, none⟩)]) ∧ X.cell? ⟨W.heap.size, 0, none⟩ = some (.int .u16 (s : Int))) hfm (by kernel_rfl) ⟨z0, z2, z1⟩ (fun hHeld => ?_)
        refine takeZ 0 (some 22) (by kernel_rfl) rfl rfl (by kernel_rfl) (by kernel_rfl) (by kernel_rfl) (fun _ _ _ h => h) (by rfl) (by intro w ⟨g1, g2, g3⟩; go_simp; try with_reducible rfl) hHeld ?_
        simp only [Act.put, List.setIfInBounds_toArray, List.set_cons_zero, List.set_cons_succ]
        refine takeZ 1 (some 23) (by kernel_rfl) rfl rfl (by kernel_rfl) (by kernel_rfl) (by kernel_rfl) (fun _ _ _ h => h) (by rfl) (by intro w ⟨g1, g2, g3⟩; go_simp; try with_reducible rfl) hHeld ?_
        simp only [Act.put, List.setIfInBounds_toArray, List.set_cons_zero, List.set_cons_succ]
        refine takeZ 2 (some 24) (by kernel_rfl) rfl rfl (by kernel_rfl) (by kernel_rfl) (by kernel_rfl) (fun _ _ _ h => h) (by rfl) (by intro w ⟨g1, g2, g3⟩; go_simp; try with_reducible rfl) hHeld ?_
        simp only [Act.put, List.setIfInBounds_toArray, List.set_cons_zero, List.set_cons_succ]
        refine takeZ 3 (some 25) (by kernel_rfl) rfl rfl (by kernel_rfl) (by kernel_rfl) (by kernel_rfl) (fun _ _ _ h => h) (by rfl) (by intro w ⟨g1, g2, g3⟩; go_simp; try with_reducible rfl) hHeld ?_
        simp only [Act.put, List.setIfInBounds_toArray, List.set_cons_zero, List.set_cons_succ]
        refine oneZ 4 rfl (by kernel_rfl) (fun K hK => ?_)
        go_simp
        go_at_call 80
        refine (HCO.out Y.drew).mono ?_
        rintro e wa ⟨rfl, hwa⟩
        rw [hwa]
        clear hwa wa
        refine hK.out _ _ (.inr hHeld) ?_
        clear hK K
        try simp only [Act.put, List.setIfInBounds_toArray, List.set_cons_zero, List.set_cons_succ]
        refine oneZ 5 rfl (by kernel_rfl) (fun K hK => ?_)
        go_simp
        go_at_call 81
        refine (HCW.out Y.drew (HAT.out.on (Below.refl _ _).drew (Nat.le_refl _))).mono ?_
        rintro e v2 ⟨he, new2, hat2, hnw2, hb2⟩
        rw [HWS.out] at he
        subst he
        have hb2' : But a.M Y v2 := (But.drew (b := a.M)).trans hb2
        have hM2 : a.M < Y.heap.size := HAT.out.map.lt
        have m1 : v2.heap[W.heap.size + 1]? = some (.cells #[.int .i64 (S : Int)] 3 (0, 0)) := by rw [← HSS.out]; exact hb2'.same _ _ (show W.heap.size + 1 ≠ a.M by omega) HI.out.mb
        have m0 := hb2'.same _ _ (show W.heap.size ≠ a.M by omega) HI.out.ib
        have m2 := hat2.clo
        have HFIN := Lib.hid (show ∀ v : Int, v = (S : Int) + (ws : Int) → KeepsFrom V.heap.size Y (v2.setCell ⟨W.heap.size + 1, 0, none⟩ (.int .i64 v)) ∧ KpIt (V.heap.size + 2) 0 (fun _ => False) Y (v2.setCell ⟨W.heap.size + 1, 0, none⟩ (.int .i64 v)) ∧ WyI n f a tab s W (pre ++ [i]) (v2.setCell ⟨W.heap.size + 1, 0, none⟩ (.int .i64 v)) from fun v hv => by
          have hk := kf_store (B := 0) (o := 0) (.int .i64 v) m1
          have hot : ∀ (k : Nat) (o : Obj), k ≠ a.M → Y.heap[k]? = some o → o.isCells = false → (v2.setCell ⟨W.heap.size + 1, 0, none⟩ (.int .i64 v)).heap[k]? = some o := fun k o h1 h2 h3 => hk.same k o (Nat.zero_le _) (hb2'.same k o h1 h2) h3
          have hsz2 : Y.heap.size ≤ (v2.setCell ⟨W.heap.size + 1, 0, none⟩ (.int .i64 v)).heap.size := Nat.le_trans hb2'.size hk.size
          refine ⟨⟨hsz2, fun k o h1 h2 h3 => hot k o (by omega) h2 h3⟩, ⟨hsz2, fun k cs t fr h1 h2 => by rcases h1 with h1 | h1; exact h1.elim; omega, fun k o h1 h2 h3 => hot k o (by omega) h2 h3⟩, ⟨?_, ?_, ?_, ?_⟩⟩
          · exact set_else m0 (by omega)
          · rw [HSO.out, show ((S + ws : Nat) : Int) = v by omega]; exact set_field m1 _
          · refine ⟨new ++ new2, ?_, HNW.out.app ⟨hnw2.ok, fun x hx j hj => hnw2.sup x hx j (HBIT.out.1 j hj)⟩, fun x hx => ?_⟩
            · rw [← List.append_assoc]
              have hne : ∀ (k : Nat) (cs : Array Value) (T : TypeId) (fr : Nat × Nat), v2.heap[k]? = some (.cells cs T fr) → k ≠ W.heap.size + 1 → (v2.setCell ⟨W.heap.size + 1, 0, none⟩ (.int .i64 v)).heap[k]? = some (.cells cs T fr) := fun k cs T fr h1 h2 => set_else h1 h2
              have l1 := at_lt H.out.blk; have l2 := at_lt H.out.known; have l3 := at_lt H.out.ord; have l4 := at_lt H.out.clo
              exact ⟨set_else hat2.blk (by omega), set_else hat2.known (by omega), hat2.map.keep fun o ho => set_else ho (by omega), set_else hat2.ord (by omega), set_else hat2.clo (by omega), hat2.ok, hat2.all⟩
            · rcases List.mem_append.1 hx with hx | hx
              · exact HNN.out x hx
              · exact ⟨i, HNB.out, hnw2.sup x hx i HBIT.out.2⟩
          · have hb3 := HI.out.bt.trans hb2'
            refine ⟨hb3.os, hb3.tape, hb3.output, Nat.le_trans hb3.size hk.size, fun k o h1 h2 => set_else (hb3.same k o h1 h2) ?_⟩
            have := at_lt h2
            omega)
        have q1 := cell_of m1 (o := 0) rfl
        have q2 := cell_of m2 (o := 0) rfl
        have q0 := cell_of m0 (o := 0) rfl
        have qf := frz m1 0
        unfold WyA.fn at q2
        have hH2 : (fun X : World => X.cell? ⟨W.heap.size + 1, 0, none⟩ = some (.int .i64 (S : Int)) ∧ X.cell? ⟨a.cb, 0, none⟩ = some (.func (.func 81) #[] #[.pointer (some ⟨a.kb, 0, none⟩), .pointer (some ⟨a.bb, 0, none⟩), .pointer (some ⟨a.cb, 0, none⟩)]) ∧ X.cell? ⟨W.heap.size, 0, none⟩ = some (.int .u16 (s : Int))) v2 := ⟨q1, q2, q0⟩
        refine hK.out _ _ (.inr hH2) ?_
        clear hK K hHeld
        try simp only [Act.put, List.setIfInBounds_toArray, List.set_cons_zero, List.set_cons_succ]
        refine takeZ 6 (some 28) (by kernel_rfl) rfl rfl (by kernel_rfl) (by kernel_rfl) (by kernel_rfl) (fun _ _ _ h => h) (by rfl) (by intro w ⟨g1, g2, g3⟩; go_simp; try with_reducible rfl) hH2 ?_
        simp only [Act.put, List.setIfInBounds_toArray, List.set_cons_zero, List.set_cons_succ]
        clear hH2 q0 q2 hb2 hat2 hnw2 hb2' m0 m1 m2
        refine oneZ 7 rfl (by kernel_rfl) (fun K hK => ?_)
        go_simp
        refine hK.out _ _ (.inl rfl) ?_
        clear hK K
        refine doneZ (by kernel_rfl) ?_ _
        rw [noOut_normal]
        gi_wp2_with (fail)
        exact HFIN.out _ rfl
      case idone =>
        rintro D X rfl hI hdef
        have HI := Lib.hid hI
        have HDEF := Lib.hid hdef
        obtain ⟨new, hat, hnw, hnn⟩ := hI.at_
        have hfresh : assocN s (tab ++ new) = none := by
          rw [assocN_none]
          intro x hx
          rcases List.mem_append.1 hx with hx | hx
          · exact assocN_none.1 HQ.out x hx
          · obtain ⟨i, h1, h2⟩ := hnn x hx
            intro e
            rw [e, h1] at h2
            cases h2
        have hwy : sumW (fun i => wys n f (s ||| 1 <<< i)) (enL n f s) = wys n f s := HST.out.symm
        obtain ⟨ws, hws⟩ : ∃ ws, wys n f s = ws := ⟨_, rfl⟩
        have HWS := Lib.hid hws
        have hmb := hI.mb
        rw [hwy, hws] at hmb
        obtain ⟨X2, hrun, hmap, hgr⟩ := run_putM Try.underlying98 Try.underlying72 hat.map s ws hfresh
        have y0 := cell_of hat.known (o := 0) rfl
        have y1 := cell_of hI.ib (o := 0) rfl
        have y2 := cell_of hmb (o := 0) rfl
        have hb : But a.M X X2 := ⟨hgr.os, hgr.tape, hgr.output, hgr.size, fun k o h1 h2 => by
          have := hgr.block k (at_lt h2) (fun e => h1 (by injection e))
          rw [this]; exact h2⟩
        have y3 : X2.cell? ⟨W.heap.size + 1, 0, none⟩ = some (.int .i64 (ws : Int)) := cell_of (hb.same _ _ (by omega) hmb) rfl
        have HD2 := Lib.hid (hb.same _ _ (by omega) hdef)
        have HFIN := Lib.hid (show WyPost n f a tab s W (.returned (.int .i64 (ws : Int))) (X2.putObj V.heap.size (.deferred none)) from by
          refine ⟨by rw [HWS.out], new ++ [(s, ws)], ?_, hnw.app ⟨fun x hx => ?_, fun x hx => ?_⟩, ((hI.bt.trans hb).put _ (by omega))⟩
          · rw [← List.append_assoc]
            have h1 := hat.but hb hmap (fun x hx => by rcases List.mem_singleton.1 hx with rfl; exact HWS.out.symm)
            have hd := hb.same _ _ (show V.heap.size ≠ a.M by omega) hdef
            exact ⟨put_cells h1.blk hd rfl, put_cells h1.known hd rfl, h1.map.keep fun o ho => put_else ho (by omega), put_cells h1.ord hd rfl, put_cells h1.clo hd rfl, h1.ok, h1.all⟩
          · rcases List.mem_singleton.1 hx with rfl; exact HWS.out.symm
          · rcases List.mem_singleton.1 hx with rfl; exact fun i hi => hi)
        clear hI hdef hat hnw hnn hfresh hwy hws hmb hmap hgr hb
        go_wp2_with (fail)
        refine ⟨by simp, .inl ⟨_, _, rfl, run_takeDeferred HD2.out, ?_⟩⟩
        exact ⟨.int .i64 (ws : Int), by simp [results, Try.results81, go_sem], HFIN.out⟩
    · rw [hq] at hlk
      simp only [Option.getD_some, Option.isSome_some] at hlk
      have hv : v = wys n f s := h.ok _ (assocN_mem hq)
      obtain ⟨V, hV⟩ : ∃ V, V = V1.alloc (.cells #[.int .i64 (v : Int)] 3) := ⟨_, rfl⟩
      have bV : Below W.heap.size W V := by rw [hV]; exact b1.alloc b1.size _
      have HFIN := Lib.hid (show WyPost n f a tab s W (.returned (.int .i64 (v : Int))) V from ⟨by rw [hv], [], by simpa using h.on bV (Nat.le_refl _), New.nil s, But.of_below bV (Nat.le_refl _)⟩)
      rw [h1] at hlk x0 x1
      clear h ih hr hq b1 z1 A1 bV hv
      go_enter Try.func81, Try.ntmps81
      go_wp2_with (fail)
      rw [← h1, ← hV]
      go_ret
      exact HFIN.out
end Go.Proofs.Ytjheaeeeeggncaa

namespace Go.Proofs.Ytjheaeeeeggncaa
open Go.RowKit Go.Shelf
attribute [local go_sem] Oper.semAt_some
set_option maxRecDepth 100000
set_option linter.unusedVariables false
set_option linter.unusedSimpArgs false

def WyTo (g n : Nat) (f : Nat → Nat) (w : World) (e : Ending) (w' : World) : Prop :=
  ∃ a : WyA, e = .returned a.fn ∧ a.g = g ∧ (w.heap.size ≤ a.M ∧ w.heap.size ≤ a.kb ∧ w.heap.size ≤ a.bb ∧ w.heap.size ≤ a.cb) ∧ WyAt n f a [(2 ^ n - 1, 1)] w' ∧ Below w.heap.size w w'
set_option maxHeartbeats 8000000 in
theorem c_ways (g n : Nat) (f : Nat → Nat) (hn : n ≤ 12) (w : World) (h : Blk w g n f) :
    Calls Try.prog 62 #[.slice (some ⟨g, 0, none⟩) n n] w (WyTo g n f w) := by
  have hmm := @run_makeMap Try.prog
  obtain ⟨W1, h1⟩ : ∃ W, W = w.alloc (.cells #[.slice (some ⟨g, 0, none⟩) n n] 64) := ⟨_, rfl⟩
  obtain ⟨W2, h2⟩ : ∃ W, W = W1.alloc (.map #[] 0) := ⟨_, rfl⟩
  have z1 : W1.heap.size = w.heap.size + 1 := by rw [h1, World.size_alloc]
  have z2 : W2.heap.size = w.heap.size + 1 + 1 := by rw [h2, World.size_alloc, z1]
  have b1 : Below w.heap.size w W1 := by rw [h1]; exact (Below.refl _ _).alloc (Nat.le_refl _) _
  have b2 : Below w.heap.size w W2 := by rw [h2]; exact b1.alloc b1.size _
  have k1 : W2.heap[w.heap.size]? = some (.cells #[.slice (some ⟨g, 0, none⟩) n n] 64 (0, 0)) := by rw [h2]; refine old_heap _ ?_; rw [h1]; exact heap_alloc_new _ _
  have m0 : MapN W2 (w.heap.size + 1) [] := by rw [h2, ← z1]; exact ⟨#[], heap_alloc_new _ _, rfl⟩
  obtain ⟨al, hal⟩ : ∃ al, 2 ^ n - 1 = al := ⟨_, rfl⟩
  obtain ⟨W3, e1, m1, g1⟩ := run_putM Try.underlying98 Try.underlying72 m0 al 1 rfl
  have e2 : (Instr.mapUpdate 98 (.map (some (w.heap.size + 1))) (.int .u16 (al : Int)) (.int .i64 1)).run Try.prog W2 = .ok () W3 := e1
  have b3 : Below w.heap.size w W3 := b2.grown g1 b2.size (fun k e => by cases e; omega)
  have k3 : W3.heap[w.heap.size]? = some (.cells #[.slice (some ⟨g, 0, none⟩) n n] 64 (0, 0)) := by
    rw [g1.block _ (at_lt k1) (by simp)]; exact k1
  have c1 := cell_of k1 (o := 0) rfl
  have HC := Lib.hid (fun (X : World) => c_all (some ⟨g, 0, none⟩) n n hn X)
  rw [hal] at HC
  have HB3 := Lib.hid b3
  have HK3 := Lib.hid k3
  have HM3 := Lib.hid m1
  have HZ := Lib.hid g1.size
  have HZ2 := Lib.hid z2
  have HAL := Lib.hid hal
  have H := Lib.hid h
  rw [h2, h1] at e2 c1
  clear h b1 b2 b3 k1 k3 m0 m1 e1 g1 z1 z2 hal
  go_enter Try.func62, Try.ntmps62
  go_wp2_with (fail)
  rw [← h1, ← h2]
  go_at_call 78
  refine (HC.out W2).mono ?_
  rintro e v ⟨rfl, hv⟩
  rw [hv]
  clear hv v
  rw [← h1, ← h2] at e2
  clear h1 h2 c1
  go_wp2_with (fail)
  go_ret
  obtain ⟨K1, q1⟩ : ∃ X, X = W3.alloc (.cells #[.map (some (w.heap.size + 1))] 98) := ⟨_, rfl⟩
  rw [← q1]
  have zq : K1.heap.size = W3.heap.size + 1 := by rw [q1, World.size_alloc]
  have hz := HZ.out
  rw [HZ2.out] at hz
  have HM4 : MapN W3 (w.heap.size + 1) [(2 ^ n - 1, 1)] := by rw [HAL.out]; exact HM3.out
  refine ⟨⟨g, W3.heap.size, w.heap.size + 1, w.heap.size, W3.heap.size + 1⟩, rfl, rfl, (by show w.heap.size ≤ w.heap.size + 1 ∧ w.heap.size ≤ W3.heap.size ∧ w.heap.size ≤ w.heap.size ∧ w.heap.size ≤ W3.heap.size + 1; omega), ?_, ?_⟩
  · have bb : ∀ (k : Nat) (o : Obj), W3.heap[k]? = some o → (K1.alloc (.cells #[(WyA.mk g W3.heap.size (w.heap.size + 1) w.heap.size (W3.heap.size + 1)).fn] 81)).heap[k]? = some o := fun k o ho => by
      refine old_heap _ ?_; rw [q1]; exact old_heap _ ho
    refine ⟨bb _ _ ((HB3.out.block _ (at_lt H.out)).trans H.out), ?_, HM4.keep fun o ho => bb _ _ ho, bb _ _ HK3.out, ?_, fun x hx => ?_, List.mem_singleton.2 rfl⟩
    · refine old_heap _ ?_; rw [q1]; exact heap_alloc_new _ _
    · show (K1.alloc _).heap[W3.heap.size + 1]? = _
      rw [← zq]; exact heap_alloc_new _ _
    · rcases List.mem_singleton.1 hx with rfl
      show 1 = wys n f (2 ^ n - 1)
      rw [wys_all]
  · rw [q1]
    have b4 := HB3.out.alloc HB3.out.size (.cells #[.map (some (w.heap.size + 1))] 98)
    exact b4.alloc b4.size _
theorem wy0 (n : Nat) (f : Nat → Nat) : wyI n f 0 = wys n f 0 := by
  unfold wyI idB
  rw [if_pos]
  rw [List.all_eq_true]
  intro i hi
  have := (lst_mem.1 hi).2
  simp at this
theorem But.low {b B : Nat} {w X Y : World} (h : But b X Y) (k : Below B w X) (hB : w.heap.size = B) (hb : B ≤ b) : Below B w Y := h.below k hb (by omega)
set_option maxHeartbeats 8000000 in
theorem c_Count (A : Option Addr) (c : Nat) (xs : List LsV) (w : World) (h : LsAt w A c xs) : Calls Try.prog 28 #[.slice A xs.length c] w (HwTo w (rdN xs) (fun k => k = wyI xs.length (ordF xs) 0)) := by
  have H := Lib.hid h
  obtain ⟨R, hR⟩ : ∃ R, R = HwTo w (rdN xs) (fun k => k = wyI xs.length (ordF xs) 0) := ⟨_, rfl⟩
  rw [← hR]
  have HRR := Lib.hid hR
  clear hR h
  go_enter Try.func28, Try.ntmps28
  go_wp2_with (fail)
  go_at_call 48
  refine (c_read A c xs w H.out).mono ?_
  rintro e w1 ⟨⟨h0, rfl⟩ | ⟨h0, hl, hok, hno, g, rfl, hg, hblk⟩, b1⟩
  · have H0 := Lib.hid h0
    have K1 := Lib.hid b1
    have hne : (rdN xs != 0) = true := by simpa using h0
    have hd0 : (rdN xs == 0) = false := by simpa using h0
    clear h0 b1
    go_wp2_with (fail)
    rw [HRR.out]
    exact ⟨.inl ⟨H0.out, rfl⟩, K1.out⟩
  · have H0 := Lib.hid h0
    have K1 := Lib.hid b1
    have HC := Lib.hid (c_ways g xs.length (ordF xs) hl w1 hblk)
    have HF := Lib.hid (ordF_lt hl hok)
    have HL := Lib.hid hl
    clear h0 b1 hblk hok hno
    go_wp2_with (fail)
    go_at_call 62
    refine HC.out.mono ?_
    rintro e w2 ⟨a, rfl, ha, hM, hat, b2⟩
    have K2 := Lib.hid (below_join K1.out b2 K1.out.size)
    have HW := Lib.hid (c_ways1 a xs.length (ordF xs) HL.out HF.out _ 0 _ w2 (Nat.two_pow_pos _) rfl hat)
    have HM := Lib.hid (show w.heap.size ≤ a.M by have := K1.out.size; have := hM.1; omega)
    unfold WyA.fn
    clear hat b2 hM ha
    go_wp2_with (fail)
    go_at_call 81
    refine HW.out.mono ?_
    rintro e w3 ⟨he, new, -, -, hb⟩
    have K3 := Lib.hid (hb.low K2.out rfl HM.out)
    subst he
    clear hb
    go_wp2_with (fail)
    rw [HRR.out, H0.out]
    exact ⟨.inr ⟨rfl, _, rfl, (wy0 _ _).symm⟩, K3.out⟩
end Go.Proofs.Ytjheaeeeeggncaa

namespace Go.Proofs.Ytjheaeeeeggncaa
open Go.RowKit Go.Shelf
attribute [local go_sem] Oper.semAt_some
set_option maxRecDepth 100000
set_option linter.unusedVariables false
set_option linter.unusedSimpArgs false

theorem has_any {t : Nat} {x : Int} {L : List Nat} (ht : t < 2 ^ 12) (h : lst 12 t = L) : (decide (0 ≤ x) && t.testBit x.toNat) = L.any (fun (i : Nat) => (i : Int) == x) := by
  rw [Bool.eq_iff_iff, Bool.and_eq_true, decide_eq_true_eq, List.any_eq_true, ← h]
  constructor
  · rintro ⟨h1, h2⟩
    refine ⟨x.toNat, lst_mem.2 ⟨?_, h2⟩, by rw [beq_iff_eq]; omega⟩
    rcases Nat.lt_or_ge x.toNat 12 with g | g
    · exact g
    · rw [Nat.testBit_lt_two_pow (Nat.lt_of_lt_of_le ht (Nat.pow_le_pow_right (by omega) g))] at h2; cases h2
  · rintro ⟨i, h1, h2⟩
    have h2 := eq_of_beq h2
    subst h2
    exact ⟨by omega, by rw [Int.toNat_natCast]; exact (lst_mem.1 h1).2⟩
/-- What rank answers. -/
def RkTo (w : World) (n : Nat) (f : Nat → Nat) (line : List Int) (e : Ending) (w' : World) : Prop :=
  ((∃ k : Nat, e = .returned (.tuple #[.int .i64 (k : Int), .bool true]) ∧ line.length = n ∧ rkL n f line 0 0 = some k) ∨ (e = .returned (.tuple #[.int .i64 0, .bool false]) ∧ ¬ (line.length = n ∧ (rkL n f line 0 0).isSome = true))) ∧ Below w.heap.size w w'
/-- Between two rounds of the outer loop: kB, wB, cB: the boxes of k, ways and come. -/
structure RkS (w : World) (n : Nat) (f : Nat → Nat) (a : WyA) (wB cB : Nat) (u k : Nat) (X : World) : Prop where
  kb : X.heap[w.heap.size]? = some (.cells #[.int .i64 (k : Int)] 3 (0, 0))
  wb : X.heap[wB]? = some (.cells #[a.fn] 81 (0, 0))
  cb : X.heap[cB]? = some (.cells #[.int .u16 (u : Int)] 72 (0, 0))
  at_ : ∃ tab, WyAt n f a tab X
  bel : Below w.heap.size w X
/-- Between two rounds of the inner loop. -/
structure RkI (w : World) (n : Nat) (f : Nat → Nat) (a : WyA) (wB cB iB mB : Nat) (bs : List Nat) (u : Nat) (x : Int) (k : Nat) (Y : World) (pre : List Nat) (X : World) : Prop where
  kb : X.heap[w.heap.size]? = some (.cells #[.int .i64 ((k + lesW n f u x pre : Nat) : Int)] 3 (0, 0))
  wb : X.heap[wB]? = some (.cells #[a.fn] 81 (0, 0))
  cb : X.heap[cB]? = some (.cells #[.int .u16 (u : Int)] 72 (0, 0))
  ib : X.heap[iB]? = some (.cells #[.int .i64 x] 3 (0, 0))
  at_ : ∃ tab, WyAt n f a tab X
  bel : Below w.heap.size w X
  mks : Mks mB bs X
  sz : Y.heap.size ≤ X.heap.size
theorem own_cells' {S : Nat} {X Y : World} (hE : OwnIt S 0 X Y) (k : Nat) (cs : Array Value) (T : TypeId) (fr : Nat × Nat) (ho : X.heap[k]? = some (.cells cs T fr)) : Y.heap[k]? = some (.cells cs T fr) := by
  rcases Nat.lt_or_ge k S with g | g
  · exact hE.same k _ ho (.inl g)
  · exact hE.same k _ ho (.inr ⟨rfl, g⟩)
theorem WyAt.own {n S : Nat} {f : Nat → Nat} {a : WyA} {tab : List (Nat × Nat)} {X Y : World} (h : WyAt n f a tab X) (hE : OwnIt S 0 X Y) (hM : a.M < S) : WyAt n f a tab Y :=
  ⟨own_cells' hE _ _ _ _ h.blk, own_cells' hE _ _ _ _ h.known, h.map.keep fun o ho => hE.same _ _ ho (.inl hM), own_cells' hE _ _ _ _ h.ord, own_cells' hE _ _ _ _ h.clo, h.ok, h.all⟩
theorem WyAt.put {n l : Nat} {f : Nat → Nat} {a : WyA} {tab : List (Nat × Nat)} {X : World} {o o' : Obj} (h : WyAt n f a tab X) (hM : a.M ≠ l) (ho : X.heap[l]? = some o) (hc : o.isCells = false) : WyAt n f a tab (X.putObj l o') :=
  ⟨put_cells h.blk ho hc, put_cells h.known ho hc, h.map.keep fun o hh => put_else hh hM, put_cells h.ord ho hc, put_cells h.clo ho hc, h.ok, h.all⟩
theorem RkI.own {w : World} {n wB cB iB mB S : Nat} {f : Nat → Nat} {a : WyA} {bs : List Nat} {u k : Nat} {x : Int} {Y : World} {pre : List Nat} {X Z : World} (h : RkI w n f a wB cB iB mB bs u x k Y pre X) (hE : OwnIt S 0 X Z) (hY : Y.heap.size ≤ S) (hw : w.heap.size ≤ S) (hM : a.M < S) (hbs : ∀ b ∈ bs, b < S) : RkI w n f a wB cB iB mB bs u x k Y pre Z := by
  obtain ⟨tab, ht⟩ := h.at_
  exact ⟨own_cells' hE _ _ _ _ h.kb, own_cells' hE _ _ _ _ h.wb, own_cells' hE _ _ _ _ h.cb, own_cells' hE _ _ _ _ h.ib, ⟨tab, ht.own hE hM⟩, below_own h.bel hE hw, ⟨h.mks.nodup, fun b hb => ⟨(h.mks.at_ b hb).1, hE.same _ _ (h.mks.at_ b hb).2 (.inl (hbs b hb))⟩⟩, Nat.le_trans h.sz hE.size⟩
theorem RkI.put {w : World} {n wB cB iB mB l : Nat} {f : Nat → Nat} {a : WyA} {bs : List Nat} {u k : Nat} {x : Int} {Y : World} {pre : List Nat} {X : World} {o o' : Obj} (h : RkI w n f a wB cB iB mB bs u x k Y pre X) (hY : Y.heap.size ≤ l) (hM : a.M < Y.heap.size) (hw : w.heap.size ≤ l) (hbs : ∀ b ∈ bs, b < Y.heap.size) (ho : X.heap[l]? = some o) (hc : o.isCells = false) : RkI w n f a wB cB iB mB bs u x k Y pre (X.putObj l o') := by
  obtain ⟨tab, ht⟩ := h.at_
  exact ⟨put_cells h.kb ho hc, put_cells h.wb ho hc, put_cells h.cb ho hc, put_cells h.ib ho hc, ⟨tab, ht.put (by omega) ho hc⟩, below_put h.bel hw, ⟨h.mks.nodup, fun b hb => ⟨(h.mks.at_ b hb).1, put_else (h.mks.at_ b hb).2 (by have := hbs b hb; omega)⟩⟩, by simpa using h.sz⟩
set_option maxHeartbeats 16000000 in
theorem c_rank (g n : Nat) (f : Nat → Nat) (hn : n ≤ 12) (hf : ∀ j, f j < 2 ^ 12) (A : Option Addr) (c : Nat) (line : List Int) (w : World) (h : Blk w g n f) (h2 : Rv 1 inV w A c line) :
    Calls Try.prog 65 #[.slice (some ⟨g, 0, none⟩) n n, .slice A line.length c] w (RkTo w n f line) := by
  have H := Lib.hid h
  have H2 := Lib.hid h2
  have hc1 := h2.1
  have hc2 := h2.2.1
  unfold maxLen at hc2
  obtain ⟨W, hW⟩ : ∃ W, W = w.alloc (.cells #[.int .i64 0] 3) := ⟨_, rfl⟩
  have HB := Lib.hid (show Below w.heap.size w W by rw [hW]; exact (Below.refl _ _).alloc (Nat.le_refl _) _)
  have HK := Lib.hid (show W.heap[w.heap.size]? = some (.cells #[.int .i64 0] 3 (0, 0)) by rw [hW]; exact heap_alloc_new _ _)
  have zW : W.heap.size = w.heap.size + 1 := by rw [hW, World.size_alloc]
  clear h h2
  by_cases hlen : line.length = n
  rotate_left
  · have hne : ((line.length : Int) != (n : Int)) = true := by simp; omega
    have hd0 : ((line.length : Int) == (n : Int)) = false := by rw [beq_eq_false_iff_ne]; omega
    have HLE := Lib.hid hlen
    clear hlen
    go_enter Try.func65, Try.ntmps65
    go_wp2_with (fail)
    rw [← hW]
    have c0 := cell_of HK.out (o := 0) rfl
    exact bodyPost_ret (v := .tuple #[.int .i64 0, .bool false]) (by simp [results, Try.results65, go_sem, c0]) rfl ⟨.inr ⟨rfl, fun h => HLE.out h.1⟩, HB.out⟩
  have hne : ((line.length : Int) != (n : Int)) = false := by simp; omega
  have hd0 : ((line.length : Int) == (n : Int)) = true := by rw [beq_iff_eq]; omega
  have HLEN := Lib.hid hlen
  have HCW := Lib.hid (c_ways g n f hn W (H.out.on HB.out (Nat.le_refl _)))
  clear hlen
  refine (callsIn_wide (n := 8)).1 ?_
  refine callsIn_of_wp_marks Try.func65 rfl trivial ?_ rfl
  simp only [Try.ntmps65, List.size_toArray, List.length_cons, List.length_nil, Nat.reduceAdd, Nat.reduceSub, Array.replicate_succ, Array.replicate_zero, List.push_toArray, List.append_toArray, List.nil_append, List.cons_append]
  rw [wpIn_wide]
  go_wp2_with (fail)
  rw [← hW]
  clear hW
  go_at_call 62
  refine HCW.out.mono ?_
  rintro e v1 ⟨a, rfl, ha, hM, hat, b1⟩
  have HAG := Lib.hid ha
  unfold WyA.fn
  obtain ⟨V1, q1⟩ : ∃ X, X = v1.alloc (.cells #[a.fn] 81) := ⟨_, rfl⟩
  obtain ⟨V, q2⟩ : ∃ X, X = V1.alloc (.cells #[.int .u16 0] 72) := ⟨_, rfl⟩
  have zV1 : V1.heap.size = v1.heap.size + 1 := by rw [q1, World.size_alloc]
  have zV : V.heap.size = v1.heap.size + 2 := by rw [q2, World.size_alloc, zV1]
  have bV1 : Below v1.heap.size v1 V1 := by rw [q1]; exact (Below.refl _ _).alloc (Nat.le_refl _) _
  have bV : Below v1.heap.size v1 V := by rw [q2]; exact bV1.alloc bV1.size _
  have hzv := b1.size
  have HS0 := Lib.hid (show RkS w n f a v1.heap.size (v1.heap.size + 1) 0 0 V from
    ⟨(bV.block _ (by omega)).trans ((b1.block _ (by omega)).trans HK.out), by rw [q2]; refine old_heap _ ?_; rw [q1]; exact heap_alloc_new _ _, by rw [q2, ← zV1]; exact heap_alloc_new _ _, ⟨_, hat.on bV (Nat.le_refl _)⟩, (HB.out.trans (b1.mono (by omega))).trans (bV.mono (by omega))⟩)
  have hp12 := pow12 hn
  have HML := Lib.hid (show w.heap.size ≤ a.M by omega)
  have HLO := Lib.hid (show w.heap.size < a.M ∧ w.heap.size < a.kb ∧ w.heap.size < a.bb ∧ w.heap.size < a.cb ∧ a.g < w.heap.size ∧ a.M < v1.heap.size from ⟨by omega, by omega, by omega, by omega, by rw [ha]; exact at_lt H.out, hat.map.lt⟩)
  have HLO2 := Lib.hid (show a.kb ≠ v1.heap.size + 1 ∧ a.bb ≠ v1.heap.size + 1 ∧ a.cb ≠ v1.heap.size + 1 from by have h1 := at_lt hat.known; have h2 := at_lt hat.ord; have h3 := at_lt hat.clo; omega)
  clear bV1 bV hat b1 zV1 ha hM
  go_wp2_with (fail)
  rw [show (.cells #[.func (.func 81) #[] #[.pointer (some ⟨a.kb, 0, none⟩), .pointer (some ⟨a.bb, 0, none⟩), .pointer (some ⟨a.cb, 0, none⟩)]] 81 : Obj) = .cells #[a.fn] 81 from rfl, ← q1, ← q2]
  clear q1 q2
  refine wp_loop (fun a' wr => ∃ (u8 u9 u10 u11 u22 u23 u24 u25 u26 u27 u28 u29 u30 u31 u32 u33 u34 u35 u36 u37 u38 u39 u40 u41 u42 u43 u44 u45 u46 u47 u48 u21 : Value) (ds : List Deferred), (∃ t u k : Nat, t ≤ line.length ∧ u21 = .int .i64 (t : Int) ∧ u < 2 ^ n ∧ k ≤ t * 5748019200 ∧ Hid (rkL n f line 0 0 = rkL n f (line.drop t) u k) ∧ Hid (RkS w n f a v1.heap.size (v1.heap.size + 1) u k wr) ∧ v1.heap.size + 1 < wr.heap.size ∧ ∃ bs, ds = marks bs ∧ Hid (Mks (v1.heap.size + 2) bs wr)) ∧ a' = { tmps := #[.slice (some ⟨g, 0, none⟩) n n, .slice A line.length c, undef, undef, .pointer (some ⟨w.heap.size, 0, none⟩), .bool false, .pointer (some ⟨v1.heap.size, 0, none⟩), .pointer (some ⟨v1.heap.size + 1, 0, none⟩), u8, u9, u10, u11, .slice A line.length c, .int .i64 (line.length : Int), .slice (some ⟨g, 0, none⟩) n n, .int .i64 (n : Int), .bool false, .slice (some ⟨g, 0, none⟩) n n, .func (.func 81) #[] #[.pointer (some ⟨a.kb, 0, none⟩), .pointer (some ⟨a.bb, 0, none⟩), .pointer (some ⟨a.cb, 0, none⟩)], .slice A line.length c, .int .i64 (line.length : Int), u21, u22, u23, u24, u25, u26, u27, u28, u29, u30, u31, u32, u33, u34, u35, u36, u37, u38, u39, u40, u41, u42, u43, u44, u45, u46, u47, u48, undef], defers := ds }) (fun a' _ => line.length - (intOf (a'.tmps.getD 21 undef)).toNat) ?atStart ?round
  case atStart =>
    (repeat apply Exists.intro)
    refine ⟨?rel0, rfl⟩
    exact ⟨0, 0, 0, Nat.zero_le _, rfl, Nat.two_pow_pos n, by omega, Lib.hid rfl, HS0, by omega, [], rfl, Lib.hid (Mks.nil _ _)⟩
  case round =>
    rintro _ wr ⟨u8, u9, u10, u11, u22, u23, u24, u25, u26, u27, u28, u29, u30, u31, u32, u33, u34, u35, u36, u37, u38, u39, u40, u41, u42, u43, u44, u45, u46, u47, u48, u21, ds, ⟨t, u, k, ht, rfl, hu, hkb, hQ, hS, hvw, bs, rfl, hM⟩, rfl⟩
    have hti : ((t : Nat) : Int).toNat = t := by omega
    by_cases hlt : t < line.length
    · have htl : (t : Int) < ((line.length : Nat) : Int) := by omega
      have hl12 : line.length ≤ 12 := by have := HLEN.out; omega
      have hk2 : k ≤ 68976230400 := by omega
      obtain ⟨x, hx⟩ : ∃ x, line[t]? = some x := ⟨_, List.getElem?_eq_getElem hlt⟩
      have HLX := H2.out.on hS.out.bel (Nat.le_refl _)
      obtain ⟨pb, o, rfl, -, -⟩ := HLX.at_ hx
      have y0 := inV_at HLX hx
      have HX := Lib.hid hx
      have HRC := Lib.hid (show rkL n f line 0 0 = if (enL n f u).any (fun (i : Nat) => (i : Int) == x) = true then rkL n f (line.drop (t + 1)) (u ||| 1 <<< x.toNat) (k + lesW n f u x (enL n f u)) else none by rw [hQ.out, drop_at hx, rkL_cons])
      obtain ⟨Y, hY⟩ : ∃ Y, Y = wr.alloc (.cells #[.int .i64 x] 3) := ⟨_, rfl⟩
      have bY : Below wr.heap.size wr Y := by rw [hY]; exact (Below.refl _ _).alloc (Nat.le_refl _) _
      have zY : Y.heap.size = wr.heap.size + 1 := by rw [hY, World.size_alloc]
      have HIB := Lib.hid (show Y.heap[wr.heap.size]? = some (.cells #[.int .i64 x] 3 (0, 0)) by rw [hY]; exact heap_alloc_new _ _)
      have kpY : ∀ (k : Nat) (o : Obj), wr.heap[k]? = some o → Y.heap[k]? = some o := fun k o ho => (bY.block _ (at_lt ho)).trans ho
      obtain ⟨tab, hat⟩ := hS.out.at_
      have HSY := Lib.hid (show RkS w n f a v1.heap.size (v1.heap.size + 1) u k Y from ⟨kpY _ _ hS.out.kb, kpY _ _ hS.out.wb, kpY _ _ hS.out.cb, ⟨tab, hat.on bY (Nat.le_refl _)⟩, hS.out.bel.trans (bY.mono hS.out.bel.size)⟩)
      have HMY := Lib.hid (hM.out.on bY (Nat.le_refl _))
      have HAY := Lib.hid (hat.on bY (Nat.le_refl _))
      have y1 := cell_of HSY.out.cb (o := 0) rfl
      rw [hY] at y1
      clear hx HLX kpY bY hat
      go_wp2_with (fail)
      rw [← hY]
      clear hY y0 y1
      have hu12 : u < 2 ^ 12 := by omega
      go_at_call 59
      refine (c_enabled g n f hn hf u hu12 Y (by have := HAY.out.blk; rwa [HAG.out] at this)).mono ?_
      rintro e v2 ⟨rfl, hv2⟩
      rw [hv2]
      clear hv2 v2
      have HLE := Lib.hid (lst_en (b := f) (s := u) hn)
      have hsb : setB (enB f u) n < 2 ^ 12 := Nat.lt_of_lt_of_le (setB_lt _ _) (Nat.pow_le_pow_right (by omega) hn)
      have hL12 := enL_len f u n
      obtain ⟨s, hs⟩ : ∃ t, setB (enB f u) n = t := ⟨_, rfl⟩
      rw [hs] at HLE hsb ⊢
      obtain ⟨L, hL⟩ : ∃ L, enL n f u = L := ⟨_, rfl⟩
      have HLL := Lib.hid hL
      rw [hL] at HLE HRC hL12
      obtain ⟨b, hb⟩ : ∃ b, L.any (fun (i : Nat) => (i : Int) == x) = b := ⟨_, rfl⟩
      have HBB := Lib.hid hb
      have HHA := Lib.hid (c_has s (by omega) x b (by rw [has_any hsb HLE.out, hb]) Y)
      rw [hb] at HRC
      clear hs hL hb
      have y2 := cell_of HIB.out (o := 0) rfl
      go_wp2_with (fail)
      go_at_call 76
      refine HHA.out.mono ?_
      rintro e v2 ⟨rfl, hv2⟩
      rw [hv2]
      clear hv2 v2 HHA
      cases b
      · have y3 := cell_of HSY.out.kb (o := 0) rfl
        have y4 := frz HSY.out.kb 0
        have hno : rkL n f line 0 0 = none := by rw [HRC.out]; rfl
        have HNO := Lib.hid hno
        clear hno
        go_wp2_with (fail)
        have hkf := kf_store (B := 0) (o := 0) (.int .i64 0) HSY.out.kb
        have hMZ : Mks (v1.heap.size + 2) bs (Y.setCell ⟨w.heap.size, 0, none⟩ (.int .i64 0)) := HMY.out.kept fun k o hk hc => hkf.same k o (Nat.zero_le _) hk hc
        refine leaves_marks (by simp) bs _ hMZ fun W' hW' => ?_
        have c0 : W'.cell? ⟨w.heap.size, 0, none⟩ = some (.int .i64 0) := cell_of (hW'.cells hMZ (set_field HSY.out.kb (.int .i64 0))) rfl
        refine ⟨.tuple #[.int .i64 0, .bool false], by simp [results, Try.results65, go_sem, c0], ⟨.inr ⟨rfl, fun h => by rw [HNO.out] at h; exact absurd h.2 (by simp)⟩, ?_⟩⟩
        exact hW'.below (fun b hb => by have := (hMZ.at_ b hb).1; omega) (HSY.out.bel.setCell (p := ⟨w.heap.size, 0, none⟩) (Nat.le_refl _) _) (Nat.le_refl _)
      obtain ⟨m, rfl⟩ : ∃ m : Nat, x = m := by
        obtain ⟨i, -, h2⟩ := List.any_eq_true.1 HBB.out
        exact ⟨i, (eq_of_beq h2).symm⟩
      have HMI := Lib.hid (show m ∈ L by
        obtain ⟨i, h1, h2⟩ := List.any_eq_true.1 HBB.out
        have h2 := eq_of_beq h2
        obtain rfl : i = m := by omega
        exact h1)
      have HRK := Lib.hid (show rkL n f line 0 0 = rkL n f (line.drop (t + 1)) (u ||| 1 <<< m) (k + lesW n f u (m : Int) L) by rw [HRC.out, if_pos rfl, Int.toNat_natCast])
      have HSQ := Lib.hid (c_each 7 (by omega) (fun _ => False) s hsb Y)
      rw [HLE.out] at HSQ
      have HEI := Lib.hid (fun (i : Nat) (hi : i ∈ L) => (show i < n ∧ u.testBit i = false from by
        rw [← HLL.out] at hi
        have h1 := enL_mem.1 hi
        refine ⟨h1.1, ?_⟩
        have := h1.2; unfold enB at this; simp at this; exact this.1))
      have hzY := HSY.out.bel.size
      have hMY := (HAY.out.map).lt
      clear HRC HBB
      go_wp2_with (fail)
      refine (wpIn_wide (n := 8)).1 ?_
      refine wpIn_it (n := 8) (by omega) (gf := 77) (fb := #[.int .u16 (s : Int)]) (lb := #[]) rfl eg_each (m := 0) (Gd := fun _ => False) (ok := okE) (ts := L) (w0 := Y) HSQ.out (KpG.refl _) (fun v t h => by rw [h]; rfl)
        (fun pre X => RkI w n f a v1.heap.size (v1.heap.size + 1) wr.heap.size (v1.heap.size + 2) bs u (m : Int) k Y pre X) (fun _ _ _ => False)
        (fun pre X Y h hE => h.own hE (by omega) (by omega) (by omega) (fun b hb => by have := HMY.out.lt hb; omega)) (fun _ _ _ _ h _ => h.elim)
        (fun pre X l o o' h hl ho hc => h.put (by omega) hMY (by omega) (fun b hb => HMY.out.lt hb) ho hc) (fun _ _ _ _ _ _ h _ _ _ => h.elim)
        ⟨HSY.out.kb, HSY.out.wb, HSY.out.cb, HIB.out, ⟨tab, HAY.out⟩, HSY.out.bel, HMY.out, Nat.le_refl _⟩ ?iround ?idone (fun _ _ _ _ _ _ h _ => h.elim)
      case iround =>
        intro l pre v i X K hpre hok hKK
        obtain rfl : v = #[.int .i64 (i : Int)] := hok
        gi_wp2_with (fail)
        refine hKK _ _ (Below.refl _ _) ?_
        rintro Z ⟨o, o', ho', hoc, hYe⟩ hsz hI
        have hie := hpre.subset (show i ∈ pre ++ [i] by simp)
        obtain ⟨hin, hnb⟩ := HEI.out i hie
        have hln := lesW_snoc n f u (m : Int) pre i
        have hpl : (pre ++ [i]).length ≤ 12 := by have := hpre.length_le; omega
        have hlb := lesW_le hn f u (m : Int) hpl
        have HI := Lib.hid hI
        have y0 := cell_of hI.ib (o := 0) rfl
        obtain ⟨tab2, hat2⟩ := hI.at_
        have HAT := Lib.hid hat2
        have hMZ := hat2.map.lt
        clear hYe ho' hoc o o' hKK hI hpre hat2
        rcases hlt2 : decide ((i : Int) < (m : Int)) with _ | _
        · have hlt2' := of_decide_eq_false hlt2
          rw [if_neg hlt2'] at hln
          have HLN := Lib.hid hln
          clear hln hlb
          gi_wp2_with (fail)
          exact ⟨⟨Nat.le_refl _, fun _ _ _ h _ => h⟩, KpIt.refl _, ⟨by rw [HLN.out]; exact HI.out.kb, HI.out.wb, HI.out.cb, HI.out.ib, HI.out.at_, HI.out.bel, HI.out.mks, HI.out.sz⟩⟩
        · have hlt2' := of_decide_eq_true hlt2
          rw [if_pos hlt2'] at hln
          rw [hln] at hlb
          have HLN := Lib.hid hln
          obtain ⟨K0, hK0⟩ : ∃ K0, k + lesW n f u (m : Int) pre = K0 := ⟨_, rfl⟩
          have HK0 := Lib.hid hK0
          have hs2 := put_lt hu hin
          obtain ⟨s2, hs2e⟩ : ∃ t, u ||| 1 <<< i = t := ⟨_, rfl⟩
          rw [hs2e] at hlb hs2
          obtain ⟨ws, hws⟩ : ∃ S, wys n f s2 = S := ⟨_, rfl⟩
          rw [hws] at hlb
          have HWS := Lib.hid hws
          have HS2 := Lib.hid hs2e
          have hb1 : K0 + ws ≤ 80000000000 := by omega
          have HCW := Lib.hid (fun (X : World) (hX : WyAt n f a tab2 X) => c_ways1 a n f hn hf _ s2 tab2 X hs2 rfl hX)
          have HCO := Lib.hid (fun (X : World) => c_with u i (by omega) (by omega) X)
          rw [hs2e] at HCO
          have z0 : Z.cell? ⟨w.heap.size, 0, none⟩ = some (.int .i64 (K0 : Int)) := by rw [← hK0]; exact cell_of HI.out.kb rfl
          have z1 := cell_of HI.out.wb (o := 0) rfl
          have z2 := cell_of HI.out.cb (o := 0) rfl
          unfold WyA.fn at z1
          have hfm : Try.prog.follows Departure.mixedOrders = true := by kernel_rfl
          clear hln hK0 hs2e hws hs2 hlb hie
          gi_wp2_with (fail)
          refine region_round_z 7 (S := fun X => X.cell? ⟨w.heap.size, 0, none⟩ = some (.int .i64 (K0 : Int)) ∧ X.cell? ⟨v1.heap.size, 0, none⟩ = some (.func (.func 81) #[] #[.pointer (some ⟨a.kb, 0, none⟩), .pointer (some ⟨a.bb, 0, none⟩), .pointer (some ⟨a.cb, 0, none⟩)]) ∧ X.cell? ⟨v1.heap.size + 1, 0, none⟩ = some (.int .u16 (u : Int))) hfm (by kernel_rfl) ⟨z0, z1, z2⟩ (fun hHeld => ?_)
          refine takeZ 0 (some 38) (by kernel_rfl) rfl rfl (by kernel_rfl) (by kernel_rfl) (by kernel_rfl) (fun _ _ _ h => h) (by rfl) (by intro w ⟨g1, g2, g3⟩; go_simp; try with_reducible rfl) hHeld ?_
          simp only [Act.put, List.setIfInBounds_toArray, List.set_cons_zero, List.set_cons_succ]
          refine takeZ 1 (some 39) (by kernel_rfl) rfl rfl (by kernel_rfl) (by kernel_rfl) (by kernel_rfl) (fun _ _ _ h => h) (by rfl) (by intro w ⟨g1, g2, g3⟩; go_simp; try with_reducible rfl) hHeld ?_
          simp only [Act.put, List.setIfInBounds_toArray, List.set_cons_zero, List.set_cons_succ]
          refine takeZ 2 (some 40) (by kernel_rfl) rfl rfl (by kernel_rfl) (by kernel_rfl) (by kernel_rfl) (fun _ _ _ h => h) (by rfl) (by intro w ⟨g1, g2, g3⟩; go_simp; try with_reducible rfl) hHeld ?_
          simp only [Act.put, List.setIfInBounds_toArray, List.set_cons_zero, List.set_cons_succ]
          refine takeZ 3 (some 41) (by kernel_rfl) rfl rfl (by kernel_rfl) (by kernel_rfl) (by kernel_rfl) (fun _ _ _ h => h) (by rfl) (by intro w ⟨g1, g2, g3⟩; go_simp; try with_reducible rfl) hHeld ?_
          simp only [Act.put, List.setIfInBounds_toArray, List.set_cons_zero, List.set_cons_succ]
          refine oneZ 4 rfl (by kernel_rfl) (fun K hK => ?_)
          go_simp
          go_at_call 80
          refine (HCO.out Z.drew).mono ?_
          rintro e wa ⟨rfl, hwa⟩
          rw [hwa]
          clear hwa wa
          refine hK.out _ _ (.inr hHeld) ?_
          clear hK K
          try simp only [Act.put, List.setIfInBounds_toArray, List.set_cons_zero, List.set_cons_succ]
          refine oneZ 5 rfl (by kernel_rfl) (fun K hK => ?_)
          go_simp
          go_at_call 81
          refine (HCW.out Z.drew (HAT.out.on (Below.refl _ _).drew (Nat.le_refl _))).mono ?_
          rintro e v2 ⟨he, new2, hat3, -, hb2⟩
          rw [HWS.out] at he
          subst he
          have hb2' : But a.M Z v2 := (But.drew (b := a.M)).trans hb2
          have m1 : v2.heap[w.heap.size]? = some (.cells #[.int .i64 (K0 : Int)] 3 (0, 0)) := by rw [← HK0.out]; exact hb2'.same _ _ (HAT.out.map.ne HI.out.kb) HI.out.kb
          have m2 := hb2'.same _ _ (HAT.out.map.ne HI.out.wb) HI.out.wb
          have m3 := hb2'.same _ _ (HAT.out.map.ne HI.out.cb) HI.out.cb
          have m4 := hb2'.same _ _ (HAT.out.map.ne HI.out.ib) HI.out.ib
          have hbl := hb2'.low HI.out.bel rfl HML.out
          have HFIN := Lib.hid (show ∀ v : Int, v = (K0 : Int) + (ws : Int) → KeepsFrom Y.heap.size Z (v2.setCell ⟨w.heap.size, 0, none⟩ (.int .i64 v)) ∧ KpIt (Y.heap.size + 2) 0 (fun _ => False) Z (v2.setCell ⟨w.heap.size, 0, none⟩ (.int .i64 v)) ∧ RkI w n f a v1.heap.size (v1.heap.size + 1) wr.heap.size (v1.heap.size + 2) bs u (m : Int) k Y (pre ++ [i]) (v2.setCell ⟨w.heap.size, 0, none⟩ (.int .i64 v)) from fun v hv => by
            have hk := kf_store (B := 0) (o := 0) (.int .i64 v) m1
            have hot : ∀ (k : Nat) (o : Obj), k ≠ a.M → Z.heap[k]? = some o → o.isCells = false → (v2.setCell ⟨w.heap.size, 0, none⟩ (.int .i64 v)).heap[k]? = some o := fun k o h1 h2 h3 => hk.same k o (Nat.zero_le _) (hb2'.same k o h1 h2) h3
            have hsz2 : Z.heap.size ≤ (v2.setCell ⟨w.heap.size, 0, none⟩ (.int .i64 v)).heap.size := Nat.le_trans hb2'.size hk.size
            refine ⟨⟨hsz2, fun k o h1 h2 h3 => hot k o (by omega) h2 h3⟩, ⟨hsz2, fun k cs t fr h1 h2 => by rcases h1 with h1 | h1; exact h1.elim; omega, fun k o h1 h2 h3 => hot k o (by omega) h2 h3⟩, ⟨?_, ?_, ?_, ?_, ⟨tab2 ++ new2, ?_⟩, ?_, ?_, Nat.le_trans HI.out.sz hsz2⟩⟩
            · rw [show ((k + lesW n f u (m : Int) (pre ++ [i]) : Nat) : Int) = v by rw [HLN.out, HS2.out, HWS.out]; have := HK0.out; omega]; exact set_field m1 _
            · exact set_else m2 (by omega)
            · exact set_else m3 (by omega)
            · exact set_else m4 (by omega)
            · have hlo := HLO.out
              exact hat3.keep fun k o hk ho => set_else ho (by rcases hk with rfl | rfl | rfl | rfl | rfl <;> omega)
            · exact hbl.setCell (p := ⟨w.heap.size, 0, none⟩) (Nat.le_refl _) _
            · exact ⟨HI.out.mks.nodup, fun b hb => ⟨(HI.out.mks.at_ b hb).1, hot b _ (by have := (HI.out.mks.at_ b hb).1; have := HLO.out; omega) (HI.out.mks.at_ b hb).2 rfl⟩⟩)
          have q0 := cell_of m1 (o := 0) rfl
          have q1 := cell_of m2 (o := 0) rfl
          have q2 := cell_of m3 (o := 0) rfl
          have qf := frz m1 0
          unfold WyA.fn at q1
          have hw : IntKind.i64.wrap ((K0 : Int) + (ws : Int)) = (K0 : Int) + (ws : Int) := wrap_in (by omega) (by omega)
          have hH2 : (fun X : World => X.cell? ⟨w.heap.size, 0, none⟩ = some (.int .i64 (K0 : Int)) ∧ X.cell? ⟨v1.heap.size, 0, none⟩ = some (.func (.func 81) #[] #[.pointer (some ⟨a.kb, 0, none⟩), .pointer (some ⟨a.bb, 0, none⟩), .pointer (some ⟨a.cb, 0, none⟩)]) ∧ X.cell? ⟨v1.heap.size + 1, 0, none⟩ = some (.int .u16 (u : Int))) v2 := ⟨q0, q1, q2⟩
          refine hK.out _ _ (.inr hH2) ?_
          clear hK K hHeld
          try simp only [Act.put, List.setIfInBounds_toArray, List.set_cons_zero, List.set_cons_succ]
          refine takeZ 6 (some 44) (by kernel_rfl) rfl rfl (by kernel_rfl) (by kernel_rfl) (by kernel_rfl) (fun _ _ _ h => h) (by rfl) (by intro w ⟨g1, g2, g3⟩; go_simp; try with_reducible rfl) hH2 ?_
          simp only [Act.put, List.setIfInBounds_toArray, List.set_cons_zero, List.set_cons_succ]
          try rw [hw]
          clear hH2 q1 q2 hb2 hat3 hb2' m1 m2 m3 m4
          refine oneZ 7 rfl (by kernel_rfl) (fun K hK => ?_)
          go_simp
          refine hK.out _ _ (.inl rfl) ?_
          clear hK K
          refine doneZ (by kernel_rfl) ?_ _
          rw [noOut_normal]
          gi_wp2_with (fail)
          exact HFIN.out _ rfl
      case idone =>
        rintro D X rfl hI hdef
        obtain ⟨hmn, hmb⟩ := HEI.out m HMI.out
        have hu2 := put_lt hu hmn
        have hlb := lesW_le hn f u (m : Int) (l := L) (by omega)
        obtain ⟨u2, hu2e⟩ : ∃ t, u ||| 1 <<< m = t := ⟨_, rfl⟩
        have HCO := Lib.hid (fun (X : World) => c_with u m (by omega) (by omega) X)
        obtain ⟨k2, hk2e⟩ : ∃ t, k + lesW n f u (m : Int) L = t := ⟨_, rfl⟩
        have HRK2 := HRK
        rw [hu2e] at hu2 HCO HRK2
        rw [hk2e] at HRK2
        have hk3 : k2 ≤ (t + 1) * 5748019200 := by omega
        have HKB := Lib.hid (show X.heap[w.heap.size]? = some (.cells #[.int .i64 (k2 : Int)] 3 (0, 0)) by rw [← hk2e]; exact hI.kb)
        have HI := Lib.hid hI
        have HMX := Lib.hid (show Mks (v1.heap.size + 2) ((wr.heap.size + 1) :: bs) X from by rw [← zY]; exact Mks.push HMY.out hI.mks (Nat.le_refl _) (by omega) hdef)
        have y0 := cell_of hI.cb (o := 0) rfl
        have y1 := frz hI.cb 0
        have y2 := cell_of hI.ib (o := 0) rfl
        have hXs := hI.sz
        have HSX := Lib.hid (show RkS w n f a v1.heap.size (v1.heap.size + 1) u2 k2 (X.setCell ⟨v1.heap.size + 1, 0, none⟩ (.int .u16 (u2 : Int))) from by
          obtain ⟨tab2, hat2⟩ := HI.out.at_
          have hlo := HLO.out
          have hne : ∀ (k : Nat) (o : Obj), k ≠ v1.heap.size + 1 → X.heap[k]? = some o → (X.setCell ⟨v1.heap.size + 1, 0, none⟩ (.int .u16 (u2 : Int))).heap[k]? = some o := fun k o h1 h2 => set_else h2 h1
          refine ⟨hne _ _ (by omega) HKB.out, hne _ _ (by omega) HI.out.wb, set_field HI.out.cb _, ⟨tab2, hat2.keep fun k o hk ho => hne k o ?_ ho⟩, HI.out.bel.setCell (p := ⟨v1.heap.size + 1, 0, none⟩) (by show w.heap.size ≤ v1.heap.size + 1; omega) _⟩
          rcases hk with rfl | rfl | rfl | rfl | rfl
          · omega
          · exact HLO2.out.1
          · omega
          · exact HLO2.out.2.1
          · exact HLO2.out.2.2)
        have HMS := Lib.hid (show Mks (v1.heap.size + 2) ((wr.heap.size + 1) :: bs) (X.setCell ⟨v1.heap.size + 1, 0, none⟩ (.int .u16 (u2 : Int))) from HMX.out.kept fun k o hk hc => (kf_store (B := 0) (o := 0) (.int .u16 (u2 : Int)) HI.out.cb).same k o (Nat.zero_le _) hk hc)
        clear hI hdef hu2e hk2e hlb
        go_wp2_with (go_at_call 80; refine (HCO.out X).mono ?_; rintro e wa ⟨rfl, hwa⟩; rw [hwa]; clear hwa wa)
        refine ⟨?q1, ?q2⟩
        case q1 =>
          (repeat apply Exists.intro)
          refine ⟨?rel1, rfl⟩
          exact ⟨t + 1, u2, k2, by omega, by go_num, hu2, hk3, HRK2, HSX, by simp [World.setCell]; omega, _, rfl, HMS⟩
        case q2 => simp [intOf]; omega
    · obtain rfl : t = line.length := by omega
      have hend : rkL n f line 0 0 = some k := by rw [hQ.out, List.drop_length]; rfl
      have HEND := Lib.hid hend
      have y0 := cell_of hS.out.kb (o := 0) rfl
      have y1 := frz hS.out.kb 0
      clear hend
      go_wp2_with (fail)
      have hkf := kf_store (B := 0) (o := 0) (.int .i64 (k : Int)) hS.out.kb
      have hMZ : Mks (v1.heap.size + 2) bs (wr.setCell ⟨w.heap.size, 0, none⟩ (.int .i64 (k : Int))) := hM.out.kept fun k o hk hc => hkf.same k o (Nat.zero_le _) hk hc
      refine leaves_marks (by simp) bs _ hMZ fun W' hW' => ?_
      have c0 : W'.cell? ⟨w.heap.size, 0, none⟩ = some (.int .i64 (k : Int)) := cell_of (hW'.cells hMZ (set_field hS.out.kb (.int .i64 (k : Int)))) rfl
      refine ⟨.tuple #[.int .i64 (k : Int), .bool true], by simp [results, Try.results65, go_sem, c0], ⟨.inl ⟨k, rfl, HLEN.out, HEND.out⟩, ?_⟩⟩
      exact hW'.below (fun b hb => by have := (hMZ.at_ b hb).1; omega) (hS.out.bel.setCell (p := ⟨w.heap.size, 0, none⟩) (Nat.le_refl _) _) (Nat.le_refl _)
set_option maxHeartbeats 8000000 in
theorem c_Rank (A : Option Addr) (c : Nat) (xs : List LsV) (A2 : Option Addr) (c2 : Nat) (line : List Int) (w : World) (h : LsAt w A c xs) (h2 : Rv 1 inV w A2 c2 line) : Calls Try.prog 32 #[.slice A xs.length c, .slice A2 line.length c2] w (HwTo w (rkN xs line) (fun k => rkL xs.length (ordF xs) line 0 0 = some k)) := by
  have H := Lib.hid h
  have H2 := Lib.hid h2
  obtain ⟨R, hR⟩ : ∃ R, R = HwTo w (rkN xs line) (fun k => rkL xs.length (ordF xs) line 0 0 = some k) := ⟨_, rfl⟩
  rw [← hR]
  have HE := Lib.hid (show ∀ (X : World) (n : Int), rkN xs line = n → n ≠ 0 → Below w.heap.size w X → R (.returned (.tuple #[.int .i64 0, .int .i64 n])) X from fun X n h h2 hb => by rw [hR, h]; exact ⟨.inl ⟨h2, rfl⟩, hb⟩)
  have HY := Lib.hid (show ∀ (X : World) (k : Nat), rkN xs line = 0 → rkL xs.length (ordF xs) line 0 0 = some k → Below w.heap.size w X → R (.returned (.tuple #[.int .i64 (k : Int), .int .i64 0])) X from fun X k h h2 hb => by rw [hR, h]; exact ⟨.inr ⟨rfl, k, rfl, h2⟩, hb⟩)
  clear hR h h2
  go_enter Try.func32, Try.ntmps32
  go_wp2_with (fail)
  go_at_call 48
  refine (c_read A c xs w H.out).mono ?_
  rintro e w1 ⟨⟨h0, rfl⟩ | ⟨h0, hl, hok, hno, g, rfl, hg, hblk⟩, b1⟩
  · have H0 := Lib.hid h0
    have K1 := Lib.hid b1
    have hne : (rdN xs != 0) = true := by simpa using h0
    have hd0 : (rdN xs == 0) = false := by simpa using h0
    clear h0 b1
    go_wp2_with (fail)
    exact HE.out _ _ (by unfold rkN; rw [if_pos H0.out]) H0.out K1.out
  · have H0 := Lib.hid h0
    have K1 := Lib.hid b1
    have HC := Lib.hid (c_rank g xs.length (ordF xs) hl (ordF_lt hl hok) A2 c2 line w1 hblk (H2.out.on b1 (Nat.le_refl _)))
    clear h0 b1 hblk
    go_wp2_with (fail)
    go_at_call 65
    refine HC.out.mono ?_
    rintro e w2 ⟨⟨k, rfl, hle, hk⟩ | ⟨rfl, hk⟩, b2⟩
    · have K2 := Lib.hid (below_join K1.out b2 K1.out.size)
      have HK := Lib.hid hk
      have HL := Lib.hid hle
      clear b2 hk hle
      go_wp2_with (fail)
      exact HY.out _ _ (rk_ok H0.out HL.out HK.out) HK.out K2.out
    · have K2 := Lib.hid (below_join K1.out b2 K1.out.size)
      have HK := Lib.hid hk
      clear b2 hk
      go_wp2_with (fail)
      exact HE.out _ _ (rk_err H0.out HK.out) (by decide) K2.out
end Go.Proofs.Ytjheaeeeeggncaa

namespace Go.Proofs.Ytjheaeeeeggncaa
open Go.RowKit Go.Shelf
set_option maxRecDepth 100000

section
variable {P : Program} {ops : Array Oper} {Q : Exit → Act → World → Prop} {md : Region.Mode} {S : World → Prop} {z : Nat → Bool}
/-- Whatever order comes: S holds behind each operation but z. -/
def wpAnyZs (P : Program) (md : Region.Mode) (ops : Array Oper) (Q : Exit → Act → World → Prop) (S : World → Prop) (z : Nat → Bool) : Nat → Array Bool → Act → World → Prop
  | 0, listed, a, w => Region.ready md ops listed = [] ∧ Q .normal a w
  | fuel + 1, listed, a, w =>
    (Region.ready md ops listed = [] → Q .normal a w) ∧
    ∀ i ∈ Region.ready md ops listed, wpOp P ops Q i (fun a' w' => (z i = true ∨ S w') ∧ wpAnyZs P md ops Q S z fuel (listed.setIfInBounds i true) a' w') a w
theorem any_of_zs : ∀ (fuel : Nat) (listed : Array Bool) (a : Act) (w : World), wpAnyZs P md ops Q S z fuel listed a w → wpAny P md ops Q fuel listed a w
  | 0, _, _, _, h => h
  | fuel + 1, _, _, _, h => ⟨h.1, fun i hi => wpOp_mono (fun a' w' h' => any_of_zs fuel _ a' w' h'.2) (h.2 i hi)⟩
/-- z waits for all others: for each itself, or by one between. -/
def waitsAlls (md : Region.Mode) (ops : Array Oper) (z : Nat → Bool) : Bool :=
  (List.range ops.size).all fun j => !z j || match ops[j]? with
  | none => false
  | some o => (List.range ops.size).all fun k => z k || o.after.any fun e => Region.binds md e && (e.on == k || match ops[e.on]? with
    | none => false
    | some o2 => o2.after.any fun e2 => Region.binds md e2 && e2.on == k)
/-- What is listed has all that it waits for listed. -/
def Clo (md : Region.Mode) (ops : Array Oper) (listed : Array Bool) : Prop := ∀ (k : Nat) (o : Oper), ops[k]? = some o → listed.getD k false = true → ∀ e ∈ o.after, Region.binds md e = true → listed.getD e.on false = true
def cloB (md : Region.Mode) (ops : Array Oper) (listed : Array Bool) : Bool :=
  (List.range ops.size).all fun k => !listed.getD k false || match ops[k]? with
  | none => true
  | some o => o.after.all fun e => !Region.binds md e || listed.getD e.on false
theorem cloB_spec {listed : Array Bool} (h : cloB md ops listed = true) : Clo md ops listed := by
  intro k o ho hk e he hb
  unfold cloB at h
  have h0 := List.all_eq_true.1 h k (List.mem_range.2 (Array.getElem?_eq_some_iff.1 ho).1)
  rw [hk, ho] at h0
  simp only [Bool.not_true, Bool.false_or] at h0
  rw [← Array.all_toList, List.all_eq_true] at h0
  have h1 := h0 e (Array.mem_toList_iff.2 he)
  rw [hb] at h1
  simpa using h1
theorem getD_on {listed : Array Bool} {j k : Nat} (h : listed.getD k false = true) : (listed.setIfInBounds j true).getD k false = true := by
  have hlt : k < listed.size := by
    rcases Nat.lt_or_ge k listed.size with g | g
    · exact g
    · simp [Array.getElem?_eq_none g] at h
  by_cases e : j = k
  · subst e
    simp [Array.getD, hlt]
  · rw [getD_set_ne false e]; exact h
theorem Clo.step {listed : Array Bool} {j : Nat} (h : Clo md ops listed) (hr : j ∈ Region.ready md ops listed) : Clo md ops (listed.setIfInBounds j true) := by
  intro k o ho hk e he hb
  obtain ⟨-, oj, hoj, hall⟩ := mem_ready.1 hr
  by_cases e0 : j = k
  · subst e0
    rw [hoj] at ho; cases ho
    exact getD_on (hall e he hb)
  · rw [getD_set_ne false e0] at hk
    exact getD_on (h k o ho hk e he hb)
theorem waits_specs (hz : waitsAlls md ops z = true) {listed : Array Bool} (hcl : Clo md ops listed) {j : Nat} (hj : z j = true) (hr : j ∈ Region.ready md ops listed) {i : Nat} (hi : i < ops.size) (hne : z i = false) : listed.getD i false = true := by
  obtain ⟨-, o, ho, hall⟩ := mem_ready.1 hr
  unfold waitsAlls at hz
  have h0 := List.all_eq_true.1 hz j (List.mem_range.2 (Array.getElem?_eq_some_iff.1 ho).1)
  rw [hj, ho] at h0
  simp only [Bool.not_true, Bool.false_or] at h0
  have h1 := List.all_eq_true.1 h0 i (List.mem_range.2 hi)
  rw [hne, Bool.false_or] at h1
  rw [← Array.any_toList, List.any_eq_true] at h1
  obtain ⟨e, he, hb⟩ := h1
  rw [Array.mem_toList_iff] at he
  rw [Bool.and_eq_true, Bool.or_eq_true] at hb
  have h2 := hall e he hb.1
  rcases hb.2 with h3 | h3
  · rw [← eq_of_beq h3]; exact h2
  · cases ho2 : ops[e.on]? with
    | none => rw [ho2] at h3; cases h3
    | some o2 =>
      rw [ho2] at h3
      simp only [] at h3
      rw [← Array.any_toList, List.any_eq_true] at h3
      obtain ⟨e2, he2, hb2⟩ := h3
      rw [Array.mem_toList_iff] at he2
      rw [Bool.and_eq_true] at hb2
      rw [← eq_of_beq hb2.2]
      exact hcl _ _ ho2 h2 e2 he2 hb2.1
theorem not_boths {listed : Array Bool} {i : Nat} (h1 : listed.getD i true = false) (h2 : listed.getD i false = true) : False := by
  by_cases hlt : i < listed.size
  · simp [hlt] at h1 h2
    rw [h1] at h2; cases h2
  · simp [Array.getElem?_eq_none (show listed.size ≤ i by omega)] at h1
theorem z_firsts {i : Nat} {oi : Oper} {v : Value} (hz : waitsAlls md ops z = true) (hzi : z i = false) (hi : ops[i]? = some oi) (hsel : ∀ (j : Nat) (o : Oper) cs b, ops[j]? = some o → o.op ≠ .select cs b) (hQ : ∀ c a w, Q (.panic c) (a.put oi.dst v) w → Q (.panic c) a w) :
    ∀ (fuel : Nat) (listed : Array Bool) (a : Act) (w : World), (∀ j oj, ops[j]? = some oj → j ≠ i → listed.getD j true = false → (∀ e ∈ oj.after, Region.binds md e = true → e.on ≠ i) → oi.apart ops oj = true) →
      Clo md ops listed → i ∈ Region.ready md ops listed → YieldsIf P ops S oi v a → S w → wpAnyZs P md ops Q S z fuel (listed.setIfInBounds i true) (a.put oi.dst v) w → wpAnyZs P md ops Q S z (fuel + 1) listed a w := by
  intro fuel
  induction fuel with
  | zero =>
    intro listed a w _ hcl hr hy hS H
    refine ⟨fun h0 => ?_, fun j hj => ?_⟩
    · rw [h0] at hr; cases hr
    · rcases Nat.decEq j i with hne | heq
      · have h1 := ready_mono hj hne
        rw [H.1] at h1
        cases h1
      · subst heq
        exact hy.wpOp hi hS ⟨.inr hS, H⟩
  | succ fuel ih =>
    intro listed a w hfree hcl hr hy hS H
    refine ⟨fun h0 => ?_, fun j hj => ?_⟩
    · rw [h0] at hr; cases hr
    rcases Nat.decEq j i with hne | heq
    · obtain ⟨hjun, oj, hoj, hall⟩ := mem_ready.1 hj
      have hi0 := (mem_ready.1 hr).1
      have hwait : ∀ e ∈ oj.after, Region.binds md e = true → e.on ≠ i := fun e he hb heq => not_boths hi0 (by have h1 := hall e he hb; rw [heq] at h1; exact h1)
      have hjz : z j = false := by
        cases e : z j
        · rfl
        · exact (not_boths hi0 (waits_specs hz hcl e hj ((Array.getElem?_eq_some_iff.1 hi).1) hzi)).elim
      have h2 := wpOp_putIf hoj (hfree j oj hoj hne hjun hwait) (fun cs b => hsel i oi cs b hi) (fun cs b => hsel j oj cs b hoj) hQ hy (H.2 j (ready_mono hj hne))
      refine wpOp_mono (fun a' w' h3 => ?_) h2
      obtain ⟨h4, h5, h6⟩ := h3
      have hSw : S w' := h5.resolve_left (by rw [hjz]; simp)
      refine ⟨.inr hSw, ih (listed.setIfInBounds j true) a' w' (fun k ok hk hki hun hno => hfree k ok hk hki ?_ hno) (hcl.step hj) (ready_mono hr (Ne.symm hne)) h4 hSw ?_⟩
      · by_cases hjk : j = k
        · subst hjk; exact hjun
        · rw [getD_set_ne true hjk] at hun; exact hun
      · rw [Array.setIfInBounds_comm _ _ hne]
        exact h6
    · subst heq
      exact hy.wpOp hi hS ⟨.inr hS, H⟩
theorem takeZs (i : Nat) (d : Option Tmp) {oi : Oper} {v : Value} {fuel : Nat} {listed : Array Bool} {a : Act} {w : World} (hz : waitsAlls md ops z = true) (hzi : z i = false) (hi : ops[i]? = some oi) (hd : oi.dst = d)
    (hs : Region.noSelect ops = true) (hcl : cloB md ops listed = true) (hf : Region.free md ops listed i = true) (hr : (Region.ready md ops listed).contains i = true)
    (hQ : ∀ c a w, Q (.panic c) (a.put d v) w → Q (.panic c) a w) (hw : Region.wanted oi (yielded ops a.tmps) = true) (hy : ∀ w, S w → (execOp a.eval oi).run P w = .ok (.value v) w) (hS : S w)
    (h : wpAnyZs P md ops Q S z fuel (listed.setIfInBounds i true) (a.put d v) w) : wpAnyZs P md ops Q S z (fuel + 1) listed a w := by
  subst hd
  exact z_firsts hz hzi hi (Region.noSelect_spec hs) hQ fuel listed a w (Region.free_spec hi hf) (cloB_spec hcl) (by simpa using hr) (.inl ⟨hw, hy⟩) hS h
/-- An operation whose guard leaves it out. -/
theorem skipZs (i : Nat) (d : Option Tmp) {oi : Oper} {fuel : Nat} {listed : Array Bool} {a : Act} {w : World} (hz : waitsAlls md ops z = true) (hzi : z i = false) (hi : ops[i]? = some oi) (hd : oi.dst = d)
    (hs : Region.noSelect ops = true) (hcl : cloB md ops listed = true) (hf : Region.free md ops listed i = true) (hr : (Region.ready md ops listed).contains i = true)
    (hQ : ∀ c a w, Q (.panic c) (a.put d undef) w → Q (.panic c) a w) (hw : Region.wanted oi (yielded ops a.tmps) = false) (hS : S w)
    (h : wpAnyZs P md ops Q S z fuel (listed.setIfInBounds i true) (a.put d undef) w) : wpAnyZs P md ops Q S z (fuel + 1) listed a w := by
  subst hd
  exact z_firsts hz hzi hi (Region.noSelect_spec hs) hQ fuel listed a w (Region.free_spec hi hf) (cloB_spec hcl) (by simpa using hr) (.inr ⟨hw, rfl⟩) hS h
/-- One operation alone may come up. -/
theorem oneZs (i : Nat) {oi : Oper} {fuel : Nat} {listed : Array Bool} {a : Act} {w : World} (hi : ops[i]? = some oi) (hr : Region.ready md ops listed = [i])
    (h : ∀ K : Act → World → Prop, _root_.Go.Shut (∀ a w, (z i = true ∨ S w) → wpAnyZs P md ops Q S z fuel (listed.setIfInBounds i true) a w → K a w) → if Region.wanted oi (yielded ops a.tmps) = true then Oper.wp P oi a w K Q else K (a.put oi.dst undef) w) :
    wpAnyZs P md ops Q S z (fuel + 1) listed a w := by
  refine ⟨fun h0 => ?_, fun j hj => ?_⟩
  · rw [hr] at h0; cases h0
  · rw [hr] at hj
    obtain rfl : j = i := by simpa using hj
    exact wpOp_step hi fun K hK => h K fun a w h1 h2 => hK a w ⟨h1, h2⟩
theorem doneZs {listed : Array Bool} {a : Act} {w : World} (hr : Region.ready md ops listed = []) (h : Q .normal a w) : ∀ fuel, wpAnyZs P md ops Q S z fuel listed a w
  | 0 => ⟨hr, h⟩
  | _ + 1 => ⟨fun _ => h, by rw [hr]; simp⟩
theorem region_zs {id : Nat} {a : Act} {w : World} (z : Nat → Bool) (hm : P.follows .mixedOrders = true) (hS : S w.drew) (h : S w.drew → wpAnyZs P .any ops Q S z ops.size (Array.replicate ops.size false) a w.drew) : (Code.region id ops true).wp P Q a w :=
  wp_region_any hm (any_of_zs _ _ _ _ (h hS))
end

theorem anyIn_of_zs {P : Program} {ops : Array Oper} {md : Region.Mode} {l n : Nat} {z : Nat → Bool} {S : World → Prop} {Q : Exit → Act → World → Prop} (hnd : noDefer ops = true) :
    ∀ (fuel : Nat) (listed : Array Bool) (a : Act) (w : World), wpAnyZs P md ops (NoOut Q) S z fuel listed a w → wpAnyIn (Fence.wide.inRound l) n P md ops Q fuel listed a w
  | 0, _, _, _, h => ⟨h.1, NoOut.imp _ _ _ h.2⟩
  | fuel + 1, listed, a, w, h => by
    refine ⟨fun h0 => NoOut.imp _ _ _ (h.1 h0), fun i hi => ?_⟩
    have h2 := h.2 i hi
    unfold wpOp at h2
    unfold wpOpIn
    split at h2
    · rename_i e
      rw [e]
      exact anyIn_of_zs hnd fuel _ _ _ h2.2
    · rename_i o e
      rw [e]
      show if _ then _ else _
      split at h2
      · rename_i hw
        rw [if_pos hw]
        rcases h2 with h2 | h2
        · exact Oper.wpIn_mono (fun a' w' h3 => anyIn_of_zs hnd fuel _ a' w' h3.2) (opIn_of_op (noDefer_spec hnd e) h2)
        · exact (not_letsOut Q h2.2).elim
      · rename_i hw
        rw [if_neg hw]
        exact ⟨fun _ _ => trivial, anyIn_of_zs hnd fuel _ _ _ h2.2⟩
/-- A region that draws, in a round; the operation z waits for all others. -/
theorem region_round_zs {P : Program} {ops : Array Oper} {l n id : Nat} {S : World → Prop} {Q : Exit → Act → World → Prop} {a : Act} {w : World} (z : Nat → Bool) (hm : P.follows .mixedOrders = true) (hnd : noDefer ops = true) (hS : S w.drew)
    (h : S w.drew → wpAnyZs P .any ops (NoOut Q) S z ops.size (Array.replicate ops.size false) a w.drew) : (Code.region id ops true).wpIn (Fence.wide.inRound l) n P Q a w :=
  wpIn_region_any hm (anyIn_of_zs hnd _ _ _ _ (h hS))
end Go.Proofs.Ytjheaeeeeggncaa
