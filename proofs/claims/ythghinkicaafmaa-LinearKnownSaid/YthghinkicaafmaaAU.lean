/-
  DERIVED. slices.AppendSeq, slices.Collect over an iterator (stage 6).
-/
import Derived.Test.YthghinkicaafmaaAT
namespace Go.Proofs.Ythghinkicaafmaa
open Go.RowKit Go.Shelf
attribute [local go_sem] Oper.semAt_some
set_option maxRecDepth 100000

theorem int_info : (Try.prog.info? 3).map (fun i => (i.zero, i.size, i.bytes)) = some (some (.int .i64 0), 1, 8) := by kernel_rfl
theorem one_at {W : World} {b : Nat} {x : Value} {T : TypeId} (hb : W.heap[b]? = some (.cells #[x] T (0, 0))) (j : Nat) (u : Value) (hj : [x][j]? = some u) : W.cell? ((⟨b, 0, none⟩ : Addr).add j) = some u := by
  have e : (⟨b, 0, none⟩ : Addr).add j = ⟨b, j, none⟩ := by unfold Addr.add; split <;> simp_all
  rw [e]
  match j, hj with
  | 0, hj => simp at hj; subst hj; exact one_cell hb
/-- A number is appended in a round and its slice stored into the box. -/
theorem col_step {w0 Y Z : World} {bc S0 m : Nat} {Gd : Nat → Prop} {pre : List Int} {x : Int} {v : Value} {g2 cap2 q : Nat} (hq : pre.length = q) (hb : bc < S0) (hw : w0.heap.size ≤ bc) (hG : ∀ k, Gd k → k < S0 ∧ k ≠ bc) (hsz : S0 + m ≤ Y.heap.size)
    (k1 : Boxed Y bc 32 v) (k2 : Y.ownsRow w0.heap.size 3 1 v pre.length (ints pre)) (k3 : ∀ g, v.ownBlock = some g → S0 + m ≤ g) (k4 : Below w0.heap.size w0 Y) {tmp : Obj}
    (hown : Z.ownsRow w0.heap.size 3 1 (.slice (some ⟨g2, 0, none⟩) (q + 1) cap2) (q + 1) (ints pre ++ [.int .i64 x])) (hgrow : (Y.alloc tmp).grownBy Z v.ownBlock) (hat : v.ownBlock = some g2 ∨ g2 = Y.heap.size + 1) :
    Boxed Z bc 32 v ∧ ColI w0 bc (S0 + m) (pre ++ [x]) (Z.setCell ⟨bc, 0, none⟩ (.slice (some ⟨g2, 0, none⟩) (q + 1) cap2)) ∧ KpIt S0 m Gd Y (Z.setCell ⟨bc, 0, none⟩ (.slice (some ⟨g2, 0, none⟩) (q + 1) cap2)) ∧ (∀ B, KeepsFrom B Y (Z.setCell ⟨bc, 0, none⟩ (.slice (some ⟨g2, 0, none⟩) (q + 1) cap2))) := by
  subst hq
  obtain ⟨hv1, hv2, hr2, hk2, hb2⟩ := k1.appended (by decide) k2 k4.size hw hown hgrow
  refine ⟨hv1, ⟨⟨_, hv2, by rw [List.length_append, ints_snoc]; exact hr2, fun g hg => ?_⟩, k4.trans hb2⟩, ⟨hb2.size, fun k cs t fr hk hc => ?_, fun k o _ hc ho => hk2.same k o hc ho⟩, fun B => hk2.from B⟩
  · obtain rfl : g2 = g := by simpa [Value.ownBlock] using hg
    rcases hat with h | h
    · exact k3 _ h
    · omega
  · have hkl := at_lt hc
    have hlt : k < S0 + m := by rcases hk with h | h; have := hG k h; omega; omega
    have hne : k ≠ bc := by rcases hk with h | h; exact (hG k h).2; omega
    rw [Below.heap_setCell Z ⟨bc, 0, none⟩ _ k hne, hgrow.block k (by simp; omega) (fun e => by have := k3 k e.symm; omega), Below.heap_alloc _ _ _ hkl]
    exact hc
set_option maxHeartbeats 4000000 in
theorem c_AppendSeq (m : Nat) (Gd : Nat → Prop) (gf : Nat) (lb : Array Value) (am : List Int) (hn : am.length ≤ 1000) (eg : ∀ args w, (callFunc gf args).run Try.prog w = .ok (.enter gf args) w) (w : World) (hGd : ∀ k, Gd k → k < w.heap.size)
    (hseq : SeqIt 7 Try.prog gf lb m Gd okI am w) :
    Calls Try.prog 50 #[.slice none 0 0, .func (.func gf) #[] lb] w fun e w' => ∃ v, e = .returned v ∧ IntSl w' v am ∧ Below w.heap.size w w' := by
  obtain ⟨W, hW⟩ : ∃ W, W = w.alloc (.cells #[.slice none 0 0] 32) := ⟨_, rfl⟩
  have HB := Lib.hid (show Below w.heap.size w W by subst hW; exact (Below.refl _ _).alloc (Nat.le_refl _) _)
  have HX := Lib.hid (show Boxed W w.heap.size 32 (.slice none 0 0) by subst hW; exact Boxed.new _ _ _)
  have hzW : W.heap.size = w.heap.size + 1 := by subst hW; simp
  have HSQ := Lib.hid hseq
  have HGD := Lib.hid hGd
  clear hseq hGd
  refine (callsIn_wide (n := 8)).1 ?_
  refine callsIn_of_wp_marks Try.func50 rfl trivial ?_ rfl
  simp only [Try.ntmps50, List.size_toArray, List.length_cons, List.length_nil, Nat.reduceAdd, Nat.reduceSub, Array.replicate_succ, Array.replicate_zero, List.push_toArray, List.append_toArray, List.nil_append, List.cons_append]
  rw [wpIn_wide]
  go_wp2_with (fail)
  rw [← hW]
  clear hW
  obtain ⟨i0, hi0, hzz0, hzz1, hzz2⟩ := info_parts int_info
  refine (wpIn_wide (n := 8)).1 ?_
  refine wpIn_it (n := 8) (by omega) (gf := gf) (lb := lb) rfl eg (m := m) (Gd := Gd) (ok := okI) (ts := am) (w0 := w) HSQ.out (KpG.of_below HB.out (Nat.le_refl _)) (fun v t h => by rw [h]; rfl)
    (fun pre X => ColI w w.heap.size (W.heap.size + 2 + m) pre X) (fun _ _ _ => False)
    (fun pre X Y h hE => h.own hE (by omega) (by omega)) (fun _ _ _ _ h _ => h.elim)
    (fun pre X l o o' h hl ho hc => h.put (by omega) ho hc) (fun _ _ _ _ _ _ h _ _ _ => h.elim)
    ⟨⟨_, HX.out, World.ownsRow_nil _ _ _ _, fun g hg => by cases hg⟩, HB.out⟩ ?round ?done (fun _ _ _ _ _ _ h _ => h.elim)
  case round =>
    intro l pre v x X K hpre hok hK
    obtain rfl : v = #[.int .i64 x] := hok
    gi_wp2_with (fail)
    refine hK _ _ (Below.refl _ _) ?_
    rintro Y ⟨o, o', ho, hoc, hYe⟩ hsz ⟨⟨v, k1, k2, k3⟩, k4⟩
    have hlen : pre.length + 1 ≤ am.length := by have := hpre.length_le; simpa using this
    have hcell := k1.cell
    have HK1 := Lib.hid k1
    have HK2 := Lib.hid k2
    have HK3 := Lib.hid k3
    have HK4 := Lib.hid k4
    have hbs := k4.size
    clear hYe ho hoc o o' hK k1 k2 k3 k4 hpre
    gi_wp2_with (gi_at_builtin; refine wpListIn_append_lies _ rfl _ _ 32 rfl w.heap.size 3 i0 (.int .i64 0) 1 8 Try.underlying32 hi0 hzz0 hzz1 hzz2 rfl (by decide) _ _ _ rfl (HK2.out.alloc _) ⟨Y.heap.size, 0, none⟩ 1 1 [.int .i64 x] rfl rfl (one_at (heap_alloc_new _ _)) (by simp [Value.oneCell']) (by decide) (by unfold maxLen; omega) (by omega) (by simp; omega) (Y.heap.size + 1) (by simp) ?_)
    intro g2 cap2 Z hown hgrow hat
    obtain ⟨hv1, hc2, hkp, hkf⟩ := col_step (S0 := W.heap.size + 2) (m := m) (Gd := Gd) rfl (by omega) (Nat.le_refl _) (fun k hk => by have := HGD.out k hk; omega) hsz HK1.out HK2.out HK3.out HK4.out hown hgrow hat
    have hc1 := hv1.cell
    have hf1 := hv1.frozen
    have HC := Lib.hid hc2
    have HKP := Lib.hid hkp
    have HKF := Lib.hid hkf
    clear hv1 hc2 hkp hkf hown hgrow hat
    gi_wp2_with (fail)
    exact ⟨HKF.out _, HKP.out, HC.out⟩
  case done =>
    rintro D X rfl ⟨⟨v, k1, k2, k3⟩, k4⟩ hdef
    have hcell := k1.cell
    have HDEF := Lib.hid hdef
    have HR := Lib.hid (show IntSl (X.putObj W.heap.size (.deferred none)) v am from own_intSl (own_row_kept k2 (fun g cur _ hc => put_cells hc hdef rfl)))
    have HB4 := Lib.hid (below_put (o' := .deferred none) k4 (by omega : w.heap.size ≤ W.heap.size))
    clear k1 k2 k3 k4 hdef
    go_wp2_with (fail)
    refine ⟨by simp, .inl ⟨_, _, rfl, run_takeDeferred HDEF.out, ?_⟩⟩
    exact ⟨v, by simp [results, Try.results50, go_sem], _, rfl, HR.out, HB4.out⟩
theorem c_Collect (m : Nat) (Gd : Nat → Prop) (gf : Nat) (lb : Array Value) (am : List Int) (hn : am.length ≤ 1000) (eg : ∀ args w, (callFunc gf args).run Try.prog w = .ok (.enter gf args) w) (w : World) (hGd : ∀ k, Gd k → k < w.heap.size)
    (hseq : SeqIt 7 Try.prog gf lb m Gd okI am w) :
    Calls Try.prog 38 #[.func (.func gf) #[] lb] w fun e w' => ∃ v, e = .returned v ∧ IntSl w' v am ∧ Below w.heap.size w w' := by
  have HC := Lib.hid (c_AppendSeq m Gd gf lb am hn eg w hGd hseq)
  clear hseq hGd eg
  go_enter Try.func38, Try.ntmps38
  go_wp2_with (fail)
  go_at_call 50
  refine HC.out.mono ?_
  rintro e w1 ⟨v, rfl, hi, hb⟩
  have HI := Lib.hid hi
  have HB := Lib.hid hb
  clear hi hb
  go_wp2_with (fail)
  go_ret
  exact ⟨v, rfl, HI.out, HB.out⟩
end Go.Proofs.Ythghinkicaafmaa
