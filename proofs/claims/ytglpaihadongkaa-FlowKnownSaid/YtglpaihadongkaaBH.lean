/-
  DERIVED. distances: a search from s (stage 5).
-/
import Derived.Test.YtglpaihadongkaaBG
import Derived.Test.YtglpaihadongkaaAH
import Derived.Test.YtglpaihadongkaaBE
namespace Go.Proofs.Ytglpaihadongkaa
open Go.RowKit Go.Shelf
attribute [local go_sem] Oper.semAt_some
set_option maxRecDepth 100000
set_option linter.unusedSimpArgs false
set_option linter.unusedVariables false

/-- What distances returns. -/
def DiPost (N s : Nat) (l : List Ar) (W : World) (e : Ending) (w' : World) : Prop :=
  ∃ F g, e = .returned (.slice (some ⟨g, 0, none⟩) N N) ∧ Row w' g 0 F ∧ F.length = N ∧ IsFar l s (ff F) ∧ (∀ n, ff F n ≤ (N : Int)) ∧ W.heap.size ≤ g ∧ Below W.heap.size W w'
/-- The memory of a search. -/
structure DsM (W : World) (ro : Array Value) (g bf bq N : Nat) (K : Nat → Prop) (Q : List Nat) (F : List Int) (v : Value) (X : World) : Prop where
  row : Row X g 0 F
  qb : Boxed X bq 25 v
  qo : QOwn X v (nats Q) K
  bel : Below W.heap.size W X
  far : Boxed X bf 25 (.slice (some ⟨g, 0, none⟩) N N)
  rbox : X.heap[W.heap.size]? = some (.cells ro 64 (0, 0))
structure DiI (W : World) (ro : Array Value) (g bf bq N : Nat) (K : Nat → Prop) (l : List Ar) (s p bN B : Nat) (D Ds : List Nat) (Gd : Nat → Prop) (w2 : World) (pre Q : List Nat) (F : List Int) (v : Value) (X : World) : Prop where
  ds : DsP l s N D [p] Q F
  lp : ff F p ≤ (D.length : Int)
  seen : ∀ m ∈ pre, ∀ q, mvTo l m = some q → 0 < mvRoom l m → 0 ≤ ff F q
  mem : DsM W ro g bf bq N K Q F v X
  node : Boxed X bN 3 (.int .i64 (p : Int))
  kp : KpG Gd w2 X
  mks : Marks B Ds X
section
variable {W : World} {ro : Array Value} {g bf bq N : Nat} {K : Nat → Prop} {l : List Ar} {s p bN B : Nat} {D Ds : List Nat} {Gd : Nat → Prop} {w2 : World} {pre Q : List Nat} {F : List Int} {v : Value} {X Y : World}
theorem DsM.moved (h : DsM W ro g bf bq N K Q F v X) (hk : ∀ (k : Nat) (cs : Array Value) (T : TypeId) (fr : Nat × Nat), X.heap[k]? = some (.cells cs T fr) → Y.heap[k]? = some (.cells cs T fr)) (hb : Below W.heap.size W Y) : DsM W ro g bf bq N K Q F v Y :=
  ⟨h.row.kept (fun cs t fr hb => hk _ cs t fr hb), hk _ _ _ _ h.qb, h.qo.kept (fun g cs t fr _ hb => hk g cs t fr hb) (fun _ h _ => h), hb, hk _ _ _ _ h.far, hk _ _ _ _ h.rbox⟩
theorem DsM.toK {K' : Nat → Prop} (h : DsM W ro g bf bq N K Q F v X) (hK : ∀ k, v.ownBlock = some k → K' k) : DsM W ro g bf bq N K' Q F v X := by
  refine ⟨h.row, h.qb, ?_, h.bel, h.far, h.rbox⟩
  obtain ⟨g, o, c, rfl, h1, h2⟩ := h.qo
  exact ⟨g, o, c, rfl, hK g rfl, h2⟩
theorem DiI.own {T : Nat} (h : DiI W ro g bf bq N K l s p bN B D Ds Gd w2 pre Q F v X) (hE : OwnIt T 0 X Y) (hT : W.heap.size ≤ T) (hD : ∀ d ∈ Ds, d < T) : DiI W ro g bf bq N K l s p bN B D Ds Gd w2 pre Q F v Y := by
  have hk : ∀ (k : Nat) (cs : Array Value) (t : TypeId) (fr : Nat × Nat), X.heap[k]? = some (.cells cs t fr) → Y.heap[k]? = some (.cells cs t fr) := fun k cs t fr hb => hE.same k _ hb (by rcases Nat.lt_or_ge k T with g | g; exact .inl g; exact .inr ⟨rfl, by omega⟩)
  exact ⟨h.ds, h.lp, h.seen, h.mem.moved hk (below_own h.mem.bel hE hT), hk _ _ _ _ h.node, h.kp.trans ⟨hE.size, fun k cs t fr _ hb => hk k cs t fr hb⟩, ⟨h.mks.nd, fun d hd => ⟨(h.mks.at_ d hd).1, hE.same d _ (h.mks.at_ d hd).2 (.inl (hD d hd))⟩⟩⟩
theorem DiI.put {b : Nat} {o o' : Obj} (h : DiI W ro g bf bq N K l s p bN B D Ds Gd w2 pre Q F v X) (hl : W.heap.size ≤ b) (hb : X.heap[b]? = some o) (hc : o.isCells = false) (hD : ∀ d ∈ Ds, d ≠ b) : DiI W ro g bf bq N K l s p bN B D Ds Gd w2 pre Q F v (X.putObj b o') :=
  ⟨h.ds, h.lp, h.seen, h.mem.moved (fun k cs t fr hk => put_cells hk hb hc) (below_put h.mem.bel hl), put_cells h.node hb hc, h.kp.trans (KpG.put _ hb hc), ⟨h.mks.nd, fun d hd => ⟨(h.mks.at_ d hd).1, put_else (h.mks.at_ d hd).2 (hD d hd)⟩⟩⟩
theorem room_at {r : Rs} (hrr : Row W r.bR r.oR (rooms l)) (hb : Below W.heap.size W X) {m : Nat} (hm : m < 2 * l.length) : X.cell? ⟨r.bR, r.oR + m, none⟩ = some (.int .i64 (mvRoom l m)) := by
  have h1 := (hrr m _ (rooms_get hm)).1
  obtain ⟨cs, t, fr, hc⟩ := cell_block h1
  exact (hb.cell (p := ⟨r.bR, r.oR + m, none⟩) (at_lt hc)).trans h1
theorem op_room {r : Rs} (hrr : Row W r.bR r.oR (rooms l)) (hb : Below W.heap.size W X) {m : Nat} (hm : m < 2 * l.length) : opR r.bR r.oR X m ∨ clR r.bR r.oR X m := by
  rcases Int.lt_or_le 0 (mvRoom l m) with g | g
  · exact .inl ⟨_, g, room_at hrr hb hm⟩
  · exact .inr ⟨_, g, room_at hrr hb hm⟩
theorem DiI.skip {r : Rs} (h : DiI W ro g bf bq N K l s p bN B D Ds Gd w2 pre Q F v X) (hrr : Row W r.bR r.oR (rooms l)) {m : Nat} (hm : m < 2 * l.length) (hc : clR r.bR r.oR X m) : DiI W ro g bf bq N K l s p bN B D Ds Gd w2 (pre ++ [m]) Q F v X := by
  obtain ⟨x, hx, hcx⟩ := hc
  have h1 := room_at hrr h.mem.bel hm
  rw [hcx] at h1
  injection h1 with h1
  injection h1 with _ h1
  refine ⟨h.ds, h.lp, fun k hk q hq hr => ?_, h.mem, h.node, h.kp, h.mks⟩
  rcases List.mem_append.1 hk with hk | hk
  · exact h.seen k hk q hq hr
  · rw [List.mem_singleton] at hk; subst hk; omega
theorem DiI.old (h : DiI W ro g bf bq N K l s p bN B D Ds Gd w2 pre Q F v X) {m q : Nat} (hq : mvTo l m = some q) (hn : ff F q ≠ -1) : DiI W ro g bf bq N K l s p bN B D Ds Gd w2 (pre ++ [m]) Q F v X := by
  refine ⟨h.ds, h.lp, fun k hk q' hq' hr => ?_, h.mem, h.node, h.kp, h.mks⟩
  rcases List.mem_append.1 hk with hk | hk
  · exact h.seen k hk q' hq' hr
  · rw [List.mem_singleton] at hk
    subst hk
    rw [hq] at hq'
    injection hq' with hq'
    subst hq'
    have := h.ds.bfs.low q
    omega
end
theorem kf_drew {B : Nat} {X : World} : KeepsFrom B X X.drew := ⟨Nat.le_refl _, fun _ _ _ h _ => h⟩
theorem kf_alloc {B : Nat} {X : World} (o : Obj) : KeepsFrom B X (X.alloc o) := ⟨by simp, fun _ _ _ h _ => old_heap _ h⟩
theorem kf_out {B : Nat} {T : Nat → Prop} {X Y : World} (h : Out T X Y) (hT : ∀ k, T k → ∃ cs t fr, X.heap[k]? = some (.cells cs t fr)) : KeepsFrom B X Y :=
  ⟨h.size, fun k o _ hk ho => h.same k o (fun hh => by obtain ⟨cs, t, fr, hc⟩ := hT k hh; rw [hc] at hk; cases hk; cases ho) hk⟩
/-- A node is found: its distance is stored, it is appended to those that wait. -/
theorem di_step {W : World} {ro : Array Value} {g bf bq N : Nat} {K : Nat → Prop} {l : List Ar} {s p bN B m q : Nat} {D Ds : List Nat} {Gd : Nat → Prop} {w2 : World} {pre Q : List Nat} {F : List Int} {v v' : Value} {Y Z3 : World}
    (h : DiI W ro g bf bq N K l s p bN B D Ds Gd w2 pre Q F v Y) (h1 : mvFrom l m = some p) (h2 : mvTo l m = some q) (hr : 0 < mvRoom l m) (hq : ff F q = -1) (hqN : q < N)
    (hK : ∀ k, K k → k ≠ g ∧ k ≠ bf ∧ k ≠ bq ∧ W.heap.size < k ∧ k ≠ bN) (hG : ∀ k, Gd k → k ≠ g ∧ k ≠ bq ∧ ¬ K k ∧ k < w2.heap.size) (hnew : ∀ k, w2.heap.size + 2 ≤ k → K k) (hsz : w2.heap.size + 2 ≤ Y.heap.size) (hb : bN ≠ g ∧ bN ≠ bq ∧ W.heap.size ≤ g ∧ W.heap.size ≤ bq ∧ g ≠ bq ∧ g ≠ bf ∧ bf ≠ bq ∧ W.heap.size ≠ g ∧ W.heap.size ≠ bq)
    (hq3 : QOwn Z3 v' (nats Q ++ [(q : Int)]) (fun k => v.ownBlock = some k ∨ ((Y.drew.setCell ⟨g, q, none⟩ (.int .i64 (ff F p + 1))).alloc (.cells #[.int .i64 (q : Int)] 3)).heap.size ≤ k)) (ho : Out (fun k => v.ownBlock = some k) ((Y.drew.setCell ⟨g, q, none⟩ (.int .i64 (ff F p + 1))).alloc (.cells #[.int .i64 (q : Int)] 3)) Z3) :
    DiI W ro g bf bq N K l s p bN B D Ds Gd w2 (pre ++ [m]) (Q ++ [q]) (F.set q (ff F p + 1)) v' (Z3.setCell ⟨bq, 0, none⟩ v') ∧ (∀ B', KeepsFrom B' Y (Z3.setCell ⟨bq, 0, none⟩ v')) ∧ KpIt (w2.heap.size + 2) 0 Gd Y (Z3.setCell ⟨bq, 0, none⟩ v') ∧ Boxed Z3 bq 25 v := by
  obtain ⟨b1, b2, b3, b4, b5, b6, b7, b8, b9⟩ := hb
  have hqF : q < F.length := by rw [h.ds.len]; exact hqN
  have hrow := h.mem.row.set hqF (ff F p + 1)
  rw [Nat.zero_add] at hrow
  obtain ⟨cs0, t0, fr0, hgc⟩ := cell_block (h.mem.row q _ (ff_at hqF)).1
  -- the world behind the store
  have k1 : ∀ k o, k ≠ g → Y.heap[k]? = some o → (Y.drew.setCell ⟨g, q, none⟩ (.int .i64 (ff F p + 1))).heap[k]? = some o := fun k o hk ho => (Below.heap_setCell Y.drew ⟨g, q, none⟩ _ k hk).trans ho
  have hown : ∀ k, v.ownBlock = some k → K k ∧ ∃ cs t fr, Y.heap[k]? = some (.cells cs t fr) := fun k hk => h.mem.qo.own hk
  have z1 : (Y.drew.setCell ⟨g, q, none⟩ (.int .i64 (ff F p + 1))).heap.size = Y.heap.size := by simp [World.setCell]
  have f1 : ∀ B', KeepsFrom B' Y (Y.drew.setCell ⟨g, q, none⟩ (.int .i64 (ff F p + 1))) := fun B' => kf_drew.trans (kf_store (X := Y.drew) _ hgc)
  have r1 : Row (Y.drew.setCell ⟨g, q, none⟩ (.int .i64 (ff F p + 1))) g 0 (F.set q (ff F p + 1)) := hrow
  have e1 : Below W.heap.size W (Y.drew.setCell ⟨g, q, none⟩ (.int .i64 (ff F p + 1))) := (h.mem.bel.drew).setCell b3 _
  generalize Y.drew.setCell ⟨g, q, none⟩ (.int .i64 (ff F p + 1)) = Z1 at *
  have k2 : ∀ k o, k ≠ g → v.ownBlock ≠ some k → Y.heap[k]? = some o → Z3.heap[k]? = some o := fun k o hk hv hc => ho.same k o hv (old_heap _ (k1 k o hk hc))
  have f2 : ∀ B', KeepsFrom B' Y Z3 := fun B' => ((f1 B').trans (kf_alloc _)).trans (kf_out ho fun k hk => by
    obtain ⟨g1, cs, t, fr, hc⟩ := hown k hk
    exact ⟨cs, t, fr, old_heap _ (k1 k _ (hK k g1).1 hc)⟩)
  have hvn : ∀ k, v.ownBlock = some k → k ≠ g ∧ k ≠ bf ∧ k ≠ bq ∧ W.heap.size < k ∧ k ≠ bN := fun k hk => hK k (hown k hk).1
  have hqb : Boxed Z3 bq 25 v := k2 bq _ (fun e => b5 e.symm) (fun e => (hvn _ e).2.2.1 rfl) h.mem.qb
  have hz3 := ho.size
  rw [World.size_alloc, z1] at hz3
  have e2 : Below W.heap.size W Z3 := ho.below (e1.alloc (by rw [z1]; exact h.mem.bel.size) _) (fun i hi hv => by have := hvn i hv; omega)
  have hf3 : ∀ B', KeepsFrom B' Y (Z3.setCell ⟨bq, 0, none⟩ v') := fun B' => (f2 B').trans (kf_store _ hqb)
  have k4 : ∀ k o, k ≠ g → k ≠ bq → v.ownBlock ≠ some k → Y.heap[k]? = some o → (Z3.setCell ⟨bq, 0, none⟩ v').heap[k]? = some o := fun k o hk hk2 hv hc => (Below.heap_setCell Z3 ⟨bq, 0, none⟩ v' k hk2).trans (k2 k o hk hv hc)
  have hKv' : ∀ k, (v.ownBlock = some k ∨ (Z1.alloc (.cells #[.int .i64 (q : Int)] 3)).heap.size ≤ k) → K k := fun k hk => by
    rcases hk with hk | hk
    · exact (hown k hk).1
    · rw [World.size_alloc, z1] at hk; exact hnew k (by omega)
  have hkp : KpIt (w2.heap.size + 2) 0 Gd Y (Z3.setCell ⟨bq, 0, none⟩ v') := ⟨(hf3 0).size, fun k cs t fr hk hc => by
    rcases hk with hk | hk
    · have hk' := hG k hk
      exact k4 k _ hk'.1 hk'.2.1 (fun e => hk'.2.2.1 (hown k e).1) hc
    · omega, fun k o hk hc ho' => (hf3 0).same k o (Nat.zero_le _) hc ho'⟩
  refine ⟨⟨h.ds.visit h1 h2 hr hq hqN h.lp, ?_, fun k hk q' hq' hr' => ?_, ⟨?_, hqb.set _, ?_, e2.setCell b4 _, ?_, ?_⟩, ?_, h.kp.trans hkp.good, ?_⟩, hf3, hkp, hqb⟩
  · rw [ff_set hqF]
    have hpq : p ≠ q := fun e => by subst e; have := h.ds.at_.1; omega
    rw [if_neg hpq]; exact h.lp
  · rw [ff_set hqF]
    have hp0 := h.ds.at_.1
    split
    · omega
    · rename_i hne
      rcases List.mem_append.1 hk with hk | hk
      · exact h.seen k hk q' hq' hr'
      · rw [List.mem_singleton] at hk
        subst hk
        rw [h2] at hq'
        injection hq' with hq'
        exact absurd hq'.symm hne
  · refine (r1.kept fun cs t fr hc => ?_)
    refine (Below.heap_setCell Z3 ⟨bq, 0, none⟩ v' g b5).trans (ho.same g _ (fun e => (hvn g e).1 rfl) (old_heap _ hc))
  · have : nats (Q ++ [q]) = nats Q ++ [(q : Int)] := by simp [nats]
    rw [this]
    exact hq3.kept (fun k cs t fr hk hc => (Below.heap_setCell Z3 ⟨bq, 0, none⟩ v' k (hK k (hKv' k hk)).2.2.1).trans hc) (fun k hk _ => hKv' k hk)
  · exact k4 bf _ (fun e => b6 e.symm) b7 (fun e => (hvn _ e).2.1 rfl) h.mem.far
  · exact k4 W.heap.size _ b8 b9 (fun e => by have := (hvn _ e).2.2.2.1; omega) h.mem.rbox
  · exact k4 bN _ b1 b2 (fun e => (hvn _ e).2.2.2.2 rfl) h.node
  · exact h.mks.kept fun k o hk hc ho' => (hf3 0).same k o (Nat.zero_le _) ho' hc
set_option maxHeartbeats 8000000 in
theorem c_distances (r : Rs) (N s : Nat) (l : List Ar) (hN : 2 ≤ N ∧ N ≤ 64) (hs : s < N) (hl : l.length ≤ 128) (hnodes : ∀ a ∈ l, a.u < N ∧ a.v < N) (hsh : RShape r N l) (W : World) (hbR : r.bR < W.heap.size) (hfx : ∀ Y, KpG (fun k => k < W.heap.size) W Y → RFix Y r N l) (hrr : Row W r.bR r.oR (rooms l)) :
    Calls Try.prog 38 #[r.val N, .int .i64 (s : Int)] W (DiPost N s l W) := by
  unfold Rs.val Rs.M
  obtain ⟨A1, n1, c1, hE⟩ := hsh.es
  obtain ⟨A2, n2, c2, hR⟩ := hsh.rs
  rw [hE, hR]
  have HE := Lib.hid hE
  have HR := Lib.hid hR
  have HSM := hsh.sm
  unfold maxLen at HSM
  have HFX := Lib.hid hfx
  have HRR := Lib.hid hrr
  have HND := Lib.hid hnodes
  have HSH := Lib.hid hsh
  clear hE hR hfx hrr hnodes hsh
  have HRP := Lib.hid (c_Repeat N (by omega) (-1) (.slice (some ⟨W.heap.size + 1, 0, none⟩) 1 1) ((W.alloc (.cells #[.slice A1 n1 c1, .slice A2 n2 c2, .slice (some ⟨r.bM, r.oM, none⟩) N r.cM] 64)).alloc (.cells #[.int .i64 (-1)] 3)) (by simpa using intSl_one (W.alloc (.cells #[.slice A1 n1 c1, .slice A2 n2 c2, .slice (some ⟨r.bM, r.oM, none⟩) N r.cM] 64)) (-1)))
  simp only [World.size_alloc] at HRP
  refine (callsIn_wide (n := 8)).1 ?_
  refine callsIn_of_wp_marks Try.func38 rfl trivial ?_ rfl
  simp only [Try.ntmps38, List.size_toArray, List.length_cons, List.length_nil, Nat.reduceAdd, Nat.reduceSub, Array.replicate_succ, Array.replicate_zero, List.push_toArray, List.append_toArray, List.nil_append, List.cons_append]
  rw [wpIn_wide]
  go_wp2_with (fail)
  go_at_call 44
  refine HRP.out.mono ?_
  rintro e w1 ⟨rfl, hrow, hb1⟩
  have hz1 : W.heap.size + 3 ≤ w1.heap.size := by have := (at_lt hrow); omega
  have HB1 := Lib.hid (below_join (((Below.refl W.heap.size W).alloc (Nat.le_refl _) (.cells #[.slice A1 n1 c1, .slice A2 n2 c2, .slice (some ⟨r.bM, r.oM, none⟩) N r.cM] 64)).alloc (by simp) (.cells #[.int .i64 (-1)] 3)) hb1 (by omega))
  have HBR := Lib.hid (show w1.heap[W.heap.size]? = some (.cells #[.slice A1 n1 c1, .slice A2 n2 c2, .slice (some ⟨r.bM, r.oM, none⟩) N r.cM] 64 (0, 0)) from (hb1.block _ (by omega)).trans (old_heap _ (heap_alloc_new _ _)))
  obtain ⟨g, hg⟩ : ∃ g, g = W.heap.size + 1 + 1 := ⟨_, rfl⟩
  rw [← hg] at hrow ⊢
  have hgb : W.heap.size + 2 ≤ g ∧ g < W.heap.size + 3 := by omega
  have HROW := Lib.hid (show Row w1 g 0 (List.replicate N (-1)) from row_of_block hrow (by simp [ints]))
  clear hg hrow hb1 HRP
  obtain ⟨f1, f2⟩ := HROW.out s (-1) (by rw [List.getElem?_replicate, if_pos hs])
  rw [Nat.zero_add] at f1 f2
  have f1' := alloc_cell f1
  have f2' : ∀ o, (w1.alloc o).frozen? ⟨g, s, none⟩ = false := fun o => (World.frozen?_of_block (a := ⟨g, s, none⟩) (Below.heap_alloc _ _ _ (show g < w1.heap.size by omega))).trans f2
  have hsN : (s : Int) < (N : Int) := by omega
  clear f1 f2
  go_wp2_with (fail)
  obtain ⟨bf, hbf⟩ : ∃ b, b = w1.heap.size := ⟨_, rfl⟩
  obtain ⟨V, hV⟩ : ∃ V, V = ((((w1.alloc (.cells #[.slice (some ⟨g, 0, none⟩) N N] 25)).setCell ⟨g, s, none⟩ (.int .i64 0)).alloc (.cells #[.int .i64 (s : Int)] 3)).alloc (.cells #[.slice (some ⟨bf + 1, 0, none⟩) 1 1] 25)) := ⟨_, rfl⟩
  have hVM : DsM W #[.slice A1 n1 c1, .slice A2 n2 c2, .slice (some ⟨r.bM, r.oM, none⟩) N r.cM] g bf (bf + 1 + 1) N (fun k => W.heap.size < k ∧ k ≠ g ∧ k ≠ bf ∧ k ≠ bf + 1 + 1) [s] ((List.replicate N (-1)).set s 0) (.slice (some ⟨bf + 1, 0, none⟩) 1 1) V := by
    subst hV
    have q0 : Row (w1.alloc (.cells #[.slice (some ⟨g, 0, none⟩) N N] 25)) g 0 (List.replicate N (-1)) := HROW.out.kept fun cs t fr hb => old_heap _ hb
    have q1 := q0.set (j := s) (by rw [List.length_replicate]; exact hs) 0
    rw [Nat.zero_add] at q1
    have z1 : ((w1.alloc (.cells #[.slice (some ⟨g, 0, none⟩) N N] 25)).setCell ⟨g, s, none⟩ (.int .i64 0)).heap.size = bf + 1 := by simp [World.setCell, hbf]
    have b1 : Boxed ((w1.alloc (.cells #[.slice (some ⟨g, 0, none⟩) N N] 25)).setCell ⟨g, s, none⟩ (.int .i64 0)) bf 25 (.slice (some ⟨g, 0, none⟩) N N) := boxed_far (row_new _ _ _ hbf) (by omega) _
    have b2 : ((w1.alloc (.cells #[.slice (some ⟨g, 0, none⟩) N N] 25)).setCell ⟨g, s, none⟩ (.int .i64 0)).heap[W.heap.size]? = some (.cells #[.slice A1 n1 c1, .slice A2 n2 c2, .slice (some ⟨r.bM, r.oM, none⟩) N r.cM] 64 (0, 0)) :=
      (Below.heap_setCell _ ⟨g, s, none⟩ _ _ (show W.heap.size ≠ g by omega)).trans (old_heap _ HBR.out)
    have b3 : Below W.heap.size W ((w1.alloc (.cells #[.slice (some ⟨g, 0, none⟩) N N] 25)).setCell ⟨g, s, none⟩ (.int .i64 0)) := (HB1.out.alloc (by omega) _).setCell (show W.heap.size ≤ g by omega) _
    generalize (w1.alloc (.cells #[.slice (some ⟨g, 0, none⟩) N N] 25)).setCell ⟨g, s, none⟩ (.int .i64 0) = w3 at q1 z1 b1 b2 b3 ⊢
    refine ⟨q1.kept fun cs t fr hb => old_heap _ (old_heap _ hb), row_new _ _ _ (by simp [z1]), ?_, (b3.alloc (by omega) _).alloc (by simp; omega) _, old_heap _ (old_heap _ b1), old_heap _ (old_heap _ b2)⟩
    have hl := old_heap (.cells #[.slice (some ⟨bf + 1, 0, none⟩) 1 1] 25) (row_new w3 (.cells #[.int .i64 (s : Int)] 3) (bf + 1) z1.symm)
    refine ⟨bf + 1, 0, 1, rfl, by omega, ⟨_, _, _, hl⟩, Nat.le_refl _, by unfold maxLen; omega, fun j hj => ?_, fun j x hx => ?_⟩
    · obtain rfl : j = 0 := by omega
      simp [World.cell?, World.frozen?, hl]
    · match j, hx with
      | 0, hx => simp [nats] at hx; subst hx; simp [World.cell?, hl]
  rw [← hbf] at hz1 ⊢
  rw [← hV]
  have hw1b : w1.heap.size ≤ bf ∧ bf ≤ w1.heap.size := by omega
  clear hV f1' f2' HB1 HBR HROW hbf
  refine wp_loop_ghost_k (fun k a w => ∃ (Ds D Q : List Nat) (F : List Int) (v : Value) (u7 u8 u9 u20 u21 u22 u23 u24 u25 u26 u27 u28 u29 u30 u31 u32 u33 u34 u35 u36 u37 u38 u39 u40 u41 u42 u43 u44 u45 u46 u47 u48 u49 u50 u51 u52 u53 u54 : Value), a = { tmps := #[.agg #[.slice A1 n1 c1, .slice A2 n2 c2, .slice (some ⟨r.bM, r.oM, none⟩) N r.cM], .int .i64 (s : Int), .pointer (some ⟨W.heap.size, 0, none⟩), undef, .slice none 0 0, .pointer (some ⟨bf, 0, none⟩), .pointer (some ⟨bf + 1 + 1, 0, none⟩), u7, u8, u9,
      .slice (some ⟨W.heap.size + 1, 0, none⟩) 1 1, .pointer (some ⟨W.heap.size, 2, none⟩), .slice (some ⟨r.bM, r.oM, none⟩) N r.cM, .int .i64 (N : Int), .slice (some ⟨g, 0, none⟩) N N, .slice (some ⟨g, 0, none⟩) N N, .int .i64 (s : Int), .pointer (some ⟨g, s, none⟩), .int .i64 (s : Int), .slice (some ⟨bf + 1, 0, none⟩) 1 1, u20, u21, u22, u23, u24, u25, u26, u27, u28, u29, u30, u31, u32, u33, u34, u35, u36, u37, u38, u39, u40, u41, u42, u43, u44, u45, u46, u47, u48, u49, u50, u51, u52, u53, u54], defers := Ds.map markOf } ∧
      Marks bf Ds w ∧ k = N - D.length ∧ DsP l s N D [] Q F ∧ DsM W #[.slice A1 n1 c1, .slice A2 n2 c2, .slice (some ⟨r.bM, r.oM, none⟩) N r.cM] g bf (bf + 1 + 1) N (fun k => W.heap.size < k ∧ k ≠ g ∧ k ≠ bf ∧ k ≠ bf + 1 + 1) Q F v w) N ?start ?round
  case start =>
    exact ⟨[], [], [s], _, _, _, _, _, _, _, _, _, _, _, _, _, _, _, _, _, _, _, _, _, _, _, _, _, _, _, _, _, _, _, _, _, _, _, _, _, _, _, _, rfl, Marks.nil _ _, rfl, DsP.start hs, hVM⟩
  case round =>
    clear hVM V
    intro gk a X hI J KK hJ hKK
    obtain ⟨Ds, D, Q, F, v, u7, u8, u9, u20, u21, u22, u23, u24, u25, u26, u27, u28, u29, u30, u31, u32, u33, u34, u35, u36, u37, u38, u39, u40, u41, u42, u43, u44, u45, u46, u47, u48, u49, u50, u51, u52, u53, u54, rfl, hmk, hgk, hds, hm⟩ := hI
    try dsimp only
    have HMK := Lib.hid hmk
    have HGK := Lib.hid hgk
    have HDS := Lib.hid hds
    have HM := Lib.hid hm
    have hqc := hm.qb.cell
    cases Q with
    | nil =>
      obtain ⟨g1, o1, c1', e, -, -, h2, h3, -⟩ := hm.qo
      subst e
      have hfc := hm.far.cell
      have HP := Lib.hid (show DiPost N s l W (.returned (.slice (some ⟨g, 0, none⟩) N N)) (putMarks Ds X) from
        ⟨F, g, rfl, hm.row.kept (fun cs t fr hb => putMarks_cells hmk _ cs t fr hb), hds.len, hds.end_.1, hds.end_.2, by omega, putMarks_below (fun D hD => by have := (hmk.at_ D hD).1; omega) hm.bel⟩)
      clear hm hds hmk hgk
      go_wp2_with (fail)
      refine leaves_marks HMK.out ?_
      exact ⟨_, by simp [results, Try.results38, go_sem], HP.out⟩
    | cons p Q =>
      obtain ⟨g1, o1, c1', v2, e, h2, h3, h4, h5, h6, h7⟩ := (show QOwn X v ((p : Int) :: nats Q) _ from hm.qo).tail_run (by have := hds.below; rw [nats_len]; simp at this; omega)
      rw [nats_len] at e h2 h6
      subst e
      obtain ⟨g2, o2, cc2, hv2, hK2, -⟩ := id h7
      rw [nats_len] at hv2
      subst hv2
      have HQ2 := Lib.hid h7
      have hrc := hm.rbox
      have x0 : X.cell? ⟨W.heap.size, 0, none⟩ = some (.slice A1 n1 c1) := cell_of hrc rfl
      have x1 : X.cell? ⟨W.heap.size, 1, none⟩ = some (.slice A2 n2 c2) := cell_of hrc rfl
      have x2 : X.cell? ⟨W.heap.size, 2, none⟩ = some (.slice (some ⟨r.bM, r.oM, none⟩) N r.cM) := cell_of hrc rfl
      have hqf := hm.qb.frozen
      have hbx := hm.qb.lt
      have hbl := at_lt hrc
      unfold maxLen at h3
      have hne : bf + 1 + 1 ≠ W.heap.size := by omega
      have HHJ := Lib.hid hJ
      have HHK := Lib.hid hKK
      clear hm hds hmk hgk hrc h7 hJ hKK
      go_wp2_with (fail)
      obtain ⟨X1, hX1⟩ : ∃ Y, Y = X.setCell ⟨bf + 1 + 1, 0, none⟩ (.slice (some ⟨g2, o2, none⟩) Q.length cc2) := ⟨_, rfl⟩
      rw [← hX1]
      have z1 : X1.heap.size = X.heap.size := by subst hX1; simp [World.setCell]
      have HM1 := Lib.hid (show DsM W #[.slice A1 n1 c1, .slice A2 n2 c2, .slice (some ⟨r.bM, r.oM, none⟩) N r.cM] g bf (bf + 1 + 1) N (fun k => W.heap.size < k ∧ k ≠ g ∧ k ≠ bf ∧ k ≠ bf + 1 + 1) Q F (.slice (some ⟨g2, o2, none⟩) Q.length cc2) X1 from by
        subst hX1
        have hm := HM.out
        exact ⟨hm.row.other (by omega) _, hm.qb.set _, HQ2.out.kept (fun k cs t fr hk hc => (Below.heap_setCell X ⟨bf + 1 + 1, 0, none⟩ _ k hk.2.2.2).trans hc) (fun k hk _ => hk), hm.bel.setCell (by show W.heap.size ≤ bf + 1 + 1; omega) _, boxed_far hm.far (by omega) _, (Below.heap_setCell X ⟨bf + 1 + 1, 0, none⟩ _ W.heap.size (show W.heap.size ≠ bf + 1 + 1 by omega)).trans hm.rbox⟩)
      have HMK1 := Lib.hid (show Marks bf Ds X1 from by
        subst hX1
        exact HMK.out.kept fun k o _ ho hk => (kf_store (B := 0) _ HM.out.qb).same k o (Nat.zero_le _) hk ho)
      obtain ⟨bN, hbN⟩ : ∃ b, b = X.heap.size := ⟨_, rfl⟩
      have hg2 : g2 < bN := by rw [hbN, ← z1]; obtain ⟨_, cs, t, fr, hc⟩ := HM1.out.qo.own (k := g2) rfl; exact at_lt hc
      have hbxN : bf + 1 + 1 < bN ∧ g < bN := by rw [hbN]; exact ⟨hbx, by have := HM.out.row.lt (by rw [HDS.out.len]; omega); exact this⟩
      rw [← hbN] at z1 ⊢
      clear hX1 hbN x0 x1 x2 hqf hqc hbx
      go_at_call 45
      refine (c_leaving _ _ _ _ _).mono ?_
      rintro e w2 ⟨rfl, hw2⟩
      simp only [World.size_alloc, z1] at hw2 ⊢
      have hz2 : w2.heap.size = bN + 3 := by subst hw2; simp [z1]
      have hoc : ∀ (k : Nat) (o : Obj), X1.heap[k]? = some o → w2.heap[k]? = some o := fun k o h => by subst hw2; exact old_heap _ (old_heap _ (old_heap _ h))
      have hBX : Below X1.heap.size X1 w2 := by subst hw2; exact ((((Below.refl _ _).alloc (Nat.le_refl _) _).alloc (by simp) _).alloc (by simp; omega) _)
      have HN2 := Lib.hid (show Boxed w2 bN 3 (.int .i64 (p : Int)) by subst hw2; exact old_heap _ (old_heap _ (row_new _ _ _ z1.symm)))
      have HR2 := Lib.hid (show w2.heap[bN + 1]? = some (.cells #[.slice A1 n1 c1, .slice A2 n2 c2, .slice (some ⟨r.bM, r.oM, none⟩) N r.cM] 64 (0, 0)) by subst hw2; exact old_heap _ (row_new _ _ _ (by simp [z1])))
      have HP2 := Lib.hid (show Boxed w2 (bN + 1 + 1) 3 (.int .i64 (p : Int)) by subst hw2; exact row_new _ _ _ (by simp [z1]))
      have HDP := Lib.hid HDS.out.pop
      have hpN := HDP.out.at_
      obtain ⟨K', hKd⟩ : ∃ K' : Nat → Prop, K' = fun k => (W.heap.size < k ∧ k ≠ g ∧ k ≠ bf ∧ k ≠ bf + 1 + 1) ∧ (k = g2 ∨ bN + 5 ≤ k) := ⟨_, rfl⟩
      obtain ⟨Gd, hGd⟩ : ∃ G : Nat → Prop, G = fun k => k < bN + 3 ∧ k ≠ g ∧ k ≠ bf + 1 + 1 ∧ k ≠ g2 := ⟨_, rfl⟩
      have HI0 := Lib.hid (show DiI W #[.slice A1 n1 c1, .slice A2 n2 c2, .slice (some ⟨r.bM, r.oM, none⟩) N r.cM] g bf (bf + 1 + 1) N K' l s p bN bf D Ds Gd w2 [] Q F (.slice (some ⟨g2, o2, none⟩) Q.length cc2) w2 from
        ⟨HDP.out, by have := HDS.out.lev p; simpa using this, (fun m hm => by cases hm), (HM1.out.toK (K' := K') (fun k hk => by
          have h1 := (HM1.out.qo.own hk).1
          obtain rfl : g2 = k := by simpa [Value.ownBlock] using hk
          rw [hKd]; exact ⟨h1, .inl rfl⟩)).moved (fun k cs t fr h => hoc k _ h) (below_join HM1.out.bel hBX HM1.out.bel.size), HN2.out, KpG.refl _, HMK1.out.kept fun k o _ _ h => hoc k o h⟩)
      have hDs : ∀ d ∈ Ds, d < bN := fun d hd => by have := at_lt (HMK1.out.at_ d hd).2; omega
      have HDSL := Lib.hid hDs
      obtain ⟨Am, cm, hhd, -, -⟩ := (HFX.out W (KpG.refl W)).moves p hpN.2
      have hWG : ∀ Y, KpG Gd w2 Y → KpG (fun k => k < W.heap.size) W Y := fun Y hY => ⟨Nat.le_trans HI0.out.mem.bel.size hY.size, fun k cs t fr hk hc => hY.same k cs t fr (by rw [hGd]; exact ⟨by omega, by omega, by omega, by have := (HM1.out.qo.own (k := g2) rfl).1; omega⟩) ((HI0.out.mem.bel.block k hk).trans hc)⟩
      have HMV := Lib.hid (fun (Y : World) (hY : KpG Gd w2 Y) => show Y.cell? ⟨r.bM, r.oM + p, none⟩ = some (.slice Am (mvs l p).length cm) ∧ IntSl Y (.slice Am (mvs l p).length cm) (nats (mvs l p)) from by
        obtain ⟨A, c, e, q1, q2⟩ := (HFX.out Y (hWG Y hY)).moves p hpN.2
        rw [hhd] at e
        injection e with e1 e2 e3
        subst e1 e3
        rw [hhd] at q1 q2
        exact ⟨q1, q2⟩)
      have HWG := Lib.hid hWG
      have HSM' := HSH.out.sm
      have hg2b := (HM1.out.qo.own (k := g2) rfl).1
      have HSQ := Lib.hid (c_leaving1 7 (by omega) Gd (bN + 1) (bN + 1 + 1) r.bR r.oR (2 * l.length) r.cR r.bM r.oM N r.cM (.slice A1 n1 c1) p Am cm (mvs l p) (.slice A2 n2 c2)
        (by have : (mvs l p).length ≤ (List.range (2 * l.length)).length := List.length_filter_le _ _; rw [List.length_range] at this; omega) ⟨hpN.2, HSM'.1, HSM'.2⟩ (fun t ht => mvFrom_lt (mem_mvs.1 ht)) (fun h0 => by
          obtain ⟨m, hm⟩ := List.exists_mem_of_length_pos h0
          have := mvFrom_lt (mem_mvs.1 hm)
          obtain ⟨g1, g2, g3⟩ := HSH.out.sr (by omega)
          exact ⟨HR.out.symm.trans g1, g2, g3⟩) w2 (by rw [hGd]; exact ⟨by omega, by omega, by omega, by omega⟩) (by rw [hGd]; exact ⟨by omega, by omega, by omega, by omega⟩) HR2.out HP2.out HMV.out)
      have HKD := Lib.hid hKd
      have HGD := Lib.hid hGd
      clear HMV HSM' hhd hw2 hoc hBX hWG hDs hKd hGd
      go_wp2_with (fail)
      refine (wpIn_wide (n := 8)).1 ?_
      refine wpIn_it (n := 8) (by omega) (gf := 49) (lb := #[.pointer (some ⟨bN + 1, 0, none⟩), .pointer (some ⟨bN + 1 + 1, 0, none⟩)]) rfl (enters_of Try.func49 (by kernel_rfl) rfl) (m := 0) (Gd := Gd) (ok := okN) (op := opR r.bR r.oR) (cl := clR r.bR r.oR) (ts := mvs l p) (w0 := w2) HSQ.out (KpG.refl _) (fun v t h => by rw [h]; rfl)
        (fun pre Y => ∃ Q F v, DiI W #[.slice A1 n1 c1, .slice A2 n2 c2, .slice (some ⟨r.bM, r.oM, none⟩) N r.cM] g bf (bf + 1 + 1) N K' l s p bN bf D Ds Gd w2 pre Q F v Y) (fun _ _ _ => False)
        (fun pre X Y h hE => by obtain ⟨Q, F, v, h⟩ := h; exact ⟨Q, F, v, h.own hE (by omega) (fun d hd => by have := HDSL.out d hd; omega)⟩) (fun _ _ _ _ h _ => h.elim)
        (fun pre X b o o' h hl hb hc => by obtain ⟨Q, F, v, h⟩ := h; exact ⟨Q, F, v, h.put (by omega) hb hc (fun d hd => by have := HDSL.out d hd; omega)⟩) (fun _ _ _ _ _ _ h _ _ _ => h.elim)
        (fun t X Y h hb => h.below hb) (fun t X b o o' h hb hc => h.put hb hc)
        (fun pre m X h hp => by
          obtain ⟨Q, F, v, h⟩ := h
          exact op_room HRR.out h.mem.bel (mvFrom_lt (mem_mvs.1 (hp.subset (by simp)))))
        (fun pre m X h hp hc => by
          obtain ⟨Q, F, v, h⟩ := h
          exact ⟨Q, F, v, h.skip HRR.out (mvFrom_lt (mem_mvs.1 (hp.subset (by simp)))) hc⟩)
        ⟨Q, F, _, HI0.out⟩ ?iround ?done (fun _ _ _ _ _ _ h _ => h.elim)
      case iround =>
        intro lp pre v0 m X0 K0 hpre hok hK0
        obtain rfl : v0 = #[.int .i64 (m : Int)] := hok
        gi_wp2_with (fail)
        refine hK0 _ _ (Below.refl _ _) ?_
        rintro Y ⟨o, o', ho, hoc, hYe⟩ hsz ⟨Q, F, v, hI⟩ hop
        clear hYe ho hoc o o' hK0
        have hmf := mem_mvs.1 (hpre.subset (show m ∈ pre ++ [m] by simp))
        have hml := mvFrom_lt hmf
        obtain ⟨q, hq⟩ := mvTo_some hml
        have hqN : q < N := by
          obtain ⟨a, ha, e⟩ := mvTo_mem hq
          have := HND.out a ha
          rcases e with e | e <;> omega
        have hFX := HFX.out Y (HWG.out Y hI.kp)
        obtain ⟨hE1, hE2, hE3⟩ := HSH.out.se (by omega)
        rw [HE.out] at hE1
        injection hE1 with hA1 hn1 hc1
        have hmn1 : (m : Int) < (n1 : Int) := by omega
        have HN1 := Lib.hid (And.intro hn1 hc1)
        subst hA1
        have y0 : Y.cell? ⟨W.heap.size, 0, none⟩ = some (.slice (some ⟨r.bE, r.oE, none⟩) n1 c1) := cell_of hI.mem.rbox rfl
        have yE := hFX.ends m q hq
        have yf := hI.mem.far.cell
        have yn := hI.node.cell
        have hFl := hI.ds.len
        obtain ⟨yq, fq⟩ := hI.mem.row q _ (ff_at (by omega))
        have yp := (hI.mem.row p _ (ff_at (by omega))).1
        rw [Nat.zero_add] at yq fq yp
        have hqN' : (q : Int) < (N : Int) := by omega
        have hpN' : (p : Int) < (N : Int) := by omega
        have hlp := hI.lp
        have hlp0 := hI.ds.at_.1
        have hDb := hI.ds.below
        have hDb' : D.length ≤ 64 := by simp at hDb; omega
        obtain ⟨x, hx0, hxc⟩ := hop
        have hx1 := room_at HRR.out hI.mem.bel hml
        rw [hx1] at hxc
        have hroom : 0 < mvRoom l m := by injection hxc with h; injection h with _ h; omega
        have HRM := Lib.hid hroom
        have HI := Lib.hid hI
        have HMF := Lib.hid hmf
        have HQ := Lib.hid hq
        clear hE2 hE3 hn1 hc1 hFX hI hmf hq hDb hxc hx1 hroom hpre hx0 x
        have hfm : Try.prog.follows Departure.mixedOrders = true := by kernel_rfl
        by_cases hf : ff F q = -1
        · have hf' : (ff F q == -1) = true := by rw [beq_iff_eq]; exact hf
          have hpq : p ≠ q := fun e => by subst e; omega
          have hw1 : IntKind.i64.wrap (ff F p + 1) = ff F p + 1 := IntWalk.i64_in _ (by omega)
          have HFQ := Lib.hid hf
          have HW1 := Lib.hid hw1
          clear hf hw1
          gi_wp2_with (fail)
          refine region_round (S := fun X => X.cell? ⟨bf, 0, none⟩ = some (.slice (some ⟨g, 0, none⟩) N N) ∧ X.cell? ⟨bN, 0, none⟩ = some (.int .i64 (p : Int)) ∧ X.cell? ⟨g, p, none⟩ = some (.int .i64 (ff F p))) hfm (by kernel_rfl) ⟨yf, yn, yp⟩ (fun hHeld => ?_)
          refine takeH 0 (some 42) rfl rfl (by kernel_rfl) (by kernel_rfl) (by kernel_rfl) (fun _ _ _ h => h) (by rfl) (by intro w ⟨g1, g2, g3⟩; go_simp; try with_reducible rfl) hHeld ?_
          simp only [Act.put, List.setIfInBounds_toArray, List.set_cons_zero, List.set_cons_succ]
          refine takeH 1 (some 43) rfl rfl (by kernel_rfl) (by kernel_rfl) (by kernel_rfl) (fun _ _ _ h => h) (by rfl) (by intro w ⟨g1, g2, g3⟩; go_simp; try with_reducible rfl) hHeld ?_
          simp only [Act.put, List.setIfInBounds_toArray, List.set_cons_zero, List.set_cons_succ]
          refine takeH 2 (some 44) rfl rfl (by kernel_rfl) (by kernel_rfl) (by kernel_rfl) (fun _ _ _ h => h) (by rfl) (by intro w ⟨g1, g2, g3⟩; go_simp; try with_reducible rfl) hHeld ?_
          simp only [Act.put, List.setIfInBounds_toArray, List.set_cons_zero, List.set_cons_succ]
          refine takeH 3 (some 45) rfl rfl (by kernel_rfl) (by kernel_rfl) (by kernel_rfl) (fun _ _ _ h => h) (by rfl) (by intro w ⟨g1, g2, g3⟩; go_simp; try with_reducible rfl) hHeld ?_
          simp only [Act.put, List.setIfInBounds_toArray, List.set_cons_zero, List.set_cons_succ]
          refine takeH 4 (some 46) rfl rfl (by kernel_rfl) (by kernel_rfl) (by kernel_rfl) (fun _ _ _ h => h) (by rfl) (by intro w ⟨g1, g2, g3⟩; go_simp; try with_reducible rfl) hHeld ?_
          simp only [Act.put, List.setIfInBounds_toArray, List.set_cons_zero, List.set_cons_succ]
          refine takeH 5 (some 47) rfl rfl (by kernel_rfl) (by kernel_rfl) (by kernel_rfl) (fun _ _ _ h => h) (by rfl) (by intro w ⟨g1, g2, g3⟩; go_simp; try with_reducible rfl) hHeld ?_
          simp only [Act.put, List.setIfInBounds_toArray, List.set_cons_zero, List.set_cons_succ]
          refine takeH 6 (some 48) rfl rfl (by kernel_rfl) (by kernel_rfl) (by kernel_rfl) (fun _ _ _ h => h) (by rfl) (by intro w ⟨g1, g2, g3⟩; go_simp; try with_reducible rfl) hHeld ?_
          simp only [Act.put, List.setIfInBounds_toArray, List.set_cons_zero, List.set_cons_succ]
          refine takeH 7 (some 49) rfl rfl (by kernel_rfl) (by kernel_rfl) (by kernel_rfl) (fun _ _ _ h => h) (by rfl) (by intro w ⟨g1, g2, g3⟩; go_simp; try with_reducible rfl) hHeld ?_
          simp only [Act.put, List.setIfInBounds_toArray, List.set_cons_zero, List.set_cons_succ]
          rw [HW1.out]
          have yq' : Y.drew.cell? ⟨g, q, none⟩ = some (.int .i64 (ff F q)) := yq
          have fq' : Y.drew.frozen? ⟨g, q, none⟩ = false := fq
          refine wpAnyH_ready (rs := [8]) (by kernel_rfl) (by simp) (AllReadyH.cons rfl (fun K hK => ?_) AllReadyH.nil)
          go_simp
          have n1' : ∀ b o, b ≠ g → (Y.setCell ⟨g, q, none⟩ (.int .i64 (ff F p + 1))).drew.cell? ⟨b, o, none⟩ = Y.cell? ⟨b, o, none⟩ := fun b o hb => World.cell?_of_block (w := Y) (a := ⟨b, o, none⟩) (Below.heap_setCell Y ⟨g, q, none⟩ _ b hb)
          have n2' : (Y.setCell ⟨g, q, none⟩ (.int .i64 (ff F p + 1))).drew.cell? ⟨g, p, none⟩ = some (.int .i64 (ff F p)) := (World.cell?_setCell_other _ _ _ _ (fun e => hpq (congrArg (fun a : Addr => a.off) e).symm)).trans yp
          refine hK.out _ _ ⟨(n1' bf 0 (by omega)).trans yf, (n1' bN 0 (by omega)).trans yn, n2'⟩ (fun hHeld => ?_)
          clear hK K n2'
          refine wpAnyH_done (by kernel_rfl) ?_ _
          rw [noOut_normal]
          clear hHeld yq' fq'
          obtain ⟨gq, oq, cq, hv, hKq, hqbl, hcq1, hcq2, -⟩ := id HI.out.mem.qo
          rw [nats_len] at hv hcq1
          subst hv
          have z0 := (n1' (bf + 1 + 1) 0 (by omega)).trans HI.out.mem.qb.cell
          clear n1' y0 yE yf yn yq fq yp
          obtain ⟨Z1, hZ1⟩ : ∃ Z, Z = (Y.setCell ⟨g, q, none⟩ (.int .i64 (ff F p + 1))).drew := ⟨_, rfl⟩
          rw [← hZ1] at z0 ⊢
          rw [HKD.out] at hKq
          have HQZ := Lib.hid (show QOwn (Z1.alloc (.cells #[.int .i64 (q : Int)] 3)) (.slice (some ⟨gq, oq, none⟩) Q.length cq) (nats Q) K' from HI.out.mem.qo.kept (fun k cs t fr hk hc => by
            rw [HKD.out] at hk
            refine old_heap _ ?_
            rw [hZ1]
            exact (Below.heap_setCell Y ⟨g, q, none⟩ _ k hk.1.2.1).trans hc) (fun k hk _ => hk))
          have HZ1 := Lib.hid hZ1
          unfold maxLen at hcq2
          have hQl : Q.length ≤ 64 := by have := HI.out.ds.below; simp at this; omega
          clear hZ1 hqbl
          gi_wp2_with (gi_at_builtin; refine wpListIn_append_q rfl _ _ rfl HQZ.out rfl Z1.heap.size (q : Int) rfl (one_cell (heap_alloc_new _ _)) (by rw [nats_len]; omega) ?_)
          intro v3 Z3 hq3 ho3
          rw [HZ1.out] at hq3 ho3
          obtain ⟨hd1, hd2, hd3, hd4⟩ := di_step HI.out HMF.out HQ.out HRM.out HFQ.out hqN (fun k hk => by rw [HKD.out] at hk; obtain ⟨h1, h2⟩ := hk; exact ⟨h1.2.1, h1.2.2.1, h1.2.2.2, h1.1, by omega⟩)
            (fun k hk => by rw [HGD.out] at hk; exact ⟨hk.2.1, hk.2.2.1, (fun hk' => by rw [HKD.out] at hk'; omega), by omega⟩) (fun k hk => by rw [HKD.out]; exact ⟨⟨by omega, by omega, by omega, by omega⟩, .inr (by omega)⟩) (by omega) (by omega) (hq3.kept (fun k cs t fr _ h => h) (fun k hk _ => by rcases hk with h | h; exact .inl h; exact .inr (by rw [World.size_alloc]; exact h))) ho3
          obtain ⟨g3, o3, c3, hv3, -⟩ := id hq3
          rw [List.length_append, nats_len] at hv3
          subst hv3
          have z3 := hd4.cell
          have f3 := hd4.frozen
          have HD1 := Lib.hid hd1
          have HD2 := Lib.hid hd2
          have HD3 := Lib.hid hd3
          clear hd1 hd2 hd3 hd4 hq3 ho3 z0
          gi_wp2_with (fail)
          exact ⟨HD2.out _, HD3.out, _, _, _, HD1.out⟩
        · have hf' : (ff F q == -1) = false := by rw [beq_eq_false_iff_ne]; exact hf
          have HD := Lib.hid (HI.out.old HQ.out hf)
          clear yp fq
          gi_wp2_with (fail)
          exact ⟨⟨Nat.le_refl _, fun _ _ _ h _ => h⟩, ⟨Nat.le_refl _, fun _ _ _ _ _ h => h, fun _ _ _ h _ => h⟩, _, _, _, HD.out⟩
      case done =>
        rintro D0 Y rfl ⟨Q', F', v', hI⟩ hdef
        have hfin := hI.ds.finish (fun m q h1 h2 h3 => hI.seen m (mem_mvs.2 h1) q h2 h3)
        have hmk' : Marks bf (w2.heap.size :: Ds) Y := hI.mks.cons (by omega) hdef (fun hd => by have := HDSL.out _ hd; omega)
        have hbel := HDP.out.below
        have hgk := HGK.out
        refine HHK.out _ _ (Handed.intro (N - (D.length + 1)) (by simp at hbel; omega) (HHJ.out _ _ _ ?_))
        refine ⟨w2.heap.size :: Ds, D ++ [p], Q', F', v', _, _, _, _, _, _, _, _, _, _, _, _, _, _, _, _, _, _, _, _, _, _, _, _, _, _, _, _, _, _, _, _, _, _, _, _, _, _, rfl, hmk', by simp, hfin, ?_⟩
        exact hI.mem.toK (fun k hk => by have := (hI.mem.qo.own hk).1; rw [HKD.out] at this; exact this.1)
end Go.Proofs.Ytglpaihadongkaa
