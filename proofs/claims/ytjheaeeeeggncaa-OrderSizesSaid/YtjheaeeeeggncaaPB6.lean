/-
  DERIVED. Several texts in one.
-/
import Derived.Test.YtjheaeeeeggncaaPB5
import Derived.OwnWalk
import Derived.Laws.CopyOwn
import Derived.Deep.RegionLaw
import Derived.Test.YtjheaeeeeggncaaPB1
import Derived.Test.YtjheaeeeeggncaaPB4
import Derived.Test.YtjheaeeeeggncaaPB3
import Derived.Lib.SliceRun
import Derived.Test.YtjheaeeeeggncaaPB2
set_option linter.unusedVariables false
set_option linter.unusedSimpArgs false

namespace Go.Proofs.Ytjheaeeeeggncaa
open Go.RowKit Go.Shelf
attribute [local go_sem] Oper.semAt_some
set_option maxRecDepth 100000
set_option linter.unusedVariables false
set_option linter.unusedSimpArgs false

theorem jn_fin {n fuel i tr t ff B : Nat} {f : Nat → Nat} {a : JnA} {nx x : Nat → Int} {Ls : List Nat} {W Z V : World} (L : JnL a) (hW : a.jb < W.heap.size) (hff : ff < n) (hat : JnAt n f a t x V)
    (hrb : V.heap[W.heap.size + 1]? = some (.cells #[.bool false] 4 (0, 0))) (hB : ButS (JS a) W V) (hZ : ∀ (k : Nat) (o : Obj), Z.heap[k]? = some o → o.isCells = false → V.heap[k]? = some o) (hs : Z.heap.size ≤ V.heap.size)
    (hq : jLoop (jn n f fuel) i Ls tr nx = (true, t, putN x ff i)) :
    KeepsFrom B Z ((V.setCell ⟨a.r, ff, none⟩ (.int .i64 (i : Int))).setCell ⟨W.heap.size + 1, 0, none⟩ (.bool true)) ∧ JnX n f a fuel i tr nx Ls W .ret ((V.setCell ⟨a.r, ff, none⟩ (.int .i64 (i : Int))).setCell ⟨W.heap.size + 1, 0, none⟩ (.bool true)) := by
  have l1 := L.l1; have l2 := L.l2; have l3 := L.l3; have l4 := L.l4; have l5 := L.l5
  have hrb2 : (V.setCell ⟨a.r, ff, none⟩ (.int .i64 (i : Int))).heap[W.heap.size + 1]? = some (.cells #[.bool false] 4 (0, 0)) := set_else hrb (by omega)
  have k1 := kf_store (B := 0) (o := ff) (.int .i64 (i : Int)) hat.row
  have k2 := kf_store (B := 0) (o := 0) (.bool true) hrb2
  exact ⟨⟨by have h1 := k1.size; have h2 := k2.size; omega, fun k o _ h1 h2 => k2.same k o (Nat.zero_le _) (k1.same k o (Nat.zero_le _) (hZ k o h1 h2) h2) h2⟩,
    ⟨rfl, set_field hrb2 _, ⟨t, putN x ff i, (hat.setN L hff).setO ⟨by omega, by omega, by omega, by omega, by omega, by omega⟩, hq⟩, (hB.set (.inl (.inr rfl))).set (.inr (Nat.le_succ _))⟩⟩
set_option maxHeartbeats 32000000 in
theorem c_joined1 (a : JnA) (LL : JnL a) (n : Nat) (f : Nat → Nat) (hn : n ≤ 12) (hf : ∀ j, j < n → f j < 2 ^ n) : ∀ (fuel i tr : Nat) (nx : Nat → Int) (W : World), i < n → tr < 2 ^ n → okN n nx → free n tr < fuel → JnAt n f a tr nx W →
    Calls Try.prog 90 #[.int .i64 (i : Int), .pointer (some ⟨a.bb, 0, none⟩), .pointer (some ⟨a.tb, 0, none⟩), .pointer (some ⟨a.nb, 0, none⟩), .pointer (some ⟨a.jb, 0, none⟩)] W (JnPost n f a W (jn n f fuel i tr nx)) := by
  intro fuel
  induction fuel with
  | zero => intro i tr nx W _ _ _ h _; exact absurd h (Nat.not_lt_zero _)
  | succ fuel ih =>
    intro i tr nx W hi htr hnx hfr h
    have hp12 := pow12 hn
    obtain ⟨V1, h1⟩ : ∃ V, V = W.alloc (.cells #[.int .i64 (i : Int)] 3) := ⟨_, rfl⟩
    obtain ⟨V, h2⟩ : ∃ V, V = V1.alloc (.cells #[.bool false] 4) := ⟨_, rfl⟩
    obtain ⟨hbV, hb1, hb2, hzV⟩ := two_boxes h1 h2
    have HBV := Lib.hid hbV
    have HIB := Lib.hid hb1
    have HRB := Lib.hid hb2
    have HAV := Lib.hid (h.on hbV (Nat.le_refl _))
    have HLL := Lib.hid LL
    have l1 := LL.l1; have l2 := LL.l2; have l3 := LL.l3; have l4 := LL.l4; have l5 := LL.l5
    have hjb := at_lt h.join
    have y0 := cell_of HAV.out.ord (o := 0) rfl
    have y1 := cell_of HIB.out (o := 0) rfl
    have y2 := HAV.out.blk.at_ hi
    have hil : (i : Int) < (n : Int) := by omega
    have hsb := hf i hi
    obtain ⟨s, hs⟩ : ∃ s, f i = s := ⟨_, rfl⟩
    rw [hs] at y2 hsb
    have hs12 : s < 2 ^ 12 := by omega
    have HSQ := Lib.hid (c_each 7 (by omega) (fun _ => False) s hs12 V)
    rw [show lst 12 s = lst n s by have h0 := lst_cut hsb (12 - n); rwa [show n + (12 - n) = 12 by omega] at h0] at HSQ
    have HJ := Lib.hid (show jn n f (fuel + 1) i tr nx = jLoop (jn n f fuel) i (lst n s) tr nx by rw [← hs]; rfl)
    have HLM := Lib.hid (fun (g : Nat) (hg : g ∈ lst n s) => (lst_mem.1 hg).1)
    obtain ⟨Ls, hLs⟩ : ∃ L, lst n s = L := ⟨_, rfl⟩
    rw [hLs] at HSQ HJ HLM
    have HIH := Lib.hid ih
    have HOK := Lib.hid hnx
    rw [h2, h1] at y0 y1 y2
    clear h ih hbV hb1 hb2 hs hnx hLs
    refine (callsIn_wide (n := 8)).1 ?_
    refine callsIn_of_wp_marks Try.func90 rfl trivial ?_ rfl
    simp only [Try.ntmps90, List.size_toArray, List.length_cons, List.length_nil, Nat.reduceAdd, Nat.reduceSub, Array.replicate_succ, Array.replicate_zero, List.push_toArray, List.append_toArray, List.nil_append, List.cons_append]
    rw [wpIn_wide]
    go_wp2_with (fail)
    rw [← h1, ← h2]
    clear h1 h2 y0 y1 y2
    refine (wpIn_wide (n := 8)).1 ?_
    refine wpIn_it (n := 8) (by omega) (gf := 77) (fb := #[.int .u16 (s : Int)]) (lb := #[]) rfl eg_each (m := 0) (Gd := fun _ => False) (ok := okE) (ts := Ls) (w0 := V) HSQ.out (KpG.refl _) (fun v t h => by rw [h]; rfl)
      (fun pre X => JnI n f a fuel i tr nx Ls W pre X) (fun c _ X => JnX n f a fuel i tr nx Ls W c X)
      (fun pre X Y h hE => h.own hE (by omega)) (fun c pre X Y h hE => h.own hE (by omega))
      (fun pre X l o o' h hl ho hc => h.put (by omega) ho hc) (fun c pre X l o o' h hl ho hc => h.put (by omega) ho hc)
      ⟨HIB.out, HRB.out, ⟨tr, nx, HAV.out, htr, HOK.out, Nat.le_refl _, by rw [List.length_nil, List.drop_zero]⟩, ButS.of_below HBV.out (Nat.le_refl _)⟩ ?iround ?idone ?istop
    case iround =>
      intro l pre v5 ff X K hpre hok hKK
      obtain rfl : v5 = #[.int .i64 (ff : Int)] := hok
      gi_wp2_with (fail)
      refine hKK _ _ (Below.refl _ _) ?_
      rintro Z ⟨o, o', ho', hoc, hYe⟩ hsz hI
      have hff := HLM.out ff (hpre.subset (show ff ∈ pre ++ [ff] by simp))
      obtain ⟨t, x, hat, ht, hx, hfr2, hQ⟩ := hI.st
      obtain ⟨tl, htl⟩ := hpre
      have hd : Ls.drop pre.length = ff :: Ls.drop (pre ++ [ff]).length := by rw [← htl]; simp
      rw [hd, jLoop] at hQ
      have HI := Lib.hid hI
      have HAT := Lib.hid hat
      have HOX := Lib.hid hx
      have hfl : (ff : Int) < (n : Int) := by omega
      have hzZ := hI.bt.size
      have z0 := cell_of hat.tried (o := 0) rfl
      have z1 := frz hat.tried 0
      clear hYe ho' hoc o o' hKK hI hd htl tl hat hx
      rcases hbt : t.testBit ff with _ | _
      rotate_left
      · have HQ := Lib.hid (show jLoop (jn n f fuel) i Ls tr nx = jLoop (jn n f fuel) i (Ls.drop (pre ++ [ff]).length) t x by rw [hQ, if_pos hbt])
        have HHA := Lib.hid (c_has t (by omega) (ff : Int) true (by simp [hbt]) Z)
        clear hQ hbt
        gi_wp2_with (fail)
        refine ⟨trivial, ?_⟩
        gi_at_call 76
        refine (CallsIn.inRound l (calls_wide HHA.out)).mono ?_
        rintro e wa ⟨rfl, hwa⟩
        rw [hwa]
        clear hwa wa
        gi_wp2_with (fail)
        exact ⟨⟨Nat.le_refl _, fun _ _ _ h _ => h⟩, KpIt.refl _, ⟨HI.out.ib, HI.out.rb, ⟨t, x, HAT.out, ht, HOX.out, hfr2, HQ.out⟩, HI.out.bt⟩⟩
      · rw [if_neg (by rw [hbt]; decide)] at hQ
        have HHA := Lib.hid (c_has t (by omega) (ff : Int) false (by simp [hbt]) Z)
        have HCO := Lib.hid (c_with t ff (by omega) (by omega) Z)
        have ht2 := put_lt ht hff
        have hfl2 := free_less hff hbt
        have hbit : (t ||| 1 <<< ff).testBit ff = true := by rw [or_bit]; simp
        obtain ⟨t2, ht2e⟩ : ∃ y, t ||| 1 <<< ff = y := ⟨_, rfl⟩
        rw [ht2e] at hQ HCO ht2 hfl2 hbit
        have HBIT := Lib.hid hbit
        have HQ := Lib.hid hQ
        have HA1 := Lib.hid (HAT.out.setT HLL.out t2)
        clear hQ hbt ht2e hbit
        gi_wp2_with (fail)
        refine ⟨trivial, ?_⟩
        gi_at_call 76
        refine (CallsIn.inRound l (calls_wide HHA.out)).mono ?_
        rintro e wa ⟨rfl, hwa⟩
        rw [hwa]
        clear hwa wa
        gi_wp2_with (fail)
        refine ⟨trivial, ?_⟩
        gi_at_call 80
        refine (CallsIn.inRound l (calls_wide HCO.out)).mono ?_
        rintro e wa ⟨rfl, hwa⟩
        rw [hwa]
        clear hwa wa
        gi_wp2_with (fail)
        obtain ⟨Z1, hZ1⟩ : ∃ Y, Y = Z.setCell ⟨a.tb, 0, none⟩ (.int .u16 (t2 : Int)) := ⟨_, rfl⟩
        rw [← hZ1] at HA1 ⊢
        have HB1 := Lib.hid (show ButS (JS a) Z Z1 by rw [hZ1]; exact (ButS.refl Z).set (.inl (.inl rfl)))
        have HI1 := Lib.hid (show Z1.heap[W.heap.size]? = some (.cells #[.int .i64 (i : Int)] 3 (0, 0)) by rw [hZ1]; exact set_else HI.out.ib (by omega))
        have HR1 := Lib.hid (show Z1.heap[W.heap.size + 1]? = some (.cells #[.bool false] 4 (0, 0)) by rw [hZ1]; exact set_else HI.out.rb (by omega))
        have hz1 := HB1.out.size
        have n0 := cell_of HA1.out.next (o := 0) rfl
        have n1 := cell_of HA1.out.join (o := 0) rfl
        have n2 := HA1.out.at_ hff
        have hfm : Try.prog.follows Departure.mixedOrders = true := by kernel_rfl
        unfold JnA.fn at n1
        clear hZ1 z0 z1 HHA HCO
        rcases HOX.out ff hff with hxe | ⟨j, hj, hxe⟩
        · rw [hxe] at n2
          have HF := Lib.hid (show jLoop (jn n f fuel) i Ls tr nx = (true, t2, putN x ff i) by rw [HQ.out, if_pos hxe])
          have HFIN := Lib.hid (jn_fin (B := V.heap.size) (Z := Z) HLL.out hjb hff (show JnAt n f a t2 x Z1.drew from HA1.out.on (Below.refl _ _).drew (Nat.le_refl _)) HR1.out ((HI.out.bt.trans HB1.out).trans ButS.drew) (HAT.out.rest (HB1.out.trans ButS.drew)) hz1 HF.out)
          refine region_round_zs (fun _ => false) (S := fun X => X.cell? ⟨a.nb, 0, none⟩ = some (.slice (some ⟨a.r, 0, none⟩) n n) ∧ X.cell? ⟨a.jb, 0, none⟩ = some (.func (.func 90) #[] #[.pointer (some ⟨a.bb, 0, none⟩), .pointer (some ⟨a.tb, 0, none⟩), .pointer (some ⟨a.nb, 0, none⟩), .pointer (some ⟨a.jb, 0, none⟩)]) ∧ X.cell? ⟨a.r, ff, none⟩ = some (.int .i64 (-1))) hfm (by kernel_rfl) ⟨n0, n1, n2⟩ (fun hHeld => ?_)
          refine takeZs 0 (some 20) (by kernel_rfl) rfl rfl rfl (by kernel_rfl) (by kernel_rfl) (by kernel_rfl) (by kernel_rfl) (fun _ _ _ h => h) (by rfl) (by intro w ⟨g1, g2, g3⟩; go_simp; try with_reducible rfl) hHeld ?_
          simp only [Act.put, List.setIfInBounds_toArray, List.set_cons_zero, List.set_cons_succ]
          refine takeZs 1 (some 21) (by kernel_rfl) rfl rfl rfl (by kernel_rfl) (by kernel_rfl) (by kernel_rfl) (by kernel_rfl) (fun _ _ _ h => h) (by rfl) (by intro w ⟨g1, g2, g3⟩; go_simp; try with_reducible rfl) hHeld ?_
          simp only [Act.put, List.setIfInBounds_toArray, List.set_cons_zero, List.set_cons_succ]
          refine takeZs 2 (some 22) (by kernel_rfl) rfl rfl rfl (by kernel_rfl) (by kernel_rfl) (by kernel_rfl) (by kernel_rfl) (fun _ _ _ h => h) (by rfl) (by intro w ⟨g1, g2, g3⟩; go_simp; try with_reducible rfl) hHeld ?_
          simp only [Act.put, List.setIfInBounds_toArray, List.set_cons_zero, List.set_cons_succ]
          refine takeZs 3 (some 23) (by kernel_rfl) rfl rfl rfl (by kernel_rfl) (by kernel_rfl) (by kernel_rfl) (by kernel_rfl) (fun _ _ _ h => h) (by rfl) (by intro w ⟨g1, g2, g3⟩; go_simp; try with_reducible rfl) hHeld ?_
          simp only [Act.put, List.setIfInBounds_toArray, List.set_cons_zero, List.set_cons_succ]
          refine takeZs 4 (some 24) (by kernel_rfl) rfl rfl rfl (by kernel_rfl) (by kernel_rfl) (by kernel_rfl) (by kernel_rfl) (fun _ _ _ h => h) (by rfl) (by intro w ⟨g1, g2, g3⟩; go_simp; try with_reducible rfl) hHeld ?_
          simp only [Act.put, List.setIfInBounds_toArray, List.set_cons_zero, List.set_cons_succ]
          refine takeZs 5 (some 25) (by kernel_rfl) rfl rfl rfl (by kernel_rfl) (by kernel_rfl) (by kernel_rfl) (by kernel_rfl) (fun _ _ _ h => h) (by rfl) (by intro w ⟨g1, g2, g3⟩; go_simp; try with_reducible rfl) hHeld ?_
          simp only [Act.put, List.setIfInBounds_toArray, List.set_cons_zero, List.set_cons_succ]
          refine skipZs 6 (some 26) (by kernel_rfl) rfl rfl rfl (by kernel_rfl) (by kernel_rfl) (by kernel_rfl) (by kernel_rfl) (fun _ _ _ h => h) (by rfl) hHeld ?_
          simp only [Act.put, List.setIfInBounds_toArray, List.set_cons_zero, List.set_cons_succ]
          refine skipZs 7 (some 27) (by kernel_rfl) rfl rfl rfl (by kernel_rfl) (by kernel_rfl) (by kernel_rfl) (by kernel_rfl) (fun _ _ _ h => h) (by rfl) hHeld ?_
          simp only [Act.put, List.setIfInBounds_toArray, List.set_cons_zero, List.set_cons_succ]
          refine skipZs 8 (some 28) (by kernel_rfl) rfl rfl rfl (by kernel_rfl) (by kernel_rfl) (by kernel_rfl) (by kernel_rfl) (fun _ _ _ h => h) (by rfl) hHeld ?_
          simp only [Act.put, List.setIfInBounds_toArray, List.set_cons_zero, List.set_cons_succ]
          refine skipZs 9 (some 29) (by kernel_rfl) rfl rfl rfl (by kernel_rfl) (by kernel_rfl) (by kernel_rfl) (by kernel_rfl) (fun _ _ _ h => h) (by rfl) hHeld ?_
          simp only [Act.put, List.setIfInBounds_toArray, List.set_cons_zero, List.set_cons_succ]
          refine skipZs 10 (some 30) (by kernel_rfl) rfl rfl rfl (by kernel_rfl) (by kernel_rfl) (by kernel_rfl) (by kernel_rfl) (fun _ _ _ h => h) (by rfl) hHeld ?_
          simp only [Act.put, List.setIfInBounds_toArray, List.set_cons_zero, List.set_cons_succ]
          refine skipZs 11 (some 31) (by kernel_rfl) rfl rfl rfl (by kernel_rfl) (by kernel_rfl) (by kernel_rfl) (by kernel_rfl) (fun _ _ _ h => h) (by rfl) hHeld ?_
          simp only [Act.put, List.setIfInBounds_toArray, List.set_cons_zero, List.set_cons_succ]
          refine takeZs 12 (some 32) (by kernel_rfl) rfl rfl rfl (by kernel_rfl) (by kernel_rfl) (by kernel_rfl) (by kernel_rfl) (fun _ _ _ h => h) (by rfl) (by intro w ⟨g1, g2, g3⟩; go_simp; try with_reducible rfl) hHeld ?_
          simp only [Act.put, List.setIfInBounds_toArray, List.set_cons_zero, List.set_cons_succ]
          refine doneZs (by kernel_rfl) ?_ _
          rw [noOut_normal]
          clear hHeld n1
          have n3 := cell_of HI1.out (o := 0) rfl
          have n4 := frz HA1.out.row ff
          have n5 : (Z1.setCell ⟨a.r, ff, none⟩ (.int .i64 (i : Int))).cell? ⟨W.heap.size + 1, 0, none⟩ = some (.bool false) := cell_of (set_else HR1.out (by omega)) rfl
          have n6 : (Z1.setCell ⟨a.r, ff, none⟩ (.int .i64 (i : Int))).frozen? ⟨W.heap.size + 1, 0, none⟩ = false := frz (set_else HR1.out (by omega)) 0
          gi_wp2_with (fail)
          exact HFIN.out
        · rw [hxe] at n2
          have hd0 : ((j : Int) == -1) = false := by rw [beq_eq_false_iff_ne]; omega
          have hjt : (x ff).toNat = j := by rw [hxe]; rfl
          have hQ := HQ.out
          rw [if_neg (by rw [hxe]; omega), hjt] at hQ
          have hk := jn_keeps (n := n) (b := f) fuel j t2 x hj ht2 HOX.out
          have HC := Lib.hid (fun (Y : World) (hY : JnAt n f a t2 x Y) => HIH.out j t2 x Y hj ht2 HOX.out (by omega) hY)
          obtain ⟨r, hr⟩ : ∃ r, jn n f fuel j t2 x = r := ⟨_, rfl⟩
          rw [hr] at hQ hk HC
          try simp only at hQ
          have HK := Lib.hid hk
          have HQ2 := Lib.hid hQ
          clear hQ hk hr HQ hjt
          refine region_round_zs (fun _ => false) (S := fun X => X.cell? ⟨a.nb, 0, none⟩ = some (.slice (some ⟨a.r, 0, none⟩) n n) ∧ X.cell? ⟨a.jb, 0, none⟩ = some (.func (.func 90) #[] #[.pointer (some ⟨a.bb, 0, none⟩), .pointer (some ⟨a.tb, 0, none⟩), .pointer (some ⟨a.nb, 0, none⟩), .pointer (some ⟨a.jb, 0, none⟩)]) ∧ X.cell? ⟨a.r, ff, none⟩ = some (.int .i64 (j : Int))) hfm (by kernel_rfl) ⟨n0, n1, n2⟩ (fun hHeld => ?_)
          refine takeZs 0 (some 20) (by kernel_rfl) rfl rfl rfl (by kernel_rfl) (by kernel_rfl) (by kernel_rfl) (by kernel_rfl) (fun _ _ _ h => h) (by rfl) (by intro w ⟨g1, g2, g3⟩; go_simp; try with_reducible rfl) hHeld ?_
          simp only [Act.put, List.setIfInBounds_toArray, List.set_cons_zero, List.set_cons_succ]
          refine takeZs 1 (some 21) (by kernel_rfl) rfl rfl rfl (by kernel_rfl) (by kernel_rfl) (by kernel_rfl) (by kernel_rfl) (fun _ _ _ h => h) (by rfl) (by intro w ⟨g1, g2, g3⟩; go_simp; try with_reducible rfl) hHeld ?_
          simp only [Act.put, List.setIfInBounds_toArray, List.set_cons_zero, List.set_cons_succ]
          refine takeZs 2 (some 22) (by kernel_rfl) rfl rfl rfl (by kernel_rfl) (by kernel_rfl) (by kernel_rfl) (by kernel_rfl) (fun _ _ _ h => h) (by rfl) (by intro w ⟨g1, g2, g3⟩; go_simp; try with_reducible rfl) hHeld ?_
          simp only [Act.put, List.setIfInBounds_toArray, List.set_cons_zero, List.set_cons_succ]
          refine takeZs 3 (some 23) (by kernel_rfl) rfl rfl rfl (by kernel_rfl) (by kernel_rfl) (by kernel_rfl) (by kernel_rfl) (fun _ _ _ h => h) (by rfl) (by intro w ⟨g1, g2, g3⟩; go_simp; try with_reducible rfl) hHeld ?_
          simp only [Act.put, List.setIfInBounds_toArray, List.set_cons_zero, List.set_cons_succ]
          refine takeZs 4 (some 24) (by kernel_rfl) rfl rfl rfl (by kernel_rfl) (by kernel_rfl) (by kernel_rfl) (by kernel_rfl) (fun _ _ _ h => h) (by rfl) (by intro w ⟨g1, g2, g3⟩; go_simp; try with_reducible rfl) hHeld ?_
          simp only [Act.put, List.setIfInBounds_toArray, List.set_cons_zero, List.set_cons_succ]
          refine takeZs 5 (some 25) (by kernel_rfl) rfl rfl rfl (by kernel_rfl) (by kernel_rfl) (by kernel_rfl) (by kernel_rfl) (fun _ _ _ h => h) (by rfl) (by intro w ⟨g1, g2, g3⟩; go_simp; try with_reducible rfl) hHeld ?_
          simp only [Act.put, List.setIfInBounds_toArray, List.set_cons_zero, List.set_cons_succ]
          refine takeZs 6 (some 26) (by kernel_rfl) rfl rfl rfl (by kernel_rfl) (by kernel_rfl) (by kernel_rfl) (by kernel_rfl) (fun _ _ _ h => h) (by rfl) (by intro w ⟨g1, g2, g3⟩; go_simp; try with_reducible rfl) hHeld ?_
          simp only [Act.put, List.setIfInBounds_toArray, List.set_cons_zero, List.set_cons_succ]
          refine takeZs 7 (some 27) (by kernel_rfl) rfl rfl rfl (by kernel_rfl) (by kernel_rfl) (by kernel_rfl) (by kernel_rfl) (fun _ _ _ h => h) (by rfl) (by intro w ⟨g1, g2, g3⟩; go_simp; try with_reducible rfl) hHeld ?_
          simp only [Act.put, List.setIfInBounds_toArray, List.set_cons_zero, List.set_cons_succ]
          refine takeZs 8 (some 28) (by kernel_rfl) rfl rfl rfl (by kernel_rfl) (by kernel_rfl) (by kernel_rfl) (by kernel_rfl) (fun _ _ _ h => h) (by rfl) (by intro w ⟨g1, g2, g3⟩; go_simp; try with_reducible rfl) hHeld ?_
          simp only [Act.put, List.setIfInBounds_toArray, List.set_cons_zero, List.set_cons_succ]
          refine takeZs 9 (some 29) (by kernel_rfl) rfl rfl rfl (by kernel_rfl) (by kernel_rfl) (by kernel_rfl) (by kernel_rfl) (fun _ _ _ h => h) (by rfl) (by intro w ⟨g1, g2, g3⟩; go_simp; try with_reducible rfl) hHeld ?_
          simp only [Act.put, List.setIfInBounds_toArray, List.set_cons_zero, List.set_cons_succ]
          refine takeZs 10 (some 30) (by kernel_rfl) rfl rfl rfl (by kernel_rfl) (by kernel_rfl) (by kernel_rfl) (by kernel_rfl) (fun _ _ _ h => h) (by rfl) (by intro w ⟨g1, g2, g3⟩; go_simp; try with_reducible rfl) hHeld ?_
          simp only [Act.put, List.setIfInBounds_toArray, List.set_cons_zero, List.set_cons_succ]
          refine oneZs 11 rfl (by kernel_rfl) (fun K hK => ?_)
          go_simp
          go_at_call 90
          refine (HC.out Z1.drew (HA1.out.on (Below.refl _ _).drew (Nat.le_refl _))).mono ?_
          rintro e v2 ⟨rfl, hat2, hb2⟩
          have HB2 := Lib.hid (HB1.out.trans (ButS.drew.trans hb2))
          have HA2 := Lib.hid hat2
          have hz2 := HB2.out.size
          have hne1 : ¬ JS a W.heap.size := fun e => by rcases e with e | e <;> omega
          have hne2 : ¬ JS a (W.heap.size + 1) := fun e => by rcases e with e | e <;> omega
          have HI2 := Lib.hid (HB2.out.same _ _ hne1 HI.out.ib)
          have HR2 := Lib.hid (HB2.out.same _ _ hne2 HI.out.rb)
          have m0 := cell_of HA2.out.next (o := 0) rfl
          have m1 := cell_of HA2.out.join (o := 0) rfl
          have m2 := HA2.out.at_ hff
          rw [HK.out.keep ff HBIT.out, hxe] at m2
          unfold JnA.fn at m1
          have hH2 : (fun X => X.cell? ⟨a.nb, 0, none⟩ = some (.slice (some ⟨a.r, 0, none⟩) n n) ∧ X.cell? ⟨a.jb, 0, none⟩ = some (.func (.func 90) #[] #[.pointer (some ⟨a.bb, 0, none⟩), .pointer (some ⟨a.tb, 0, none⟩), .pointer (some ⟨a.nb, 0, none⟩), .pointer (some ⟨a.jb, 0, none⟩)]) ∧ X.cell? ⟨a.r, ff, none⟩ = some (.int .i64 (j : Int))) v2 := ⟨m0, m1, m2⟩
          refine hK.out _ _ (.inr hH2) ?_
          clear hK K hHeld hat2 hb2 n0 n1 n2 hne1 hne2
          try simp only [Act.put, List.setIfInBounds_toArray, List.set_cons_zero, List.set_cons_succ]
          obtain ⟨rb, rt, rx⟩ := r
          try simp only at HK
          try simp only at HQ2
          try simp only at HA2
          try simp only at m2
          try simp only at hH2
          try simp only
          cases rb
          · have HQ3 := Lib.hid (show jLoop (jn n f fuel) i Ls tr nx = jLoop (jn n f fuel) i (Ls.drop (pre ++ [ff]).length) rt rx by rw [HQ2.out]; rfl)
            refine takeZs 12 (some 32) (by kernel_rfl) rfl rfl rfl (by kernel_rfl) (by kernel_rfl) (by kernel_rfl) (by kernel_rfl) (fun _ _ _ h => h) (by rfl) (by intro w ⟨g1, g2, g3⟩; go_simp; try with_reducible rfl) hH2 ?_
            simp only [Act.put, List.setIfInBounds_toArray, List.set_cons_zero, List.set_cons_succ]
            refine doneZs (by kernel_rfl) ?_ _
            rw [noOut_normal]
            clear hH2 m0 m1 m2
            gi_wp2_with (fail)
            have hot := HAT.out.rest HB2.out
            have hfs : free n rt ≤ free n t2 := free_sub (n := n) HK.out.sub
            exact ⟨⟨hz2, fun k o _ h2 h3 => hot k o h2 h3⟩, ⟨hz2, fun k cs t fr h1 h2 => by rcases h1 with h1 | h1; exact h1.elim; omega, fun k o _ h2 h3 => hot k o h2 h3⟩, ⟨HI2.out, HR2.out, ⟨rt, rx, HA2.out, HK.out.lt, HK.out.ok, by omega, HQ3.out⟩, HI.out.bt.trans HB2.out⟩⟩
          · have HF := Lib.hid (show jLoop (jn n f fuel) i Ls tr nx = (true, rt, putN rx ff i) by rw [HQ2.out]; rfl)
            have HFIN := Lib.hid (jn_fin (B := W.heap.size + 1 + 1) (Z := Z) HLL.out hjb hff HA2.out HR2.out (HI.out.bt.trans HB2.out) (HAT.out.rest HB2.out) hz2 HF.out)
            refine takeZs 12 (some 32) (by kernel_rfl) rfl rfl rfl (by kernel_rfl) (by kernel_rfl) (by kernel_rfl) (by kernel_rfl) (fun _ _ _ h => h) (by rfl) (by intro w ⟨g1, g2, g3⟩; go_simp; try with_reducible rfl) hH2 ?_
            simp only [Act.put, List.setIfInBounds_toArray, List.set_cons_zero, List.set_cons_succ]
            refine doneZs (by kernel_rfl) ?_ _
            rw [noOut_normal]
            clear hH2 m1
            have n3 := cell_of HI2.out (o := 0) rfl
            have n4 := frz HA2.out.row ff
            have n5 : (v2.setCell ⟨a.r, ff, none⟩ (.int .i64 (i : Int))).cell? ⟨W.heap.size + 1, 0, none⟩ = some (.bool false) := cell_of (set_else HR2.out (by omega)) rfl
            have n6 : (v2.setCell ⟨a.r, ff, none⟩ (.int .i64 (i : Int))).frozen? ⟨W.heap.size + 1, 0, none⟩ = false := frz (set_else HR2.out (by omega)) 0
            gi_wp2_with (fail)
            exact HFIN.out
    case idone =>
      rintro D X rfl hI hdef
      obtain ⟨t, x, hat, ht, hx, hfr2, hQ⟩ := hI.st
      rw [List.drop_length] at hQ
      have HJ2 := Lib.hid (show jn n f (fuel + 1) i tr nx = (false, t, x) by rw [HJ.out, hQ]; rfl)
      have HM := Lib.hid (show Mks V.heap.size [V.heap.size] X from Mks.push (Mks.nil V.heap.size V) (Mks.nil _ X) (Nat.le_refl _) (Nat.le_refl _) hdef)
      have HR := Lib.hid hI.rb
      have HAX := Lib.hid hat
      have HBX := Lib.hid hI.bt
      have y0 := cell_of hI.rb (o := 0) rfl
      have y1 := frz hI.rb 0
      clear hI hat hQ hx hdef
      go_wp2_with (fail)
      have hkf := kf_store (B := 0) (o := 0) (.bool false) HR.out
      have hMZ : Mks V.heap.size [V.heap.size] (X.setCell ⟨W.heap.size + 1, 0, none⟩ (.bool false)) := HM.out.kept fun k o hk hc => hkf.same k o (Nat.zero_le _) hk hc
      refine leaves_marks (by simp) [V.heap.size] _ hMZ fun W' hW' => ?_
      have c0 : W'.cell? ⟨W.heap.size + 1, 0, none⟩ = some (.bool false) := cell_of (hW'.cells hMZ (set_field HR.out _)) rfl
      refine ⟨.bool false, by simp [results, Try.results90, go_sem, c0], ?_⟩
      rw [HJ2.out]
      have hbx := HBX.out.set (b := W.heap.size + 1) (o := 0) (v := .bool false) (.inr (Nat.le_succ _))
      exact ⟨rfl, (HAX.out.setO ⟨by omega, by omega, by omega, by omega, by omega, by omega⟩).keep fun k cs T ho => hW'.cells hMZ ho, hbx.off hW' fun b hb => by rcases List.mem_singleton.1 hb with rfl; omega⟩
    case istop =>
      rintro D c pre X rfl hpre hX hdef
      obtain ⟨t, x, hat, hQ⟩ := hX.st
      have hcc := hX.c
      subst hcc
      have HJ2 := Lib.hid (show jn n f (fuel + 1) i tr nx = (true, t, x) by rw [HJ.out, hQ])
      have HM := Lib.hid (show Mks V.heap.size [V.heap.size] X from Mks.push (Mks.nil V.heap.size V) (Mks.nil _ X) (Nat.le_refl _) (Nat.le_refl _) hdef)
      have HR := Lib.hid hX.rb
      have HAX := Lib.hid hat
      have HBX := Lib.hid hX.bt
      clear hX hat hQ hdef
      rw [wpIn_wide]
      go_wp2_with (fail)
      refine leaves_marks (by simp) [V.heap.size] _ HM.out fun W' hW' => ?_
      have c0 : W'.cell? ⟨W.heap.size + 1, 0, none⟩ = some (.bool true) := cell_of (hW'.cells HM.out HR.out) rfl
      refine ⟨.bool true, by simp [results, Try.results90, go_sem, c0], ?_⟩
      rw [HJ2.out]
      exact ⟨rfl, HAX.out.keep fun k cs T ho => hW'.cells HM.out ho, HBX.out.off hW' fun b hb => by rcases List.mem_singleton.1 hb with rfl; omega⟩
end Go.Proofs.Ytjheaeeeeggncaa

namespace Go.Proofs.Ytjheaeeeeggncaa
open Go.RowKit
set_option maxRecDepth 100000
set_option linter.unusedSimpArgs false
set_option linter.unusedVariables false

theorem retTT {fn : Func} {a : Act} {W : World} {R : Ending → World → Prop} {i j : Nat} {x y : Value} (hfn : fn.results = #[.tmp i, .tmp j]) (hi : a.tmps[i]?.getD undef = x) (hj : a.tmps[j]?.getD undef = y) (hd : a.defers = [])
    (hR : R (.returned (.tuple #[x, y])) W) : bodyPost Try.prog fn R .ret a W :=
  bodyPost_ret (v := .tuple #[x, y]) (by simp [results, hfn, hi, hj, go_sem]) hd hR
theorem mul_bits : ∀ n : Nat, n < 65 → bits .and .u64 (n : Int) 4294967295 = (n : Int) ∧ (n : Int) / 4294967296 = 0 ∧ IntKind.u64.wrap (n : Int) = (n : Int) := by decide +kernel
theorem mul_bits1 : bits .and .u64 1 4294967295 = 1 ∧ bits .and .u64 0 4294967295 = 0 := by decide +kernel
set_option maxHeartbeats 4000000 in
theorem c_Mul64 (N : Nat) (hN : N ≤ 64) (w : World) : Calls Try.prog 109 #[.int .u64 1, .int .u64 (N : Int)] w fun e w' => e = .returned (.tuple #[.int .u64 0, .int .u64 (N : Int)]) ∧ w = w' := by
  obtain ⟨h1, h2, h3⟩ := mul_bits N (by omega)
  obtain ⟨h4, h5⟩ := mul_bits1
  go_enter Try.func109, Try.ntmps109
  go_wp2
  exact retTT rfl rfl rfl rfl ⟨rfl, rfl⟩
set_option maxHeartbeats 4000000 in
theorem c_Mul (N : Nat) (hN : N ≤ 64) (w : World) : Calls Try.prog 102 #[.int .u64 1, .int .u64 (N : Int)] w fun e w' => e = .returned (.tuple #[.int .u64 0, .int .u64 (N : Int)]) ∧ w = w' := by
  go_enter Try.func102, Try.ntmps102
  go_wp2_with (fail)
  go_at_call 109
  refine (c_Mul64 N hN _).mono ?_
  rintro e w1 ⟨rfl, rfl⟩
  go_wp2_with (fail)
  exact retTT rfl rfl rfl rfl ⟨rfl, rfl⟩
theorem _root_.Go.Lib.cell_of_row' {W : World} {b j : Nat} {cur : List Value} {T : TypeId} (h : W.heap[b]? = some (.cells cur.toArray T (0, 0))) : W.cell? ⟨b, j, none⟩ = cur[j]? := by
  simp [World.cell?, h]
/-- The new slice between two rounds. -/
def RpRel (N : Nat) (w : World) (g : Nat) (p : Int) (n : Value) (wr : World) : Prop :=
  ∃ (k : Nat) (cur : List Value), n = .int .i64 (k : Int) ∧ 1 ≤ k ∧ k ≤ N ∧ wr.heap[g]? = some (.cells cur.toArray 3 (0, 0)) ∧ cur.length = N ∧ Hid (cur.take k = List.replicate k (.int .i64 p)) ∧ Hid (Below w.heap.size w wr)
theorem row_whole_own {w : World} {base n g : Nat} {T : TypeId} {xs : List Value} (h : w.ownsRow base T 1 (.slice (some ⟨g, 0, none⟩) n n) n xs) : ∃ cur : List Value, w.heap[g]? = some (.cells cur.toArray T (0, 0)) ∧ cur.length = n := by
  obtain ⟨k1, ⟨e, -⟩ | ⟨g', cap', cur, e, k3, k4, k5, k6, k7, k8⟩⟩ := h
  · cases e
  · injection e with e1 _ e2
    injection e1 with e1
    injection e1 with e1
    subst e1 e2
    exact ⟨cur.toList, by simpa using k4, by simpa using k7⟩
theorem int_size : (Try.prog.info? 3).map (·.size) = some 1 := by kernel_rfl
set_option maxHeartbeats 1000000 in
theorem c_Repeat (N : Nat) (hN : 1 ≤ N ∧ N ≤ 64) (p : Int) (b o c : Nat) (w : World) (hb : b < w.heap.size) (hc1 : 1 ≤ c) (hc2 : c ≤ maxLen) (hcell : w.cell? ⟨b, o, none⟩ = some (.int .i64 p)) : Calls Try.prog 89 #[.slice (some ⟨b, o, none⟩) 1 c, .int .i64 (N : Int)] w fun e w' => e = .returned (.slice (some ⟨w.heap.size, 0, none⟩) N N) ∧ w'.heap[w.heap.size]? = some (.cells (List.replicate N (Value.int .i64 p)).toArray 3 (0, 0)) ∧ Below w.heap.size w w' := by
  unfold maxLen at hc2
  go_enter Try.func89, Try.ntmps89
  go_wp2_with (fail)
  go_at_call 102
  refine (c_Mul N hN.2 _).mono ?_
  rintro e w1 ⟨rfl, rfl⟩
  obtain ⟨i0, hi0, hzz0, hzz1, hzz2⟩ := info_parts int_info
  have HSRC := Lib.hid (fun (X : World) (hX : Below w.heap.size w X) (j : Nat) (u : Value) (hj : [Value.int .i64 p][j]? = some u) => show X.cell? ((⟨b, o, none⟩ : Addr).add j) = some u from by
    match j, hj with
    | 0, hj => simp at hj; subst hj; exact (hX.cell (p := ⟨b, o, none⟩) hb).trans hcell)
  go_wp2_with (first
    | (at_make; refine wpList_make_full (P := Try.prog) _ rfl _ _ 33 rfl w.heap.size 3 i0 (.int .i64 0) 1 Try.underlying33 hi0 hzz0 hzz1 .i64 .i64 _ _ N rfl rfl rfl rfl (by rw [hzz2]; omega) (by unfold maxLen; omega) (Nat.le_refl _) ?_; intro w1 ho1 hg1; obtain ⟨cur, hcur, hsz⟩ := row_whole_own ho1; have HB1 := Lib.hid ((Below.refl w.heap.size w).grown hg1 (Nat.le_refl _) (fun k hk => by cases hk)); clear ho1 hg1)
    | (refine wpList_copy_splice rfl (.tmp 31) (.tmp 32) _ _ rfl 3 Try.underlying33 int_size _ _ N N 1 c rfl rfl w.heap.size 0 cur 3 hcur [.int .i64 p] (show 1 = Nat.min 1 N from (Nat.min_eq_left hN.1).symm) (fun _ => ⟨rfl, _, rfl, HSRC.out _ HB1.out⟩) (by simp; omega) (by simp [Value.oneCell']) w.heap.size w HB1.out (Nat.le_refl _) ?_; intro w2 hrow hb2))
  have HR2 := hrow
  have HB2 := Lib.hid hb2
  clear hb2 hcur
  go_wp2_with (fail)
  go_loopw [8] (fun n wr => RpRel N w w.heap.size p n wr) (fun n _ => N - (intOf n).toNat)
  case atStart => exact ⟨1, _, rfl, by omega, by omega, HR2.out, by rw [length_splice _ _ _ (by simp; omega)]; exact hsz, Lib.hid (by simp [splice]), Lib.hid HB2.out⟩
  case round =>
    obtain ⟨k, cu, rfl, hk1, hk2, hrow, hlen, htk, hB⟩ := hrel
    have HR := Lib.hid hrow
    have hki : ((k : Nat) : Int).toNat = k := by omega
    by_cases hlt : k < N
    · obtain ⟨m, hm⟩ : ∃ m, m = Nat.min k (N - k) := ⟨_, rfl⟩
      have hm0 : 0 < m := by rw [hm]; exact Nat.lt_min.2 ⟨by omega, by omega⟩
      have hmk : m ≤ k := by rw [hm]; exact Nat.min_le_left _ _
      have hmk2 : m ≤ N - k := by rw [hm]; exact Nat.min_le_right _ _
      have HC := Lib.hid (fun (j : Nat) (u : Value) (hj : (List.replicate m (Value.int .i64 p))[j]? = some u) => show wr.cell? ((⟨w.heap.size, 0, none⟩ : Addr).add j) = some u from by
        have hj' := (List.getElem?_eq_some_iff.1 hj).1
        rw [List.length_replicate] at hj'
        have e : (⟨w.heap.size, 0, none⟩ : Addr).add j = ⟨w.heap.size, j, none⟩ := by unfold Addr.add; split <;> simp_all
        rw [e, Lib.cell_of_row' hrow, ← hj, List.getElem?_replicate, if_pos hj']
        have := congrArg (fun l => l[j]?) htk.out
        simp only [List.getElem?_take_of_lt (show j < k by omega)] at this
        rw [this, List.getElem?_replicate, if_pos (by omega)])
      have h300 : (k : Int) < N := by omega
      have h301 : (k : Int) ≤ N := by omega
      have h302 : ¬ (N = k) := by omega
      have HMM := Lib.hid hm
      clear hrow hm
      go_wp2_with (fail)
      go_region_law (refine step_copy_splice rfl (.tmp 41) (.tmp 44) _ _ rfl 3 Try.underlying33 int_size (some ⟨w.heap.size, k, none⟩) (some ⟨w.heap.size, 0, none⟩) (N - k) (N - k) k N (by simp [Act.eval, Act.put]) (by simp [Act.eval, Act.put]) w.heap.size k cu 3 HR.out (List.replicate m (.int .i64 p)) (by rw [List.length_replicate]; exact HMM.out) (fun _ => ⟨rfl, _, rfl, HC.out⟩) (by rw [List.length_replicate]; omega) (by intro u hu; rw [(List.mem_replicate.1 hu).2]; rfl) w.heap.size w hB.out.drew (Nat.le_refl _) ?_; intro w4 hg4 hb4)
      have hl4 : (splice cu k (List.replicate m (Value.int .i64 p))).length = N := by rw [length_splice _ _ _ (by rw [List.length_replicate]; omega)]; exact hlen
      have R := Lib.hid (show RpRel N w w.heap.size p (.int .i64 ((k : Int) + (m : Int))) w4 from ⟨k + m, _, by push_cast; rfl, by omega, by omega, hg4.out, hl4, Lib.hid (by
        unfold splice
        rw [← List.append_assoc, List.take_append_of_le_length (by rw [List.length_append, List.length_take, List.length_replicate]; omega), List.take_of_length_le (by rw [List.length_append, List.length_take, List.length_replicate]; omega), htk.out, List.replicate_append_replicate]), Lib.hid hb4⟩)
      clear hg4 hb4 hl4
      have el : (List.replicate m (Value.int .i64 p)).length = m := List.length_replicate
      have hwr : IntKind.i64.wrap ((k : Int) + (m : Int)) = (k : Int) + (m : Int) := by rw [IntKind.wrap_i64]; omega
      have HW := Lib.hid hwr
      clear hwr
      go_simp
      go_wp2_with (fail)
      have hwr := HW.out
      go_roundw
      case rel => rw [hwr]; exact R.out
      case measure => simp only [intOf]; rw [hwr]; omega
    · obtain rfl : N = k := by omega
      go_wp2_with (fail)
      go_ret
      have ht := htk.out
      rw [List.take_of_length_le (by omega)] at ht
      rw [ht] at hrow
      exact ⟨rfl, hrow, hB.out⟩
set_option maxHeartbeats 1000000 in
theorem c_Repeat0 (p : Int) (b o c : Nat) (w : World) (hb : b < w.heap.size) (hc1 : 1 ≤ c) (hc2 : c ≤ maxLen) (hcell : w.cell? ⟨b, o, none⟩ = some (.int .i64 p)) : Calls Try.prog 89 #[.slice (some ⟨b, o, none⟩) 1 c, .int .i64 0] w fun e w' => e = .returned (.slice (some ⟨w.heap.size, 0, none⟩) 0 0) ∧ w'.heap[w.heap.size]? = some (.cells #[] 3 (0, 0)) ∧ Below w.heap.size w w' := by
  unfold maxLen at hc2
  go_enter Try.func89, Try.ntmps89
  go_wp2_with (fail)
  go_at_call 102
  refine (c_Mul 0 (by omega) _).mono ?_
  rintro e w1 ⟨rfl, rfl⟩
  obtain ⟨i0, hi0, hzz0, hzz1, hzz2⟩ := info_parts int_info
  go_wp2_with (first
    | (at_make; refine wpList_make_full (P := Try.prog) _ rfl _ _ 33 rfl w.heap.size 3 i0 (.int .i64 0) 1 Try.underlying33 hi0 hzz0 hzz1 .i64 .i64 _ _ 0 rfl rfl rfl rfl (by rw [hzz2]; omega) (by unfold maxLen; omega) (Nat.le_refl _) ?_; intro w1 ho1 hg1; obtain ⟨cur, hcur, hsz⟩ := row_whole_own ho1; have HB1 := Lib.hid ((Below.refl w.heap.size w).grown hg1 (Nat.le_refl _) (fun k hk => by cases hk)); clear ho1 hg1)
    | (refine wpList_copy_splice rfl (.tmp 31) (.tmp 32) _ _ rfl 3 Try.underlying33 int_size _ _ 0 0 1 c rfl rfl w.heap.size 0 cur 3 hcur [] rfl (fun h => absurd h (by simp)) (by simp) (by simp) w.heap.size w HB1.out (Nat.le_refl _) ?_; intro w2 hrow hb2))
  have hc0 : cur = [] := List.length_eq_zero_iff.1 hsz
  subst hc0
  have HR2 := Lib.hid hrow
  have HB2 := Lib.hid hb2
  clear hb2 hcur hrow
  go_wp2_with (fail)
  go_loopw [8] (fun n wr => n = .int .i64 0 ∧ wr = w2) (fun _ _ => 0)
  case atStart => exact ⟨rfl, rfl⟩
  case round =>
    obtain ⟨rfl, rfl⟩ := hrel
    go_wp2_with (fail)
    go_ret
    exact ⟨rfl, HR2.out, HB2.out⟩
theorem c_RepeatN (N : Nat) (hN : N ≤ 64) (p : Int) (b o c : Nat) (w : World) (hb : b < w.heap.size) (hc1 : 1 ≤ c) (hc2 : c ≤ maxLen) (hcell : w.cell? ⟨b, o, none⟩ = some (.int .i64 p)) : Calls Try.prog 89 #[.slice (some ⟨b, o, none⟩) 1 c, .int .i64 (N : Int)] w fun e w' => e = .returned (.slice (some ⟨w.heap.size, 0, none⟩) N N) ∧ w'.heap[w.heap.size]? = some (.cells (List.replicate N (Value.int .i64 p)).toArray 3 (0, 0)) ∧ Below w.heap.size w w' := by
  rcases Nat.eq_zero_or_pos N with rfl | h
  · exact c_Repeat0 p b o c w hb hc1 hc2 hcell
  · exact c_Repeat N ⟨h, hN⟩ p b o c w hb hc1 hc2 hcell
end Go.Proofs.Ytjheaeeeeggncaa

namespace Go.Proofs.Ytjheaeeeeggncaa
open Go.RowKit Go.Shelf
attribute [local go_sem] Oper.semAt_some
set_option maxRecDepth 100000
set_option linter.unusedVariables false
set_option linter.unusedSimpArgs false

theorem ButS.low {p : Nat → Prop} {X Y w : World} {B : Nat} (h : ButS p X Y) (k : Below B w X) (hp : ∀ k, p k → B ≤ k) (hB : B ≤ w.heap.size) : Below B w Y := by
  refine ⟨h.os.trans k.os, h.tape.trans k.tape, h.output.trans k.output, Nat.le_trans k.size h.size, fun i hi => ?_⟩
  have hlt : i < X.heap.size := Nat.lt_of_lt_of_le (Nat.lt_of_lt_of_le hi hB) k.size
  have h3 := Array.getElem?_eq_getElem hlt
  have := h.same i _ (fun e => by have := hp i e; omega) h3
  rw [this, ← h3]
  exact k.block i hi
theorem nxC_none (n : Nat) : List.replicate n (Value.int .i64 (-1)) = nxC n (fun _ => -1) := by
  apply List.ext_getElem?
  intro j
  by_cases h : j < n
  · rw [nxC_at _ h, List.getElem?_replicate, if_pos h]
  · rw [List.getElem?_eq_none (by rw [List.length_replicate]; omega), List.getElem?_eq_none (by rw [nxC_len]; omega)]
/-- What joined answers. -/
def JdTo (w : World) (n : Nat) (f : Nat → Nat) (e : Ending) (w' : World) : Prop :=
  ∃ r, e = .returned (.slice (some ⟨r, 0, none⟩) n n) ∧ w'.heap[r]? = some (.cells (nxC n (joinB n f n)).toArray 3 (0, 0)) ∧ w.heap.size ≤ r ∧ Below w.heap.size w w'
/-- Between two rounds. -/
structure JdI (w : World) (g n : Nat) (f : Nat → Nat) (r nb p : Nat) (X : World) : Prop where
  blk : Blk X g n f
  ord : X.heap[w.heap.size]? = some (.cells #[.slice (some ⟨g, 0, none⟩) n n] 64 (0, 0))
  row : X.heap[r]? = some (.cells (nxC n (joinB n f p)).toArray 3 (0, 0))
  next : X.heap[nb]? = some (.cells #[.slice (some ⟨r, 0, none⟩) n n] 33 (0, 0))
  ok : okN n (joinB n f p)
  bel : Below w.heap.size w X
set_option maxHeartbeats 16000000 in
theorem c_joined (g n : Nat) (f : Nat → Nat) (hn : n ≤ 12) (hf : ∀ j, j < n → f j < 2 ^ n) (w : World) (h : Blk w g n f) :
    Calls Try.prog 83 #[.slice (some ⟨g, 0, none⟩) n n] w (JdTo w n f) := by
  have H := Lib.hid h
  have hgw := at_lt h
  obtain ⟨W1, h1⟩ : ∃ W, W = w.alloc (.cells #[.slice (some ⟨g, 0, none⟩) n n] 64) := ⟨_, rfl⟩
  obtain ⟨W2, h2⟩ : ∃ W, W = W1.alloc (.cells #[.int .i64 (-1)] 3) := ⟨_, rfl⟩
  obtain ⟨hb2, k1, k2, hz2⟩ := two_boxes h1 h2
  have z1 : W1.heap.size = w.heap.size + 1 := by rw [h1, World.size_alloc]
  have HB2 := Lib.hid hb2
  have HO2 := Lib.hid k1
  have y0 := cell_of k1 (o := 0) rfl
  have HRP := Lib.hid (c_RepeatN n (by omega) (-1) (w.heap.size + 1) 0 1 W2 (by omega) (Nat.le_refl _) (by decide) (cell_of k2 rfl))
  rw [h2, h1] at y0
  clear h hb2 k1 k2
  go_enter Try.func83, Try.ntmps83
  go_wp2_with (fail)
  rw [← h1, ← h2]
  clear h1 h2 y0
  go_at_call 89
  refine HRP.out.mono ?_
  rintro e W3 ⟨rfl, hr3, hb3⟩
  obtain ⟨W4, h4⟩ : ∃ W, W = W3.alloc (.cells #[.slice (some ⟨W2.heap.size, 0, none⟩) n n] 33) := ⟨_, rfl⟩
  have b4 : Below W3.heap.size W3 W4 := by rw [h4]; exact (Below.refl _ _).alloc (Nat.le_refl _) _
  have hz3 := hb3.size
  have hr3l := at_lt hr3
  have z4 : W4.heap.size = W3.heap.size + 1 := by rw [h4, World.size_alloc]
  have kp : ∀ (k : Nat) (o : Obj), W2.heap[k]? = some o → W4.heap[k]? = some o := fun k o ho => (b4.block _ (by have := at_lt ho; omega)).trans ((hb3.block _ (at_lt ho)).trans ho)
  obtain ⟨r, hr⟩ : ∃ r, W2.heap.size = r := ⟨_, rfl⟩
  obtain ⟨nb, hnb⟩ : ∃ r, W3.heap.size = r := ⟨_, rfl⟩
  have HI4 := Lib.hid (show JdI w g n f r nb 0 W4 from ⟨kp _ _ ((HB2.out.block _ hgw).trans H.out), kp _ _ HO2.out, (b4.block _ (by omega)).trans (by rw [← hr, hr3, nxC_none]; rfl), by rw [← hnb, h4, ← hr]; exact heap_alloc_new _ _, fun g _ => .inl rfl, (HB2.out.trans (hb3.mono (by omega))).trans (b4.mono (by omega))⟩)
  rw [hr] at h4
  rw [hr] at hr3l hz2
  rw [hnb] at hr3l z4
  have HZ2 := Lib.hid hz2
  clear hb3 hr3 b4 kp hz3 hz2 z1
  have y1 := cell_of HI4.out.ord (o := 0) rfl
  rw [h4] at y1
  rw [hr]
  go_wp2_with (fail)
  rw [← h4]
  clear h4 y1
  go_loopw [13] (fun i wr => ∃ p : Nat, p ≤ n ∧ i = .int .i64 (p : Int) ∧ Hid (JdI w g n f r nb p wr) ∧ nb < wr.heap.size) (fun i _ => n - (intOf i).toNat)
  case atStart => exact ⟨0, Nat.zero_le _, rfl, HI4, by omega⟩
  case round =>
    obtain ⟨p, hp, rfl, hI, hnw⟩ := hrel
    have hpi : ((p : Nat) : Int).toNat = p := by omega
    by_cases hlt : p < n
    · have hpl : (p : Int) < (n : Int) := by omega
      obtain ⟨T1, h1⟩ : ∃ W, W = wr.alloc (.cells #[.int .u16 0] 72) := ⟨_, rfl⟩
      obtain ⟨T2, h2⟩ : ∃ W, W = T1.alloc (.cells #[(JnA.mk g w.heap.size r nb wr.heap.size (wr.heap.size + 1)).fn] 94) := ⟨_, rfl⟩
      obtain ⟨hbT, k1, k2, hzT⟩ := two_boxes h1 h2
      have HBT := Lib.hid hbT
      have kp : ∀ (k : Nat) (o : Obj), wr.heap[k]? = some o → T2.heap[k]? = some o := fun k o ho => (hbT.block _ (at_lt ho)).trans ho
      have hz := HZ2.out
      have HLL := Lib.hid (show JnL ⟨g, w.heap.size, r, nb, wr.heap.size, wr.heap.size + 1⟩ from ⟨hgw, by show w.heap.size < r; omega, hr3l, hnw, Nat.lt_succ_self _⟩)
      have HAT := Lib.hid (show JnAt n f ⟨g, w.heap.size, r, nb, wr.heap.size, wr.heap.size + 1⟩ 0 (joinB n f p) T2 from ⟨kp _ _ hI.out.blk, kp _ _ hI.out.ord, kp _ _ hI.out.row, kp _ _ hI.out.next, k1, k2⟩)
      have HC := Lib.hid (c_joined1 ⟨g, w.heap.size, r, nb, wr.heap.size, wr.heap.size + 1⟩ HLL.out n f hn hf (n + 1) p 0 (joinB n f p) T2 hlt (Nat.two_pow_pos n) hI.out.ok (by rw [free_none]; omega) HAT.out)
      have HJK := Lib.hid (jn_keeps (n := n) (b := f) (n + 1) p 0 (joinB n f p) hlt (Nat.two_pow_pos n) hI.out.ok)
      clear hbT k1 k2 kp hz
      go_wp2_with (fail)
      rw [show (.cells #[.func (.func 90) #[] #[.pointer (some ⟨w.heap.size, 0, none⟩), .pointer (some ⟨wr.heap.size, 0, none⟩), .pointer (some ⟨nb, 0, none⟩), .pointer (some ⟨wr.heap.size + 1, 0, none⟩)]] 94 : Obj) = .cells #[(JnA.mk g w.heap.size r nb wr.heap.size (wr.heap.size + 1)).fn] 94 from rfl, ← h1, ← h2]
      clear h1 h2
      go_at_call 90
      refine HC.out.mono ?_
      rintro e T3 ⟨rfl, hat3, hb3⟩
      have HI3 := Lib.hid (show JdI w g n f r nb (p + 1) T3 from ⟨hat3.blk, hat3.ord, hat3.row, hat3.next, HJK.out.ok, hb3.low (hI.out.bel.trans (HBT.out.mono hI.out.bel.size)) (fun k hk => by
        have h1 := HZ2.out
        have h2 := hI.out.bel.size
        rcases hk with h | h
        · have h : k = wr.heap.size := h; omega
        · have h : k = r := h; omega) (Nat.le_refl _)⟩)
      have hz3 := hb3.size
      clear hat3 hb3
      go_wp2_with (fail)
      go_roundw
      case rel => exact ⟨p + 1, by omega, by go_num, HI3, by omega⟩
      case measure => simp only [intOf]; omega
    · obtain rfl : p = n := by omega
      have y2 := cell_of hI.out.next (o := 0) rfl
      go_wp2_with (fail)
      go_ret
      exact ⟨r, rfl, hI.out.row, by have := HZ2.out; omega, hI.out.bel⟩
end Go.Proofs.Ytjheaeeeeggncaa

namespace Go.Proofs.Ytjheaeeeeggncaa
open Go.RowKit Go.Shelf
attribute [local go_sem] Oper.semAt_some
set_option maxRecDepth 100000
set_option linter.unusedVariables false
set_option linter.unusedSimpArgs false

theorem Po.lt2 {n : Nat} {f : Nat → Nat} (hp : Po n f) : ∀ j, j < n → f j < 2 ^ n := fun j hj => Nat.lt_pow_two_of_testBit _ fun k hk => by
  cases e : (f j).testBit k
  · rfl
  · have := hp.lt j k hj e; omega
/-- The numbers of the row next. -/
def nxL (n : Nat) (nx : Nat → Int) : List Int := (List.range n).map nx
theorem nxL_len (n : Nat) (nx : Nat → Int) : (nxL n nx).length = n := by simp [nxL]
theorem nx_rv {W : World} {r n : Nat} {nx : Nat → Int} (h : W.heap[r]? = some (.cells (nxC n nx).toArray 3 (0, 0))) (hn : n ≤ 12) : Rv 1 inV W (some ⟨r, 0, none⟩) n (nxL n nx) := by
  refine ⟨by rw [nxL_len]; exact Nat.le_refl _, by unfold maxLen; omega, (by intro h; cases h), fun _ => ⟨r, 0, rfl, at_lt h, fun j x hj i hi => ?_⟩⟩
  obtain rfl : i = 0 := by omega
  have hj' : j < n := by have := (List.getElem?_eq_some_iff.1 hj).1; rwa [nxL_len] at this
  have hx : nx j = x := by simp [nxL, hj'] at hj; exact hj
  rw [show 0 + j * 1 + 0 = j by omega, ← hx]
  exact cell_of h (by rw [List.getElem?_toArray]; exact nxC_at nx hj')
theorem nx_in {n : Nat} {nx : Nat → Int} {i : Nat} : isNx n nx i = true ↔ (i : Int) ∈ nxL n nx := by
  rw [isNx_iff]
  unfold nxL
  rw [List.mem_map]
  exact ⟨fun ⟨f, h1, h2⟩ => ⟨f, List.mem_range.2 h1, h2⟩, fun ⟨f, h1, h2⟩ => ⟨f, List.mem_range.1 h1, h2⟩⟩
/-- The chains of the first elements. -/
def chsP (n : Nat) (nx : Nat → Int) (p : Nat) : List (List Int) := ((List.range p).filter fun i => !isNx n nx i).map fun i => intsN (chN n nx i)
theorem chsP_in {n p : Nat} {nx : Nat → Int} (h : isNx n nx p = true) : chsP n nx (p + 1) = chsP n nx p := by
  unfold chsP
  rw [List.range_succ, List.filter_append]
  simp [h]
theorem chsP_new {n p : Nat} {nx : Nat → Int} (h : isNx n nx p = false) : chsP n nx (p + 1) = chsP n nx p ++ [intsN (chN n nx p)] := by
  unfold chsP
  rw [List.range_succ, List.filter_append]
  simp [h]
/-- What is left of a chain. -/
def remL (n : Nat) (nx : Nat → Int) (x : Int) : List Nat := if x = -1 then [] else chN n nx x.toNat
theorem remL_at {n j : Nat} {b : Nat → Nat} {nx : Nat → Int} (hp : Po n b) (hm : Mt n b nx) (hj : j < n) : remL n nx (j : Int) = j :: remL n nx (nx j) := by
  unfold remL
  rw [if_neg (by omega), Int.toNat_natCast]
  exact chN_eq hp hm hj
set_option maxHeartbeats 16000000 in
theorem c_chains (g n : Nat) (f : Nat → Nat) (hn : n ≤ 12) (hp : Po n f) (w : World) (h : Blk w g n f) :
    Calls Try.prog 68 #[.slice (some ⟨g, 0, none⟩) n n] w fun e w' => ∃ v ys, e = .returned v ∧ OutL w.heap.size w' v ys ∧ ys.map (·.l) = chsP n (joinB n f n) n ∧ Below w.heap.size w w' := by
  have hm := (wide_join hp).1
  have HC := Lib.hid (c_joined g n f hn hp.lt2 w h)
  unfold JdTo at HC
  obtain ⟨nx, hnx⟩ : ∃ nx, joinB n f n = nx := ⟨_, rfl⟩
  rw [hnx] at hm HC ⊢
  clear hnx h
  have HP := Lib.hid hp
  have HM := Lib.hid hm
  obtain ⟨i1, hi1, hz1, hz2, hz3⟩ := info_parts li_info
  obtain ⟨i2, hi2, hy1, hy2, hy3⟩ := info_parts int_info
  clear hp hm
  go_enter Try.func68, Try.ntmps68
  go_wp2_with (fail)
  go_at_call 83
  refine HC.out.mono ?_
  rintro e w1 ⟨r, rfl, hr, hrl, b1⟩
  have HB1 := Lib.hid b1
  have HR1 := Lib.hid hr
  have hr1 := at_lt hr
  clear b1 hr
  go_wp2_with (fail)
  go_loopw [4, 12] (fun v i wr => ∃ (p : Nat) (ys : List LsV), p ≤ n ∧ i = .int .i64 (p : Int) ∧ Hid (Below w1.heap.size w1 wr) ∧ ys.length ≤ p ∧ Hid (OutL w1.heap.size wr v ys) ∧ Hid (ys.map (·.l) = chsP n nx p)) (fun _ i _ => n - (intOf i).toNat)
  case atStart => exact ⟨0, [], Nat.zero_le _, rfl, Lib.hid (Below.refl _ _), Nat.le_refl _, Lib.hid ⟨World.ownsRow_nil _ _ _ _, fun y hy => by cases hy⟩, Lib.hid rfl⟩
  case round =>
    obtain ⟨p, ys, hpn, rfl, hB, hyl, hO, hQ⟩ := hrel
    rename World => wo
    have hpi : ((p : Nat) : Int).toNat = p := by omega
    obtain ⟨As, cs, rfl⟩ := own_shape hO.out.1
    by_cases hlt : p < n
    · have hpl : (p : Int) < (n : Int) := by omega
      have HRW := Lib.hid ((hB.out.block _ hr1).trans HR1.out)
      obtain ⟨bb, hbb⟩ : ∃ bb, isNx n nx p = bb := ⟨_, rfl⟩
      have HBB := Lib.hid hbb
      have HCT := Lib.hid (c_Contains (some ⟨r, 0, none⟩) n (nxL n nx) (p : Int) bb (by rw [← hbb]; exact nx_in) wo (nx_rv HRW.out hn))
      rw [nxL_len] at HCT
      clear hbb
      go_wp2_with (fail)
      go_at_call 43
      refine HCT.out.mono ?_
      rintro e wa ⟨rfl, hwa⟩
      rw [hwa]
      clear hwa wa
      cases bb
      · go_wp2_with (fail)
        have HCL := Lib.hid (show (chN n nx p).length ≤ n from chF_len HP.out HM.out hlt)
        go_loopw [6, 7] (fun v c wr => ∃ (q : List Nat) (cu : Int), c = .int .i64 cu ∧ (cu = -1 ∨ ∃ j : Nat, j < n ∧ cu = ((j : Nat) : Int)) ∧ Hid (chN n nx p = q ++ remL n nx cu) ∧ Hid (Below wo.heap.size wo wr) ∧ Hid (wr.ownsRow wo.heap.size 3 1 v q.length (elV q))) (fun _ c _ => (remL n nx (intOf c)).length)
        case atStart => exact ⟨[], (p : Int), rfl, .inr ⟨p, hlt, rfl⟩, Lib.hid (by unfold remL; rw [if_neg (by omega), Int.toNat_natCast]; rfl), Lib.hid (Below.refl _ _), Lib.hid (World.ownsRow_nil _ _ _ _)⟩
        case round =>
          obtain ⟨q, cu, rfl, hcu, hch, hB5, hO5⟩ := hrel
          obtain ⟨A5, c5, rfl⟩ := own_shape hO5.out
          have hq12 : q.length ≤ 12 := by
            have h1 := HCL.out
            rw [hch.out, List.length_append] at h1
            omega
          rcases hcu with rfl | ⟨j, hj, rfl⟩
          · have HQE := Lib.hid (show chN n nx p = q by rw [hch.out]; simp [remL])
            have HQ2 := Lib.hid (show (ys.map (·.l)) ++ [intsN q] = chsP n nx (p + 1) by rw [hQ.out, chsP_new HBB.out, HQE.out])
            have hs1 := hB.out.size
            have K3 := Lib.hid (below_join hB.out hB5.out hB.out.size)
            have O3 := Lib.hid (hO.out.on hB5.out (Nat.le_refl _))
            have Y3 := Lib.hid (show wr.ownsRow w1.heap.size 3 1 (.slice A5 (intsN q).length c5) (intsN q).length (cellsV 1 inV (intsN q)) by
              rw [intsN_len, ← elV_ints]; exact own_mono hO5.out hs1)
            obtain ⟨l', hl'⟩ : ∃ l', intsN q = l' := ⟨_, rfl⟩
            have hll : q.length = l'.length := by rw [← hl', intsN_len]
            rw [hll]
            rw [hl'] at Y3 HQ2
            clear hl' hll hq12
            go_wp2_with (at_builtin; refine wpList_append_lies _ rfl _ _ 22 rfl w1.heap.size 33 i1 (.slice none 0 0) 1 24 Try.underlying22 hi1 hz1 hz2 hz3 rfl (by decide) (.slice As ys.length cs) ys.length _ rfl (O3.out.1.alloc _) ⟨wr.heap.size, 0, none⟩ 1 1 [.slice A5 l'.length c5] rfl rfl (World.news_of_block (heap_alloc_new _ _)) (by simp [Value.oneCell']) (by decide) (by unfold maxLen; omega) (by omega) (by have := K3.out.size; simp; omega) (wr.heap.size + 1) (by simp) ?_; intro g4 cap4 Z hown hgrow _ _; have HBZ := Lib.hid ((K3.out.alloc K3.out.size _).grown hgrow (by have := K3.out.size; simp; omega) (fun k hk => (ownsRow_lt O3.out.1 hk).1)); have HOZ := Lib.hid (O3.out.push ⟨A5, c5, l'⟩ Y3.out hown hgrow); clear hown hgrow)
            go_roundw
            case rel => exact ⟨p + 1, ys ++ [⟨A5, c5, l'⟩], by omega, by go_num, HBZ, by rw [List.length_append]; exact Nat.succ_le_succ hyl, Lib.hid (by simpa using HOZ.out), Lib.hid (by rw [List.map_append]; exact HQ2.out)⟩
            case measure => simp only [intOf]; omega
          · have hne : ((j : Int) != -1) = true := by simp
            have hd0 : ((j : Int) == -1) = false := by rw [beq_eq_false_iff_ne]; omega
            have hjl : (j : Int) < (n : Int) := by omega
            have HRA := Lib.hid (remL_at HP.out HM.out hj)
            have HNX := Lib.hid (show chN n nx p = (q ++ [j]) ++ remL n nx (nx j) by rw [hch.out, HRA.out]; simp)
            have HOK := Lib.hid (show nx j = -1 ∨ ∃ k : Nat, k < n ∧ nx j = ((k : Nat) : Int) from by
              rcases HM.out.ok j hj with h | ⟨k, h1, h2, -⟩
              · exact .inl h
              · exact .inr ⟨k, h1, h2⟩)
            go_wp2_with (at_builtin; refine wpList_append_lies _ rfl _ _ 33 rfl wo.heap.size 3 i2 (.int .i64 0) 1 8 Try.underlying33 hi2 hy1 hy2 hy3 rfl (by decide) (.slice A5 q.length c5) q.length _ rfl (hO5.out.alloc _) ⟨wr.heap.size, 0, none⟩ 1 1 [.int .i64 (j : Int)] rfl rfl (World.news_of_block (heap_alloc_new _ _)) (by simp [Value.oneCell']) (by decide) (by unfold maxLen; omega) (by omega) (by have := hB5.out.size; simp; omega) (wr.heap.size + 1) (by simp) ?_; intro g4 cap4 Z hown hgrow _ _; have HBZ := Lib.hid ((hB5.out.alloc hB5.out.size _).grown hgrow (by have := hB5.out.size; simp; omega) (fun k hk => (ownsRow_lt hO5.out hk).1)); have HOZ := Lib.hid hown; clear hown hgrow; have yr := cell_of ((HBZ.out.block _ (at_lt HRW.out)).trans HRW.out) (show (nxC n nx).toArray[j]? = some (.int .i64 (nx j)) by rw [List.getElem?_toArray]; exact nxC_at nx hj))
            go_roundw
            case rel => exact ⟨q ++ [j], nx j, rfl, HOK.out, HNX, HBZ, Lib.hid (by rw [List.length_append, elV_snoc]; exact HOZ.out)⟩
            case measure => simp only [intOf]; rw [HRA.out, List.length_cons]; omega
      · have HQ2 := Lib.hid (show ys.map (·.l) = chsP n nx (p + 1) by rw [hQ.out, chsP_in HBB.out])
        go_wp2_with (fail)
        go_roundw
        case rel => exact ⟨p + 1, ys, by omega, by go_num, hB, by omega, hO, HQ2⟩
        case measure => simp only [intOf]; omega
    · obtain rfl : p = n := by omega
      go_wp2_with (fail)
      go_ret
      have h1 := HB1.out.size
      exact ⟨_, ys, rfl, ⟨own_mono hO.out.1 h1, fun y hy => own_mono (hO.out.2 y hy) h1⟩, hQ.out, below_join HB1.out hB.out h1⟩
set_option maxHeartbeats 8000000 in
theorem c_Chains (A : Option Addr) (c : Nat) (xs : List LsV) (w : World) (h : LsAt w A c xs) : Calls Try.prog 39 #[.slice A xs.length c] w (LsTo w (rdN xs) (chsP xs.length (joinB xs.length (ordF xs) xs.length) xs.length)) := by
  have H := Lib.hid h
  obtain ⟨R, hR⟩ : ∃ R, R = LsTo w (rdN xs) (chsP xs.length (joinB xs.length (ordF xs) xs.length) xs.length) := ⟨_, rfl⟩
  rw [← hR]
  have HRR := Lib.hid hR
  clear hR h
  go_enter Try.func39, Try.ntmps39
  go_wp2_with (fail)
  go_at_call 48
  refine (c_read A c xs w H.out).mono ?_
  rintro e w1 ⟨⟨h0, rfl⟩ | ⟨h0, hl, hok, hno, g, rfl, hg, hblk⟩, b1⟩
  · have H0 := Lib.hid h0
    have K1 := Lib.hid b1
    have hne : (rdN xs != 0) = true := by simpa using h0
    have hd0 : (rdN xs == 0) = false := by simpa using h0
    clear h0 b1
    go_wp2_with (fail)
    rw [HRR.out]
    exact ⟨.inl ⟨H0.out, rfl⟩, K1.out⟩
  · have H0 := Lib.hid h0
    have K1 := Lib.hid b1
    have HC := Lib.hid (c_chains g xs.length (ordF xs) hl (ord_po hok hno) w1 hblk)
    clear h0 b1 hblk
    go_wp2_with (fail)
    go_at_call 68
    refine HC.out.mono ?_
    rintro e w2 ⟨v, ys, rfl, ho, hm, b2⟩
    have K2 := Lib.hid (below_join K1.out b2 K1.out.size)
    have HO := Lib.hid ho
    have HM := Lib.hid hm
    have hs1 := K1.out.size
    clear b2 ho hm
    go_wp2_with (fail)
    rw [HRR.out, H0.out]
    exact ⟨.inr ⟨rfl, _, ys, rfl, ⟨own_mono HO.out.1 hs1, fun y hy => own_mono (HO.out.2 y hy) hs1⟩, HM.out⟩, K2.out⟩
end Go.Proofs.Ytjheaeeeeggncaa

namespace Go.Proofs.Ytjheaeeeeggncaa
open Go.RowKit Go.Shelf
attribute [local go_sem] Oper.semAt_some
set_option maxRecDepth 100000
set_option linter.unusedVariables false
set_option linter.unusedSimpArgs false

set_option maxHeartbeats 2000000 in
theorem c_Clone (A : Option Addr) (c : Nat) (l : List Int) (hm : l.length ≤ 100000) (w : World) (h : Rv 1 inV w A c l) : Calls Try.prog 33 #[.slice A l.length c] w fun e w' => ∃ v', e = .returned v' ∧ w'.ownsRow w.heap.size 3 1 v' l.length (cellsV 1 inV l) ∧ Below w.heap.size w w' := by
  have H := Lib.hid h
  have h5 := h.2.2.1
  have h2 := h.1
  have hlt : 0 < l.length → ∀ ad, A = some ad → ad.block < w.heap.size := fun h0 ad hA => by
    obtain ⟨b, o, e, hb, -⟩ := h.2.2.2 h0
    rw [e] at hA; injection hA with hA; subst hA; exact hb
  have HLT := Lib.hid hlt
  clear h hlt
  obtain ⟨i0, hi0, hz0, hz1, hz2⟩ := info_parts int_info
  have q22 : ∀ (w : World) (a : Option Addr) (n c n' c' : Nat), (binOp .eql 33 (.slice a n c) (.slice none n' c')).run Try.prog w = .ok (.bool a.isNone) w := fun w a n c n' c' => Lib.run_eql_slice_nil w _ _ a n c n' c' Try.underlying33
  cases A with
  | none =>
    have hl : l = [] := List.eq_nil_of_length_eq_zero (by have := h5 rfl; omega)
    subst hl
    go_enter Try.func33, Try.ntmps33
    go_wp2
    go_ret
    exact ⟨_, rfl, World.ownsRow_nil _ _ _ _, Below.refl _ _⟩
  | some ad =>
    clear h5
    go_enter Try.func33, Try.ntmps33
    go_wp2_with (at_builtin; refine wpList_append_own _ rfl _ _ 33 rfl w.heap.size 3 i0 (.int .i64 0) 1 8 Try.underlying33 hi0 hz0 hz1 hz2 rfl (by omega) _ _ _ rfl (World.ownsRow_made w #[] 0 (Nat.le_refl _) (Nat.zero_le _) (by simp)) ad l.length c (cellsV 1 inV l) rfl ?qc1 ?qc2 ?qc3 ?qc4 ?qc5 ?qc6 ?_)
    case qc1 => exact cellsV_len l
    case qc2 =>
      intro j u hj
      have h0 := H.out.cells (by decide) ad rfl j u hj
      have hl0 : 0 < l.length := by
        have := (List.getElem?_eq_some_iff.1 hj).1
        rw [cellsV_len] at this; omega
      refine (World.cell?_alloc_lt w _ (ad.add j) ?_).trans h0
      have h1 := HLT.out hl0 ad rfl
      rw [show (ad.add j).block = ad.block by unfold Addr.add; split <;> simp_all]
      exact h1
    case qc3 => exact cellsV_one inV_one l
    case qc4 => unfold maxLen; omega
    case qc5 => omega
    case qc6 => simp
    intro v' w1 hown hgrow hnil
    have HO := Lib.hid hown
    have HB := Lib.hid (((Below.refl w.heap.size w).alloc (Nat.le_refl _) _).grown hgrow (by simp) (by intro k hk; simp [Value.ownBlock] at hk; omega))
    clear hown hgrow hnil
    go_wp2
    go_ret
    exact ⟨_, rfl, HO.out, HB.out⟩
end Go.Proofs.Ytjheaeeeeggncaa

namespace Go.Proofs.Ytjheaeeeeggncaa
open Go.RowKit Go.Shelf
attribute [local go_sem] Oper.semAt_some
set_option maxRecDepth 100000
set_option linter.unusedVariables false
set_option linter.unusedSimpArgs false

def cutX (xs : List LsV) : List (List Int) := (xs.take 13).map fun x => x.l.take 14
theorem cutX_next {xs : List LsV} {i : Nat} {x : LsV} (h : xs[i]? = some x) (hi : i < 13) : (xs.take (i + 1)).map (fun x => x.l.take 14) = (xs.take i).map (fun x => x.l.take 14) ++ [x.l.take 14] := by
  rw [List.take_add_one, h]; simp
set_option maxHeartbeats 16000000 in
theorem c_own (A : Option Addr) (c : Nat) (xs : List LsV) (w : World) (h : LsAt w A c xs) :
    Calls Try.prog 12 #[.slice A xs.length c] w fun e w' => ∃ v ys, e = .returned v ∧ OutL w.heap.size w' v ys ∧ ys.map (·.l) = cutX xs ∧ Below w.heap.size w w' := by
  have H := Lib.hid h
  have k1 := h.1.1; have k2 := h.1.2.1
  unfold maxLen at k2
  clear h
  obtain ⟨i1, hi1, hz1, hz2, hz3⟩ := info_parts li_info
  have hfm : Try.prog.follows Departure.mixedOrders = true := by kernel_rfl
  go_enter Try.func12, Try.ntmps12
  go_wp2_with (fail)
  go_loopw [3, 4] (fun v i wr => ∃ (k : Nat) (ys : List LsV), k ≤ xs.length ∧ k ≤ 13 ∧ i = .int .i64 (k : Int) ∧ Hid (Below w.heap.size w wr) ∧ ys.length = k ∧ Hid (OutL w.heap.size wr v ys) ∧ Hid (ys.map (·.l) = (xs.take k).map fun x => x.l.take 14)) (fun _ i _ => 13 - (intOf i).toNat)
  case atStart => exact ⟨0, [], Nat.zero_le _, by omega, rfl, Lib.hid (Below.refl _ _), rfl, Lib.hid ⟨World.ownsRow_nil _ _ _ _, fun y hy => by cases hy⟩, Lib.hid rfl⟩
  case round =>
    obtain ⟨k, ys, hk, hk13, rfl, hB, hyl, hO, hQ⟩ := hrel
    have hki : ((k : Nat) : Int).toNat = k := by omega
    have HYL := Lib.hid hyl
    obtain ⟨As, cs, rfl⟩ := own_shape hO.out.1
    have hy13 : ys.length ≤ 13 := by omega
    clear hyl
    by_cases hlt : k < xs.length
    · by_cases h13 : k < 13
      · have hkl : (k : Int) < ((xs.length : Nat) : Int) := by omega
        have hk3 : (k : Int) < 13 := by omega
        obtain ⟨x, hx⟩ : ∃ x, xs[k]? = some x := ⟨_, List.getElem?_eq_getElem hlt⟩
        obtain ⟨b, o, rfl, hbw, -⟩ := H.out.1.at_ hx
        have hcell := ls_at H.out.1 hx
        have HRX := Lib.hid (H.out.2 x (List.mem_of_getElem? hx))
        have HNX := Lib.hid (cutX_next hx h13)
        have hc1 := HRX.out.1; have hc2 := HRX.out.2.1
        unfold maxLen at hc2
        have HSS := Lib.hid (fun (X : World) (hX : Below w.heap.size w X) => (show X.cell? ⟨b, o + k, none⟩ = some (.slice x.A x.l.length x.c) from (hX.cell (p := ⟨b, o + k, none⟩) hbw).trans hcell))
        obtain ⟨lx, cx, l⟩ := x
        simp only at HSS HRX HNX hc1 hc2
        obtain ⟨m, hm⟩ : ∃ m, m = min l.length 14 := ⟨_, rfl⟩
        have hmn : (if (14 : Int) < ((l.length : Nat) : Int) then (14 : Int) else ((l.length : Nat) : Int)) = (m : Int) := by split <;> omega
        have hm1 : m ≤ l.length := by omega
        have hm14 : m ≤ 14 := by omega
        have hmc : m ≤ cx := by omega
        have HMT := Lib.hid (show l.take 14 = l.take m by
          rcases Nat.le_total l.length 14 with g | g
          · rw [hm, Nat.min_eq_left g, List.take_of_length_le g, List.take_of_length_le (Nat.le_refl _)]
          · rw [hm, Nat.min_eq_right g])
        have hlm : (l.take m).length = m := by rw [List.length_take]; omega
        clear hx hcell hm
        go_wp2_with (fail)
        refine region_zs (fun _ => false) (S := fun X => X.cell? ⟨b, o + k, none⟩ = some (.slice lx l.length cx)) hfm (HSS.out _ hB.out.drew) (fun hHeld => ?_)
        refine takeZs 0 (some 15) (by kernel_rfl) rfl rfl rfl (by kernel_rfl) (by kernel_rfl) (by kernel_rfl) (by kernel_rfl) (fun _ _ _ h => h) (by rfl) (by intro w g1; go_simp; try with_reducible rfl) hHeld ?_
        simp only [Act.put, List.setIfInBounds_toArray, List.set_cons_zero, List.set_cons_succ]
        refine takeZs 1 (some 16) (by kernel_rfl) rfl rfl rfl (by kernel_rfl) (by kernel_rfl) (by kernel_rfl) (by kernel_rfl) (fun _ _ _ h => h) (by rfl) (by intro w g1; go_simp; try with_reducible rfl) hHeld ?_
        simp only [Act.put, List.setIfInBounds_toArray, List.set_cons_zero, List.set_cons_succ]
        refine takeZs 2 (some 17) (by kernel_rfl) rfl rfl rfl (by kernel_rfl) (by kernel_rfl) (by kernel_rfl) (by kernel_rfl) (fun _ _ _ h => h) (by rfl) (by intro w g1; go_simp; try with_reducible rfl) hHeld ?_
        simp only [Act.put, List.setIfInBounds_toArray, List.set_cons_zero, List.set_cons_succ]
        refine takeZs 3 (some 18) (by kernel_rfl) rfl rfl rfl (by kernel_rfl) (by kernel_rfl) (by kernel_rfl) (by kernel_rfl) (fun _ _ _ h => h) (by rfl) (by intro w g1; go_simp; try with_reducible rfl) hHeld ?_
        simp only [Act.put, List.setIfInBounds_toArray, List.set_cons_zero, List.set_cons_succ]
        refine takeZs 4 (some 19) (by kernel_rfl) rfl rfl rfl (by kernel_rfl) (by kernel_rfl) (by kernel_rfl) (by kernel_rfl) (fun _ _ _ h => h) (by rfl) (by intro w g1; go_simp; try with_reducible rfl) hHeld ?_
        simp only [Act.put, List.setIfInBounds_toArray, List.set_cons_zero, List.set_cons_succ]
        refine takeZs 5 (some 20) (by kernel_rfl) rfl rfl rfl (by kernel_rfl) (by kernel_rfl) (by kernel_rfl) (by kernel_rfl) (fun _ _ _ h => h) (by rfl) (by intro w g1; go_simp; try with_reducible rfl) hHeld ?_
        simp only [Act.put, List.setIfInBounds_toArray, List.set_cons_zero, List.set_cons_succ]
        refine takeZs 6 (some 21) (by kernel_rfl) rfl rfl rfl (by kernel_rfl) (by kernel_rfl) (by kernel_rfl) (by kernel_rfl) (fun _ _ _ h => h) (by rfl) (by intro w g1; go_simp; try with_reducible rfl) hHeld ?_
        simp only [Act.put, List.setIfInBounds_toArray, List.set_cons_zero, List.set_cons_succ]
        refine takeZs 7 (some 22) (by kernel_rfl) rfl rfl rfl (by kernel_rfl) (by kernel_rfl) (by kernel_rfl) (by kernel_rfl) (fun _ _ _ h => h) (by rfl) (by intro w g1; go_simp; try with_reducible rfl) hHeld ?_
        simp only [Act.put, List.setIfInBounds_toArray, List.set_cons_zero, List.set_cons_succ]
        refine takeZs 8 (some 23) (by kernel_rfl) rfl rfl rfl (by kernel_rfl) (by kernel_rfl) (by kernel_rfl) (by kernel_rfl) (fun _ _ _ h => h) (by rfl) (by intro w g1; go_simp; try with_reducible rfl) hHeld ?_
        simp only [Act.put, List.setIfInBounds_toArray, List.set_cons_zero, List.set_cons_succ]
        refine takeZs 9 (some 24) (by kernel_rfl) rfl rfl rfl (by kernel_rfl) (by kernel_rfl) (by kernel_rfl) (by kernel_rfl) (fun _ _ _ h => h) (by rfl) (by intro w g1; go_simp; try with_reducible rfl) hHeld ?_
        simp only [Act.put, List.setIfInBounds_toArray, List.set_cons_zero, List.set_cons_succ]
        refine takeZs 10 (some 25) (by kernel_rfl) rfl rfl rfl (by kernel_rfl) (by kernel_rfl) (by kernel_rfl) (by kernel_rfl) (fun _ _ _ h => h) (by rfl) (by intro w g1; go_simp; try with_reducible rfl) hHeld ?_
        simp only [Act.put, List.setIfInBounds_toArray, List.set_cons_zero, List.set_cons_succ]
        try rw [hmn]
        refine takeZs 11 (some 26) (by kernel_rfl) rfl rfl rfl (by kernel_rfl) (by kernel_rfl) (by kernel_rfl) (by kernel_rfl) (fun _ _ _ h => h) (by rfl) (by intro w g1; go_simp; try with_reducible rfl) hHeld ?_
        simp only [Act.put, List.setIfInBounds_toArray, List.set_cons_zero, List.set_cons_succ]
        have HC := Lib.hid (c_Clone lx cx (l.take m) (by omega) wr.drew ((HRX.out.on hB.out.drew (Nat.le_refl _)).take m hm1))
        rw [hlm] at HC
        refine oneZs 12 rfl (by kernel_rfl) (fun K hK => ?_)
        go_simp
        go_at_call 33
        refine HC.out.mono ?_
        rintro e w3 ⟨v3, rfl, ho3, hb3⟩
        have hb3' : Below wr.heap.size wr w3 := (Below.refl _ _).drew.trans hb3
        obtain ⟨A3, c3, rfl⟩ := own_shape ho3
        have K3 := Lib.hid (below_join hB.out hb3' hB.out.size)
        have O3 := Lib.hid (hO.out.on hb3' (Nat.le_refl _))
        have Y3 := Lib.hid (show w3.ownsRow w.heap.size 3 1 (.slice A3 (l.take m).length c3) (l.take m).length (cellsV 1 inV (l.take m)) by rw [hlm]; exact own_mono ho3 hB.out.size)
        refine hK.out _ _ (.inr (HSS.out _ K3.out)) ?_
        clear hK K hHeld hb3 hb3' ho3
        try simp only [Act.put, List.setIfInBounds_toArray, List.set_cons_zero, List.set_cons_succ]
        obtain ⟨X1, hX1⟩ : ∃ X, X = w3.alloc (.cells #[.slice A3 m c3] 33) := ⟨_, rfl⟩
        have hz1' : X1.heap.size = w3.heap.size + 1 := by rw [hX1, World.size_alloc]
        have bX1 : Below w3.heap.size w3 X1 := by rw [hX1]; exact (Below.refl _ _).alloc (Nat.le_refl _) _
        have HN1 := Lib.hid (show X1.heap[w3.heap.size]? = some (.cells #[.slice A3 m c3] 33 (0, 0)) by rw [hX1]; exact heap_alloc_new _ _)
        have K4 := Lib.hid (below_join K3.out bX1 K3.out.size)
        have HE := Lib.hid (show X1 = w3.alloc (.cells #[.slice A3 (l.take m).length c3] 33) by rw [hlm]; exact hX1)
        have HOX := Lib.hid (own_on O3.out.1 bX1 (Nat.le_refl _))
        refine oneZs 13 rfl (by kernel_rfl) (fun K hK => ?_)
        go_simp
        rw [← hX1]
        refine hK.out _ _ (.inr (HSS.out _ K4.out)) ?_
        clear hK K bX1 hX1
        try simp only [Act.put, List.setIfInBounds_toArray, List.set_cons_zero, List.set_cons_succ]
        refine oneZs 14 rfl (by kernel_rfl) (fun K hK => ?_)
        refine step_append_lies _ rfl (.tmp 15) (.tmp 28) 22 rfl w.heap.size 33 i1 (.slice none 0 0) 1 24 Try.underlying22 hi1 hz1 hz2 hz3 rfl (by decide) (.slice As ys.length cs) ys.length _ (by simp [Act.eval, Act.put]) HOX.out ⟨w3.heap.size, 0, none⟩ 1 1 [.slice A3 m c3] (by simp [Act.eval, Act.put]) rfl (World.news_of_block HN1.out) (by simp [Value.oneCell']) (by decide) (by unfold maxLen; omega) (by omega) K4.out.size (w3.heap.size + 1) hz1' ?_
        intro g4 cap4 Z hown hgrow hat hlt5
        have HBZ := Lib.hid (K4.out.grown hgrow K4.out.size (fun q e => (ownsRow_lt HOX.out e).1))
        have HOZ := Lib.hid (O3.out.push ⟨A3, c3, l.take m⟩ Y3.out (by rw [hlm]; exact hown) (by rw [← HE.out]; exact hgrow))
        refine hK.out _ _ (.inr (HSS.out _ HBZ.out)) ?_
        clear hK K hown hgrow hat
        try simp only [Act.put, List.setIfInBounds_toArray, List.set_cons_zero, List.set_cons_succ]
        have hHeld := HSS.out _ HBZ.out
        refine takeZs 15 (some 3) (by kernel_rfl) rfl rfl rfl (by kernel_rfl) (by kernel_rfl) (by kernel_rfl) (by kernel_rfl) (fun _ _ _ h => h) (by rfl) (by intro w g1; go_simp; try with_reducible rfl) hHeld ?_
        simp only [Act.put, List.setIfInBounds_toArray, List.set_cons_zero, List.set_cons_succ]
        refine doneZs (by kernel_rfl) ?_ _
        clear hHeld
        go_wp2_with (fail)
        go_roundw
        case rel => exact ⟨k + 1, ys ++ [⟨A3, c3, l.take m⟩], by omega, by omega, by go_num, HBZ, by rw [List.length_append, HYL.out]; rfl, Lib.hid (by simpa using HOZ.out), Lib.hid (by rw [List.map_append, hQ.out, HNX.out, HMT.out]; rfl)⟩
        case measure => simp only [intOf]; omega
      · obtain rfl : k = 13 := by omega
        go_wp2_with (fail)
        go_ret
        exact ⟨_, ys, rfl, hO.out, hQ.out, hB.out⟩
    · obtain rfl : k = xs.length := by omega
      go_wp2_with (fail)
      go_ret
      exact ⟨_, ys, rfl, hO.out, by rw [hQ.out, List.take_of_length_le (Nat.le_refl _)]; unfold cutX; rw [List.take_of_length_le hk13], hB.out⟩
end Go.Proofs.Ytjheaeeeeggncaa

namespace Go.Proofs.Ytjheaeeeeggncaa
open Go.RowKit Go.Shelf
attribute [local go_sem] Oper.semAt_some
set_option maxRecDepth 100000
set_option linter.unusedVariables false
set_option linter.unusedSimpArgs false

/-- Lists alone. -/
abbrev SameL (xs ys : List LsV) : Prop := xs.map (·.l) = ys.map (·.l)
section
variable {xs ys : List LsV}
theorem SameL.len (h : SameL xs ys) : xs.length = ys.length := by have := congrArg List.length h; simpa using this
theorem SameL.at_ (h : SameL xs ys) (j : Nat) : (xs[j]?).map (·.l) = (ys[j]?).map (·.l) := by
  have := congrArg (·[j]?) h
  simpa using this
theorem SameL.lAt (h : SameL xs ys) (j : Nat) : lAt xs j = lAt ys j := by
  have := h.at_ j
  unfold Go.Proofs.Ytjheaeeeeggncaa.lAt
  cases hx : xs[j]? <;> cases hy : ys[j]? <;> rw [hx, hy] at this <;> simp at this ⊢
  exact this
theorem SameL.dirA (h : SameL xs ys) : dirA xs = dirA ys := funext fun j => by unfold Go.Proofs.Ytjheaeeeeggncaa.dirA; rw [h.lAt]
theorem SameL.ordF (h : SameL xs ys) : ordF xs = ordF ys := by unfold Go.Proofs.Ytjheaeeeeggncaa.ordF; rw [h.dirA, h.len]
theorem SameL.loop (h : SameL xs ys) : Loop xs ↔ Loop ys := by unfold Loop; rw [h.ordF, h.len]
theorem SameL.nm (h : SameL xs ys) : NmOk xs ↔ NmOk ys := by
  have key : ∀ {xs ys : List LsV}, SameL xs ys → NmOk xs → NmOk ys := fun {xs ys} h hn o y hy i hi => by
    have h1 := h.at_ o
    rw [hy] at h1
    cases hx : xs[o]? with
    | none => rw [hx] at h1; simp at h1
    | some x =>
      rw [hx] at h1
      simp at h1
      have := hn o x hx i (by rw [h1]; exact hi)
      rwa [h.len] at this
  exact ⟨key h, key h.symm⟩
theorem SameL.dis (h : SameL xs ys) : xs.any (fun x => disB x.l) = ys.any fun x => disB x.l := by
  have : ∀ l : List LsV, l.any (fun x => disB x.l) = (l.map (·.l)).any disB := fun l => by rw [List.any_map]; rfl
  rw [this, this]; exact congrArg (·.any disB) h
theorem SameL.rd (h : SameL xs ys) : rdN xs = rdN ys := by
  unfold rdN
  rw [h.len, h.dis]
  by_cases h1 : NmOk ys
  · by_cases h2 : Loop ys
    · simp [h.nm, h.loop, h1, h2]
    · simp [h.nm, h.loop, h1, h2]
  · simp [h.nm, h1]
end
/-- The sample, as lists alone. -/
def smpX : List LsV := [⟨none, 0, []⟩, ⟨none, 0, []⟩, ⟨none, 0, [0, 1]⟩, ⟨none, 0, [1, 2]⟩]
theorem smp_nm : NmOk smpX := fun o x hx i hi => by
  match o, hx with
  | 0, hx => simp [smpX] at hx; subst hx; cases hi
  | 1, hx => simp [smpX] at hx; subst hx; cases hi
  | 2, hx => simp [smpX] at hx; subst hx; simp at hi; rcases hi with rfl | rfl <;> decide
  | 3, hx => simp [smpX] at hx; subst hx; simp at hi; rcases hi with rfl | rfl <;> decide
theorem smp_ord : ∀ j, j < 4 → ordF smpX j = [0, 0, 3, 7].getD j 0 := by decide +kernel
theorem smp_loop : ¬ Loop smpX := by
  rintro ⟨i, hi, h⟩
  have hi : i < 4 := hi
  rw [smp_ord i hi] at h
  match i, hi with
  | 0, _ => simp at h
  | 1, _ => simp at h
  | 2, _ => revert h; decide
  | 3, _ => revert h; decide
theorem smp_rd : rdN smpX = 0 := by
  unfold rdN
  rw [if_neg (by decide +kernel), if_neg (fun h => h smp_nm), if_neg smp_loop]
theorem smp_sets : setsL (ordF smpX) 4 = [[], [], [0, 1], [0, 1, 2]] := by decide +kernel
theorem smp_chains : (chsP 4 (joinB 4 (ordF smpX) 4) 4).length = 2 := by decide +kernel
theorem smp_wys : wys 4 (ordF smpX) 0 = 2 := by decide +kernel
theorem smp_nth : nthL 4 (ordF smpX) 4 0 1 = [1, 0, 2, 3] := by decide +kernel
theorem smp_rank : rkL 4 (ordF smpX) [1, 0, 2, 3] 0 0 = some 1 := by decide +kernel
end Go.Proofs.Ytjheaeeeeggncaa

namespace Go.Proofs.Ytjheaeeeeggncaa
open Go.RowKit Go.Shelf
attribute [local go_sem] Oper.semAt_some
set_option maxRecDepth 100000
set_option linter.unusedVariables false
set_option linter.unusedSimpArgs false

theorem smp_ideals : idL (ordF smpX) 16 = [0, 1, 2, 3, 7, 15] := by decide +kernel
theorem smp_enabled : enL 4 (ordF smpX) 2 = [0] := by decide +kernel
theorem smp_reduced : setsL (dirS (ordF smpX)) 4 = [[], [], [0, 1], [2]] := by decide +kernel
theorem smp_is : idB (ordF smpX) 7 = true := by decide +kernel
theorem smp_is2 : idB (ordF smpX) 2 = true := by decide +kernel
theorem smp_wyI : wyI 4 (ordF smpX) 0 = 2 := by decide +kernel
theorem smp_po : Po 4 (ordF smpX) := ord_po smp_nm smp_loop
theorem smp_wide : Wide 4 (ordF smpX) 2 := by
  have h := wide_idL (by decide : 4 ≤ 12) smp_po
  rwa [show wideL 4 (ordF smpX) (idL (ordF smpX) (2 ^ 4)) = 2 by decide +kernel] at h
theorem smp_high : High 4 (ordF smpX) 3 := high_of smp_po (fun i hi => by
    match i, hi with
    | 0, _ => decide +kernel
    | 1, _ => decide +kernel
    | 2, _ => decide +kernel
    | 3, _ => decide +kernel) (.inr ⟨3, by decide, by decide +kernel⟩)
theorem smp_ask {x : Int} (h : 0 ≤ x ∧ x < 16) : askN smpX x = 0 := by unfold askN; rw [if_neg (by simp [smp_rd]), if_pos (show 0 ≤ x ∧ x < ((2 ^ smpX.length : Nat) : Int) from h)]
theorem smp_isA : isA smpX 7 = true := by unfold isA; rw [if_pos (smp_ask (by decide))]; exact smp_is
theorem smp_enN : enN smpX 2 = 0 := by unfold enN; rw [if_pos (smp_ask (by decide)), show Int.toNat 2 = 2 from rfl, if_pos smp_is2]
theorem smp_ntN : ntN smpX 1 = 0 := nt_in smp_rd (by show (0 : Int) ≤ 1 ∧ (1 : Int) < ((wys 4 (ordF smpX) 0 : Nat) : Int); rw [smp_wys]; decide)
theorem smp_rkN : rkN smpX [1, 0, 2, 3] = 0 := by
  unfold rkN
  rw [if_neg (by simp [smp_rd]), if_pos ⟨rfl, by show (rkL 4 (ordF smpX) [1, 0, 2, 3] 0 0).isSome = true; rw [smp_rank]; rfl⟩]
set_option maxHeartbeats 4000000 in
theorem c_sample (w : World) : Calls Try.prog 47 #[] w fun e w' => ∃ A c xs, e = .returned (.slice A 4 c) ∧ xs.length = 4 ∧ SameL xs smpX ∧ LsAt w' A c xs ∧ Below w.heap.size w w' := by
  go_enter Try.func47, Try.ntmps47
  go_wp2_with (fail)
  go_ret
  obtain ⟨W1, h1⟩ : ∃ W, W = w.alloc (.cells #[.int .i64 0, .int .i64 1] 3) := ⟨_, rfl⟩
  obtain ⟨W2, h2⟩ : ∃ W, W = W1.alloc (.cells #[.int .i64 1, .int .i64 2] 3) := ⟨_, rfl⟩
  obtain ⟨W3, h3⟩ : ∃ W, W = W2.alloc (.cells #[.slice none 0 0, .slice none 0 0, .slice (some ⟨w.heap.size, 0, none⟩) 2 2, .slice (some ⟨w.heap.size + 1, 0, none⟩) 2 2] 33) := ⟨_, rfl⟩
  obtain ⟨hb2, k1, k2, hz2⟩ := two_boxes h1 h2
  have b3 : Below W2.heap.size W2 W3 := by rw [h3]; exact (Below.refl _ _).alloc (Nat.le_refl _) _
  have k3 : W3.heap[w.heap.size + 1 + 1]? = some (.cells #[.slice none 0 0, .slice none 0 0, .slice (some ⟨w.heap.size, 0, none⟩) 2 2, .slice (some ⟨w.heap.size + 1, 0, none⟩) 2 2] 33 (0, 0)) := by rw [← hz2, h3]; exact heap_alloc_new _ _
  have j1 := (b3.block _ (at_lt k1)).trans k1
  have j2 := (b3.block _ (at_lt k2)).trans k2
  rw [← h1, ← h2, ← h3]
  refine ⟨some ⟨w.heap.size + 1 + 1, 0, none⟩, 4, [⟨none, 0, []⟩, ⟨none, 0, []⟩, ⟨some ⟨w.heap.size, 0, none⟩, 2, [0, 1]⟩, ⟨some ⟨w.heap.size + 1, 0, none⟩, 2, [1, 2]⟩], rfl, rfl, rfl, ⟨rv_block (l := [(⟨none, 0, []⟩ : LsV), ⟨none, 0, []⟩, ⟨some ⟨w.heap.size, 0, none⟩, 2, [0, 1]⟩, ⟨some ⟨w.heap.size + 1, 0, none⟩, 2, [1, 2]⟩]) k3 (by unfold maxLen; simp), fun x hx => ?_⟩, hb2.trans (b3.mono (by omega))⟩
  simp only [List.mem_cons, List.not_mem_nil, or_false] at hx
  rcases hx with rfl | rfl | rfl | rfl
  · exact Rv.nil _
  · exact Rv.nil _
  · exact rv_block (l := [(0 : Int), 1]) j1 (by unfold maxLen; simp)
  · exact rv_block (l := [(1 : Int), 2]) j2 (by unfold maxLen; simp)
end Go.Proofs.Ytjheaeeeeggncaa

namespace Go.Proofs.Ytjheaeeeeggncaa
open Go.RowKit Go.Shelf
attribute [local go_sem] Oper.semAt_some
set_option maxRecDepth 100000
set_option linter.unusedVariables false
set_option linter.unusedSimpArgs false

theorem ls_same {w : World} {v : Value} {ys : List LsV} {base : Nat} (h : OutL base w v ys) {L : List (List Int)} (hm : ys.map (·.l) = L) : ∃ A c, v = .slice A L.length c ∧ ys.length = L.length ∧ LsAt w A c ys := by
  obtain ⟨A, c, e, hl⟩ := h.ls
  have hn : ys.length = L.length := by rw [← hm, List.length_map]
  exact ⟨A, c, by rw [e, hn], hn, hl⟩
section
variable {xs ys : List LsV}
theorem SameL.ask (h : SameL xs ys) (x : Int) : askN xs x = askN ys x := by unfold askN; rw [h.rd, h.len]
theorem SameL.is (h : SameL xs ys) (x : Int) : isA xs x = isA ys x := by unfold isA; rw [h.ask, h.ordF]
theorem SameL.en (h : SameL xs ys) (x : Int) : enN xs x = enN ys x := by unfold enN; rw [h.ask, h.ordF]
theorem SameL.nt (h : SameL xs ys) (x : Int) : ntN xs x = ntN ys x := by unfold ntN; rw [h.rd, h.len, h.ordF]
theorem SameL.rk (h : SameL xs ys) (l : List Int) : rkN xs l = rkN ys l := by unfold rkN; rw [h.rd, h.len, h.ordF]
end
/-- Two lists that go in a circle. -/
def badX : List LsV := [⟨none, 0, [1]⟩, ⟨none, 0, [0]⟩]
theorem bad_nm : NmOk badX := fun o x hx i hi => by
  match o, hx with
  | 0, hx => simp [badX] at hx; subst hx; simp at hi; subst hi; decide
  | 1, hx => simp [badX] at hx; subst hx; simp at hi; subst hi; decide
theorem bad_rd : rdN badX = 12 := by
  unfold rdN
  rw [if_neg (by decide +kernel), if_neg (fun h => h bad_nm), if_pos ⟨0, by decide, by decide +kernel⟩]
/-- A literal of lists. -/
theorem ls_lit {X : World} {b : Nat} {ys : List LsV} (h : X.heap[b]? = some (.cells (cellsV 1 lsV ys).toArray 33 (0, 0))) (hl : ys.length ≤ maxLen) (hy : ∀ y ∈ ys, Rv 1 inV X y.A y.c y.l) : LsAt X (some ⟨b, 0, none⟩) ys.length ys := ⟨rv_block h hl, hy⟩
theorem lit4 {W : World} {l m : List Int} {cl cm : Array Value} {nl nm : Nat} (hcl : cl = (cellsV 1 inV l).toArray) (hcm : cm = (cellsV 1 inV m).toArray) (hnl : nl = l.length) (hnm : nm = m.length) (h1 : l.length ≤ 10) (h2 : m.length ≤ 10) :
    LsAt (((W.alloc (.cells cl 3)).alloc (.cells cm 3)).alloc (.cells #[.slice none 0 0, .slice none 0 0, .slice (some ⟨W.heap.size, 0, none⟩) nl nl, .slice (some ⟨W.heap.size + 1, 0, none⟩) nm nm] 33)) (some ⟨W.heap.size + 1 + 1, 0, none⟩) 4 [⟨none, 0, []⟩, ⟨none, 0, []⟩, ⟨some ⟨W.heap.size, 0, none⟩, nl, l⟩, ⟨some ⟨W.heap.size + 1, 0, none⟩, nm, m⟩] ∧
    Below W.heap.size W (((W.alloc (.cells cl 3)).alloc (.cells cm 3)).alloc (.cells #[.slice none 0 0, .slice none 0 0, .slice (some ⟨W.heap.size, 0, none⟩) nl nl, .slice (some ⟨W.heap.size + 1, 0, none⟩) nm nm] 33)) := by
  subst hcl hcm hnl hnm
  obtain ⟨X1, q1⟩ : ∃ X, X = W.alloc (.cells (cellsV 1 inV l).toArray 3) := ⟨_, rfl⟩
  obtain ⟨X2, q2⟩ : ∃ X, X = X1.alloc (.cells (cellsV 1 inV m).toArray 3) := ⟨_, rfl⟩
  obtain ⟨X3, q3⟩ : ∃ X, X = X2.alloc (.cells #[.slice none 0 0, .slice none 0 0, .slice (some ⟨W.heap.size, 0, none⟩) l.length l.length, .slice (some ⟨W.heap.size + 1, 0, none⟩) m.length m.length] 33) := ⟨_, rfl⟩
  rw [← q1, ← q2, ← q3]
  obtain ⟨hb2, k1, k2, hz2⟩ := two_boxes q1 q2
  have b3 : Below X2.heap.size X2 X3 := by rw [q3]; exact (Below.refl _ _).alloc (Nat.le_refl _) _
  have k3 : X3.heap[W.heap.size + 1 + 1]? = some (.cells #[.slice none 0 0, .slice none 0 0, .slice (some ⟨W.heap.size, 0, none⟩) l.length l.length, .slice (some ⟨W.heap.size + 1, 0, none⟩) m.length m.length] 33 (0, 0)) := by rw [← hz2, q3]; exact heap_alloc_new _ _
  refine ⟨ls_lit (ys := [⟨none, 0, []⟩, ⟨none, 0, []⟩, ⟨some ⟨W.heap.size, 0, none⟩, l.length, l⟩, ⟨some ⟨W.heap.size + 1, 0, none⟩, m.length, m⟩]) k3 (by unfold maxLen; simp) (fun y hy => ?_), hb2.trans (b3.mono (by omega))⟩
  simp only [List.mem_cons, List.not_mem_nil, or_false] at hy
  rcases hy with rfl | rfl | rfl | rfl
  · exact Rv.nil _
  · exact Rv.nil _
  · exact rv_block (l := l) ((b3.block _ (at_lt k1)).trans k1) (by unfold maxLen; omega)
  · exact rv_block (l := m) ((b3.block _ (at_lt k2)).trans k2) (by unfold maxLen; omega)
theorem lit1 {W : World} {l : List Int} {cl : Array Value} (hcl : cl = (cellsV 1 inV l).toArray) (h1 : l.length ≤ 10) : Rv 1 inV (W.alloc (.cells cl 3)) (some ⟨W.heap.size, 0, none⟩) l.length l ∧ Below W.heap.size W (W.alloc (.cells cl 3)) := by
  subst hcl
  exact ⟨rv_block (heap_alloc_new _ _) (by unfold maxLen; omega), (Below.refl _ _).alloc (Nat.le_refl _) _⟩
theorem nm_own {w : World} {b : Nat} {v : Value} {L : List Nat} {M : List Int} (h : w.ownsRow b 3 1 v L.length (elV L)) (hM : intsN L = M) : ∃ A c, v = .slice A M.length c ∧ Rv 1 inV w A c M := by
  rw [elV_ints, ← intsN_len L, hM] at h
  exact own_rv h
set_option maxHeartbeats 16000000 in
theorem c_works (w : World) : Calls Try.prog 20 #[] w fun e w' => e = .returned (.bool true) ∧ Below w.heap.size w w' := by
  have HS := Lib.hid (c_sample w)
  have hfm : Try.prog.follows Departure.mixedOrders = true := by kernel_rfl
  go_enter Try.func20, Try.ntmps20
  go_wp2_with (fail)
  go_at_call 47
  refine HS.out.mono ?_
  rintro e w1 ⟨A, c, xs, rfl, hl, hsm, hls, b1⟩
  have HB1 := Lib.hid b1
  have HLS := Lib.hid hls
  have HSM := Lib.hid hsm
  have HLN := Lib.hid hl
  have hrd : rdN xs = 0 := by rw [hsm.rd]; exact smp_rd
  have HRD := Lib.hid hrd
  have HC := Lib.hid (fun (X : World) (hX : LsAt X A c xs) => (show Calls Try.prog 13 #[.slice A 4 c] X (LsTo X 0 [[], [], [0, 1], [0, 1, 2]]) from by
    have h0 := c_Closure A c xs X hX
    rw [hl, hrd, hsm.ordF, smp_sets] at h0; exact h0))
  have HR := Lib.hid (fun (X : World) (hX : LsAt X A c xs) => (show Calls Try.prog 15 #[.slice A 4 c] X (LsTo X 0 [[], [], [0, 1], [2]]) from by
    have h0 := c_Reduce A c xs X hX
    rw [hl, hrd, hsm.ordF, smp_reduced] at h0; exact h0))
  have HI := Lib.hid (fun (X : World) (hX : LsAt X A c xs) => (show Calls Try.prog 23 #[.slice A 4 c] X (NmTo X 0 [0, 1, 2, 3, 7, 15]) from by
    have h0 := c_Ideals A c xs X hX
    rw [hl, hrd, hsm.ordF, show 2 ^ 4 = 16 from rfl, smp_ideals] at h0; exact h0))
  have HE := Lib.hid (fun (X : World) (hX : LsAt X A c xs) => (show Calls Try.prog 26 #[.slice A 4 c, .int .i64 2] X (NmTo X 0 [0]) from by
    have h0 := c_Enabled A c xs 2 X hX
    rw [hl, hsm.en, smp_enN, hsm.ordF, show Int.toNat 2 = 2 from rfl, smp_enabled] at h0; exact h0))
  have HIS := Lib.hid (fun (X : World) (hX : LsAt X A c xs) => (show Calls Try.prog 21 #[.slice A 4 c, .int .i64 7] X (fun e w' => e = .returned (.tuple #[.bool true, .int .i64 0]) ∧ Below X.heap.size X w') from by
    have h0 := c_IsIdeal A c xs 7 X hX
    rw [hl, hsm.is, smp_isA, hsm.ask, smp_ask (by decide)] at h0; exact h0))
  have HCN := Lib.hid (fun (X : World) (hX : LsAt X A c xs) => (show Calls Try.prog 28 #[.slice A 4 c] X (HwTo X 0 (fun k => k = 2)) from by
    have h0 := c_Count A c xs X hX
    rw [hl, hrd, hsm.ordF, smp_wyI] at h0; exact h0))
  have HN := Lib.hid (fun (X : World) (hX : LsAt X A c xs) => (show Calls Try.prog 30 #[.slice A 4 c, .int .i64 1] X (NmTo X 0 [1, 0, 2, 3]) from by
    have h0 := c_Nth A c xs 1 X hX
    rw [hl, hsm.nt, smp_ntN, hsm.ordF, show Int.toNat 1 = 1 from rfl, smp_nth] at h0; exact h0))
  have HRK := Lib.hid (fun (B : Option Addr) (d : Nat) (X : World) (hX : LsAt X A c xs) (h2 : Rv 1 inV X B d [1, 0, 2, 3]) => (show Calls Try.prog 32 #[.slice A 4 c, .slice B 4 d] X (HwTo X 0 (fun k => k = 1)) from by
    have h0 := c_Rank A c xs B d [1, 0, 2, 3] X hX h2
    rw [hl, hsm.rk, smp_rkN, hsm.ordF] at h0
    refine h0.mono fun e w' ⟨h1, h2⟩ => ⟨h1.imp (fun h => h) (fun ⟨a, k, b, d⟩ => ⟨a, k, b, ?_⟩), h2⟩
    have d : rkL 4 (ordF smpX) [1, 0, 2, 3] 0 0 = some k := d
    rw [smp_rank] at d; injection d with d; exact d.symm))
  have HH := Lib.hid (fun (X : World) (hX : LsAt X A c xs) => (show Calls Try.prog 35 #[.slice A 4 c] X (HwTo X 0 (fun k => k = 3)) from by
    have h0 := c_Height A c xs X hX
    rw [hl, hrd, hsm.ordF] at h0
    exact h0.mono fun e w' ⟨h1, h2⟩ => ⟨h1.imp (fun h => h) (fun ⟨a, k, b, d⟩ => ⟨a, k, b, High.uniq d smp_high⟩), h2⟩))
  have HWD := Lib.hid (fun (X : World) (hX : LsAt X A c xs) => (show Calls Try.prog 37 #[.slice A 4 c] X (HwTo X 0 (fun k => k = 2)) from by
    have h0 := c_Width A c xs X hX
    rw [hl, hrd, hsm.ordF] at h0
    exact h0.mono fun e w' ⟨h1, h2⟩ => ⟨h1.imp (fun h => h) (fun ⟨a, k, b, d⟩ => ⟨a, k, b, Wide.uniq d smp_wide⟩), h2⟩))
  have HCH := Lib.hid (fun (X : World) (hX : LsAt X A c xs) => (show Calls Try.prog 39 #[.slice A 4 c] X (LsTo X 0 (chsP 4 (joinB 4 (ordF smpX) 4) 4)) from by
    have h0 := c_Chains A c xs X hX
    rw [hl, hrd, hsm.ordF] at h0; exact h0))
  clear hls hl hsm hrd b1
  go_wp2_with (fail)
  go_at_call 13
  refine (HC.out w1 HLS.out).mono ?_
  rintro e w2 ⟨⟨h, -⟩ | ⟨-, v2, ys2, rfl, ho2, hm2⟩, b2⟩
  · exact absurd rfl h
  obtain ⟨A2, c2, rfl, hy2, hl2⟩ := ls_same ho2 hm2
  have HB2 := Lib.hid (below_join HB1.out b2 HB1.out.size)
  have HL2 := Lib.hid hl2
  have HM2 := Lib.hid hm2
  have HY2 := Lib.hid hy2
  have HLS2 := Lib.hid (HLS.out.on b2 (Nat.le_refl _))
  clear ho2 hm2 hl2 b2 hy2
  simp only [List.length_cons, List.length_nil]
  go_wp2_with (fail)
  go_at_call 15
  refine (HR.out w2 HLS2.out).mono ?_
  rintro e w3 ⟨⟨h, -⟩ | ⟨-, v3, ys3, rfl, ho3, hm3⟩, b3⟩
  · exact absurd rfl h
  obtain ⟨A3, c3, rfl, hy3, hl3⟩ := ls_same ho3 hm3
  have HB3 := Lib.hid (below_join HB2.out b3 HB2.out.size)
  have HL3 := Lib.hid hl3
  have HM3 := Lib.hid hm3
  have HY3 := Lib.hid hy3
  have HLS3 := Lib.hid (HLS2.out.on b3 (Nat.le_refl _))
  have HL23 := Lib.hid (HL2.out.on b3 (Nat.le_refl _))
  clear ho3 hm3 hl3 b3 hy3
  simp only [List.length_cons, List.length_nil]
  go_wp2_with (fail)
  obtain ⟨X1, q1⟩ : ∃ X, X = w3.alloc (.cells #[.int .i64 1] 3) := ⟨_, rfl⟩
  obtain ⟨X2, q2⟩ : ∃ X, X = X1.alloc (.cells #[.int .i64 0] 3) := ⟨_, rfl⟩
  obtain ⟨X3, q3⟩ : ∃ X, X = X2.alloc (.cells #[.slice (some ⟨w3.heap.size, 0, none⟩) 1 1, .slice (some ⟨w3.heap.size + 1, 0, none⟩) 1 1] 33) := ⟨_, rfl⟩
  rw [← q1, ← q2, ← q3]
  obtain ⟨hb2, k1, k2, hz2⟩ := two_boxes q1 q2
  have b3 : Below X2.heap.size X2 X3 := by rw [q3]; exact (Below.refl _ _).alloc (Nat.le_refl _) _
  have k3 : X3.heap[w3.heap.size + 1 + 1]? = some (.cells #[.slice (some ⟨w3.heap.size, 0, none⟩) 1 1, .slice (some ⟨w3.heap.size + 1, 0, none⟩) 1 1] 33 (0, 0)) := by rw [← hz2, q3]; exact heap_alloc_new _ _
  have j1 := (b3.block _ (at_lt k1)).trans k1
  have j2 := (b3.block _ (at_lt k2)).trans k2
  have HV := Lib.hid (show Calls Try.prog 18 #[.slice (some ⟨w3.heap.size + 1 + 1, 0, none⟩) 2 2] X3 (fun e w' => e = .returned (.int .i64 12) ∧ Below X3.heap.size X3 w') from by
    have h0 := c_orValid (some ⟨w3.heap.size + 1 + 1, 0, none⟩) 2 [⟨some ⟨w3.heap.size, 0, none⟩, 1, [1]⟩, ⟨some ⟨w3.heap.size + 1, 0, none⟩, 1, [0]⟩] X3 (ls_lit (ys := [⟨some ⟨w3.heap.size, 0, none⟩, 1, [1]⟩, ⟨some ⟨w3.heap.size + 1, 0, none⟩, 1, [0]⟩]) k3 (by unfold maxLen; simp) (fun y hy => by
      simp only [List.mem_cons, List.not_mem_nil, or_false] at hy
      rcases hy with rfl | rfl
      · exact rv_block (l := [(1 : Int)]) j1 (by unfold maxLen; simp)
      · exact rv_block (l := [(0 : Int)]) j2 (by unfold maxLen; simp)))
    rw [show rdN [⟨some ⟨w3.heap.size, 0, none⟩, 1, [1]⟩, ⟨some ⟨w3.heap.size + 1, 0, none⟩, 1, [0]⟩] = 12 from (SameL.rd (xs := [⟨some ⟨w3.heap.size, 0, none⟩, 1, [1]⟩, ⟨some ⟨w3.heap.size + 1, 0, none⟩, 1, [0]⟩]) (ys := badX) rfl).trans bad_rd] at h0
    exact h0)
  have BX := hb2.trans (b3.mono (by omega))
  have HBX := Lib.hid (below_join HB3.out BX HB3.out.size)
  have HLX := Lib.hid (HLS3.out.on BX (Nat.le_refl _))
  have HL2X := Lib.hid (HL23.out.on BX (Nat.le_refl _))
  have HL3X := Lib.hid (HL3.out.on BX (Nat.le_refl _))
  clear q1 q2 q3 hb2 k1 k2 hz2 b3 k3 j1 j2 BX
  go_at_call 18
  refine HV.out.mono ?_
  rintro e w4 ⟨rfl, b4⟩
  have HB4 := Lib.hid (below_join HBX.out b4 HBX.out.size)
  have HL4 := Lib.hid (HLX.out.on b4 (Nat.le_refl _))
  have HL24 := Lib.hid (HL2X.out.on b4 (Nat.le_refl _))
  have HL34 := Lib.hid (HL3X.out.on b4 (Nat.le_refl _))
  clear b4
  go_wp2_with (fail)
  obtain ⟨hq, hbq⟩ := lit4 (W := w4) (l := [0, 1]) (m := [0, 1, 2]) (cl := #[.int .i64 0, .int .i64 1]) (cm := #[.int .i64 0, .int .i64 1, .int .i64 2]) rfl rfl rfl rfl (by decide) (by decide)
  have h0 := c_same A2 c2 ys2 _ 4 _ true (by rw [decide_eq_true_iff]; exact HM2.out) _ (HL24.out.on hbq (Nat.le_refl _)) hq
  rw [HY2.out] at h0
  go_at_call 17
  refine h0.mono ?_
  clear h0
  rintro e w5 ⟨rfl, b5⟩
  have b5' := below_join hbq b5 hbq.size
  have HB5 := Lib.hid (below_join HB4.out b5' HB4.out.size)
  have HL5 := Lib.hid (HL4.out.on b5' (Nat.le_refl _))
  have HL35 := Lib.hid (HL34.out.on b5' (Nat.le_refl _))
  clear b5 b5' hq hbq
  go_wp2_with (fail)
  obtain ⟨hq, hbq⟩ := lit4 (W := w5) (l := [0, 1]) (m := [2]) (cl := #[.int .i64 0, .int .i64 1]) (cm := #[.int .i64 2]) rfl rfl rfl rfl (by decide) (by decide)
  have h0 := c_same A3 c3 ys3 _ 4 _ true (by rw [decide_eq_true_iff]; exact HM3.out) _ (HL35.out.on hbq (Nat.le_refl _)) hq
  rw [HY3.out] at h0
  go_at_call 17
  refine h0.mono ?_
  clear h0
  rintro e w6 ⟨rfl, b6⟩
  have b6' := below_join hbq b6 hbq.size
  have HB6 := Lib.hid (below_join HB5.out b6' HB5.out.size)
  have HL6 := Lib.hid (HL5.out.on b6' (Nat.le_refl _))
  clear b6 b6' hq hbq
  go_wp2_with (fail)
  go_at_call 23
  refine (HI.out w6 HL6.out).mono ?_
  rintro e w7 ⟨⟨h, -⟩ | ⟨-, v, rfl, ho⟩, b7⟩
  · exact absurd rfl h
  obtain ⟨A7, c7, rfl, hr7⟩ := nm_own ho (M := [0, 1, 2, 3, 7, 15]) rfl
  have HR7 := Lib.hid hr7
  have HB7 := Lib.hid (below_join HB6.out b7 HB6.out.size)
  have HL7 := Lib.hid (HL6.out.on b7 (Nat.le_refl _))
  clear ho b7 hr7
  simp only [List.length_cons, List.length_nil]
  go_wp2_with (fail)
  go_at_call 26
  refine (HE.out w7 HL7.out).mono ?_
  rintro e w8 ⟨⟨h, -⟩ | ⟨-, v, rfl, ho⟩, b8⟩
  · exact absurd rfl h
  obtain ⟨A8, c8, rfl, hr8⟩ := nm_own ho (M := [0]) rfl
  have HR8 := Lib.hid hr8
  have HR78 := Lib.hid (HR7.out.on b8 (Nat.le_refl _))
  have HB8 := Lib.hid (below_join HB7.out b8 HB7.out.size)
  have HL8 := Lib.hid (HL7.out.on b8 (Nat.le_refl _))
  clear ho b8 hr8
  simp only [List.length_cons, List.length_nil]
  go_wp2_with (fail)
  go_at_call 21
  refine (HIS.out w8 HL8.out).mono ?_
  rintro e w9 ⟨rfl, b9⟩
  have HR79 := Lib.hid (HR78.out.on b9 (Nat.le_refl _))
  have HR89 := Lib.hid (HR8.out.on b9 (Nat.le_refl _))
  have HB9 := Lib.hid (below_join HB8.out b9 HB8.out.size)
  have HL9 := Lib.hid (HL8.out.on b9 (Nat.le_refl _))
  clear b9
  go_wp2_with (fail)
  obtain ⟨hq, hbq⟩ := lit1 (W := w9) (l := [0, 1, 2, 3, 7, 15]) (cl := #[.int .i64 0, .int .i64 1, .int .i64 2, .int .i64 3, .int .i64 7, .int .i64 15]) rfl (by decide)
  have h0 := c_eqInts A7 c7 [0, 1, 2, 3, 7, 15] (some ⟨w9.heap.size, 0, none⟩) 6 [0, 1, 2, 3, 7, 15] true (by decide) _ (HR79.out.on hbq (Nat.le_refl _)) hq
  go_at_call 25
  refine (show Calls Try.prog 25 #[.slice A7 6 c7, .slice (some ⟨w9.heap.size, 0, none⟩) 6 6] _ _ from h0).mono ?_
  clear h0
  rintro e w10 ⟨rfl, b10⟩
  have b10' := below_join hbq b10 hbq.size
  have HB10 := Lib.hid (below_join HB9.out b10' HB9.out.size)
  have HL10 := Lib.hid (HL9.out.on b10' (Nat.le_refl _))
  have HR810 := Lib.hid (HR89.out.on b10' (Nat.le_refl _))
  clear b10 b10' hq hbq
  go_wp2_with (fail)
  obtain ⟨hq, hbq⟩ := lit1 (W := w10) (l := [0]) (cl := #[.int .i64 0]) rfl (by decide)
  have h0 := c_eqInts A8 c8 [0] (some ⟨w10.heap.size, 0, none⟩) 1 [0] true (by decide) _ (HR810.out.on hbq (Nat.le_refl _)) hq
  go_at_call 25
  refine (show Calls Try.prog 25 #[.slice A8 1 c8, .slice (some ⟨w10.heap.size, 0, none⟩) 1 1] _ _ from h0).mono ?_
  clear h0
  rintro e w11 ⟨rfl, b11⟩
  have b11' := below_join hbq b11 hbq.size
  have HB11 := Lib.hid (below_join HB10.out b11' HB10.out.size)
  have HL11 := Lib.hid (HL10.out.on b11' (Nat.le_refl _))
  clear b11 b11' hq hbq
  go_wp2_with (fail)
  go_at_call 28
  refine (HCN.out w11 HL11.out).mono ?_
  rintro e w12 ⟨⟨h, -⟩ | ⟨-, k, rfl, rfl⟩, b12⟩
  · exact absurd rfl h
  have HB12 := Lib.hid (below_join HB11.out b12 HB11.out.size)
  have HL12 := Lib.hid (HL11.out.on b12 (Nat.le_refl _))
  clear b12
  go_wp2_with (fail)
  go_at_call 30
  refine (HN.out w12 HL12.out).mono ?_
  rintro e w13 ⟨⟨h, -⟩ | ⟨-, v, rfl, ho⟩, b13⟩
  · exact absurd rfl h
  obtain ⟨A13, c13, rfl, hr13⟩ := nm_own ho (M := [1, 0, 2, 3]) rfl
  have HR13 := Lib.hid hr13
  have HB13 := Lib.hid (below_join HB12.out b13 HB12.out.size)
  have HL13 := Lib.hid (HL12.out.on b13 (Nat.le_refl _))
  clear ho b13 hr13
  simp only [List.length_cons, List.length_nil]
  go_wp2_with (fail)
  obtain ⟨hq, hbq⟩ := lit1 (W := w13) (l := [1, 0, 2, 3]) (cl := #[.int .i64 1, .int .i64 0, .int .i64 2, .int .i64 3]) rfl (by decide)
  go_at_call 32
  refine (HRK.out (some ⟨w13.heap.size, 0, none⟩) 4 _ (HL13.out.on hbq (Nat.le_refl _)) hq).mono ?_
  rintro e w14 ⟨⟨h, -⟩ | ⟨-, k, rfl, rfl⟩, b14⟩
  · exact absurd rfl h
  have b14' := below_join hbq b14 hbq.size
  have HB14 := Lib.hid (below_join HB13.out b14' HB13.out.size)
  have HL14 := Lib.hid (HL13.out.on b14' (Nat.le_refl _))
  have HR14 := Lib.hid (HR13.out.on b14' (Nat.le_refl _))
  clear b14 b14' hq hbq
  go_wp2_with (fail)
  obtain ⟨hq, hbq⟩ := lit1 (W := w14) (l := [1, 0, 2, 3]) (cl := #[.int .i64 1, .int .i64 0, .int .i64 2, .int .i64 3]) rfl (by decide)
  have h0 := c_eqInts A13 c13 [1, 0, 2, 3] (some ⟨w14.heap.size, 0, none⟩) 4 [1, 0, 2, 3] true (by decide) _ (HR14.out.on hbq (Nat.le_refl _)) hq
  go_at_call 25
  refine (show Calls Try.prog 25 #[.slice A13 4 c13, .slice (some ⟨w14.heap.size, 0, none⟩) 4 4] _ _ from h0).mono ?_
  clear h0
  rintro e w15 ⟨rfl, b15⟩
  have b15' := below_join hbq b15 hbq.size
  have HB15 := Lib.hid (below_join HB14.out b15' HB14.out.size)
  have HL15 := Lib.hid (HL14.out.on b15' (Nat.le_refl _))
  clear b15 b15' hq hbq
  go_wp2_with (fail)
  go_at_call 35
  refine (HH.out w15 HL15.out).mono ?_
  rintro e w16 ⟨⟨h, -⟩ | ⟨-, k, rfl, rfl⟩, b16⟩
  · exact absurd rfl h
  have HB16 := Lib.hid (below_join HB15.out b16 HB15.out.size)
  have HL16 := Lib.hid (HL15.out.on b16 (Nat.le_refl _))
  clear b16
  go_wp2_with (fail)
  go_at_call 37
  refine (HWD.out w16 HL16.out).mono ?_
  rintro e w17 ⟨⟨h, -⟩ | ⟨-, k, rfl, rfl⟩, b17⟩
  · exact absurd rfl h
  have HB17 := Lib.hid (below_join HB16.out b17 HB16.out.size)
  have HL17 := Lib.hid (HL16.out.on b17 (Nat.le_refl _))
  clear b17
  go_wp2_with (fail)
  go_at_call 39
  refine (HCH.out w17 HL17.out).mono ?_
  rintro e w18 ⟨⟨h, -⟩ | ⟨-, v18, ys18, rfl, ho18, hm18⟩, b18⟩
  · exact absurd rfl h
  obtain ⟨A18, c18, rfl, -, -⟩ := ls_same ho18 hm18
  rw [smp_chains]
  have HB18 := Lib.hid (below_join HB17.out b18 HB17.out.size)
  clear ho18 hm18 b18
  go_wp2_with (fail)
  go_ret
  exact ⟨rfl, HB18.out⟩
end Go.Proofs.Ytjheaeeeeggncaa

namespace Go.Proofs.Ytjheaeeeeggncaa
open Go.RowKit Go.Shelf
attribute [local go_sem] Oper.semAt_some
set_option maxRecDepth 100000
set_option linter.unusedVariables false
set_option linter.unusedSimpArgs false

def hwV (n : Int) (k : Nat) : Int := if n = 0 then (k : Int) else 0
theorem hw_any {w : World} {n : Int} {P : Nat → Prop} {k0 : Nat} {e : Ending} {w' : World} (h : HwTo w n P e w') (hp : ∀ k, P k → k = k0) : e = .returned (.tuple #[.int .i64 (hwV n k0), .int .i64 n]) ∧ Below w.heap.size w w' := by
  obtain ⟨⟨h0, rfl⟩ | ⟨rfl, k, rfl, hk⟩, hb⟩ := h
  · exact ⟨by unfold hwV; rw [if_neg h0], hb⟩
  · exact ⟨by unfold hwV; rw [if_pos rfl, hp k hk], hb⟩
end Go.Proofs.Ytjheaeeeeggncaa
