/-
  DERIVED. Several texts in one.
-/
import Derived.Test.YtbbadnlaelgmlaaGreatPYB6
import Derived.Deep.Cut
import Derived.Test.YtbbadnlaelgmlaaGreatPYB3
import Derived.Laws.EntriesVeiled
import Derived.Test.YtbbadnlaelgmlaaGreatPYV51
import Derived.Test.YtbbadnlaelgmlaaGreatPYV61
import Derived.Laws.AppendOwn
set_option linter.unusedVariables false
set_option linter.unusedSimpArgs false

namespace Go.Proofs.YtbbadnlaelgmlaaGreat
open Go.RowKit
set_option maxRecDepth 100000
set_option linter.unusedVariables false
set_option linter.unusedSimpArgs false

/-- The table while it is filled: the rows before a, and row a before b. -/
def filM (a b : Nat) : Nat → Nat → Int := fun i j => if (i < a ∨ (i = a ∧ j < b)) ∧ i ≠ j then far else 0
theorem filM_end : Ag (filM 8 0) (lkM []) := fun i j hi hj => by
  show filM 8 0 i j = lkM0 i j
  unfold filM lkM0
  by_cases e : i = j
  · subst e; simp
  · rw [if_pos ⟨.inl hi, e⟩, if_neg e]
theorem filM_row (a : Nat) : Ag (filM a 8) (filM (a + 1) 0) := fun i j hi hj => by
  unfold filM
  by_cases h : (i < a ∨ (i = a ∧ j < 8)) ∧ i ≠ j
  · rw [if_pos h, if_pos (by omega)]
  · rw [if_neg h, if_neg (by omega)]
set_option maxHeartbeats 8000000 in
theorem c_ofLinks (p : SP) (s : SiteD) (hs : siteOk s = true) (w : World) (h : SiAt w p s) :
    Calls Tryz.prog 132 #[siV p s] w fun e w' => e = .returned (.agg (matA (lkM s.links))) ∧ Below w.heap.size w w' := by
  unfold siV
  have hsw := (siteOk_iff.1 hs).sw
  have hlk := (siteOk_iff.1 hs).links
  have hln := (siteOk_iff.1 hs).nlinks
  have hz1 := (zero_of_info len_zero).1
  obtain ⟨W1, h1⟩ : ∃ W, W = w.alloc (.cells #[.slice p.a1 s.feeds.length p.c1, .slice p.a2 s.brks.length p.c2, .slice p.a3 s.loops.length p.c3, .slice p.a4 s.racks.length p.c4, .int .i64 s.sw, .slice p.a5 s.links.length p.c5, .slice p.a6 s.hosts.length p.c6] 29) := ⟨_, rfl⟩
  obtain ⟨W2, h2⟩ : ∃ W, W = W1.alloc (.cells (matA (fun _ _ => 0)) 159) := ⟨_, rfl⟩
  obtain ⟨W, h3⟩ : ∃ W, W = W2.alloc (.cells (matA (fun _ _ => 0)) 159) := ⟨_, rfl⟩
  have s1 : W1.heap.size = w.heap.size + 1 := by rw [h1, World.size_alloc]
  have s2 : W2.heap.size = w.heap.size + 1 + 1 := by rw [h2, World.size_alloc, s1]
  have s3 : W.heap.size = w.heap.size + 1 + 1 + 1 := by rw [h3, World.size_alloc, s2]
  have B1 : Below w.heap.size w W := by rw [h3, h2, h1]; exact (((Below.refl _ _).alloc (Nat.le_refl _) _).alloc (by rw [World.size_alloc]; omega) _).alloc (by rw [World.size_alloc, World.size_alloc]; omega) _
  have X1 : SiBox W w.heap.size p s := by
    rw [h3, h2]
    refine old_heap _ (old_heap _ ?_)
    rw [h1]; exact siBox_new _ _ _
  have M1 : MxAt W (w.heap.size + 1) (fun _ _ => 0) := by
    rw [h3]
    refine old_heap _ ?_
    rw [h2, ← s1]; exact MxAt.new _ _
  have M2 : MxAt W (w.heap.size + 1 + 1) (filM 0 0) := by
    have : MxAt W (w.heap.size + 1 + 1) (fun _ _ => 0) := by rw [h3, ← s2]; exact MxAt.new _ _
    exact this.ag fun i j _ _ => by unfold filM; rw [if_neg (by omega)]
  obtain ⟨B, hBB⟩ : ∃ B, w.heap.size = B := ⟨_, rfl⟩
  have HBB := Lib.hid hBB
  rw [hBB] at X1 M1 M2 s3 B1
  obtain ⟨G, hG⟩ : ∃ G, B + 1 + 1 = G := ⟨_, rfl⟩
  have HGB := Lib.hid hG
  have HS3 := Lib.hid s3
  have HB := Lib.hid B1
  have HX := Lib.hid (fun (X : World) (hX : Below G W X) => (let z := (hX.block B (by omega)).trans X1; (⟨cell_of z rfl, ⟨_, z⟩⟩ : X.cell? ⟨B, 5, none⟩ = some (.slice p.a5 s.links.length p.c5) ∧ ∃ o, X.heap[B]? = some o)))
  have HM1 := Lib.hid (fun (X : World) (hX : Below G W X) => (show MxAt X (B + 1) (fun _ _ => 0) from (hX.block (B + 1) (by omega)).trans M1))
  have HM2 := Lib.hid (show MxAt W G (filM 0 0) by rw [← hG]; exact M2)
  have HL := Lib.hid (fun (X : World) (hX : Below G W X) => (h.links.on (below_join B1 hX (show B ≤ G by omega)) (by omega) : Rw 3 lkF X p.a5 p.c5 s.links))
  have HLK := Lib.hid hlk
  have HKW := Lib.hid (Below.refl G W)
  clear X1 M1 M2 B1 s1 s2 s3 hG h hs hlk
  go_enter Tryz.func132, Tryz.ntmps132
  go_wp2_with (fail)
  rw [← h1, ← h2, ← h3]
  clear h1 h2 h3
  rw [HGB.out]
  clear hz1 hBB
  go_loopw [9] (fun i wr => ∃ a : Nat, a ≤ 8 ∧ i = .int .i64 (a : Int) ∧ Hid (Below G W wr) ∧ Hid (MxAt wr G (filM a 0))) (fun i _ => 8 - (intOf i).toNat)
  case atStart => exact ⟨0, Nat.zero_le _, rfl, HKW, HM2⟩
  case round =>
    obtain ⟨a, ha, rfl, hK, hF⟩ := hrel
    have hai : ((a : Nat) : Int).toNat = a := by omega
    by_cases hlt : a < 8
    · have ha2 : ((a : Nat) : Int) < 8 := by omega
      go_wp2_with (fail)
      go_loopw [12] (fun i wr => ∃ b : Nat, b ≤ 8 ∧ i = .int .i64 (b : Int) ∧ Hid (Below G W wr) ∧ Hid (MxAt wr G (filM a b))) (fun i _ => 8 - (intOf i).toNat)
      case atStart => exact ⟨0, Nat.zero_le _, rfl, hK, hF⟩
      case round =>
        obtain ⟨b, hb, rfl, hK, hF⟩ := hrel
        have hbi : ((b : Nat) : Int).toNat = b := by omega
        by_cases hlb : b < 8
        · have hb2 : ((b : Nat) : Int) < 8 := by omega
          have c0 := hF.out.cell hlt hlb
          have c1 := hF.out.frz (a * 8 + b)
          have HST := Lib.hid (show MxAt (wr.setCell ⟨G, a * 8 + b, none⟩ (.int .i64 8000000)) G (fun i j => if i = a ∧ j = b then far else filM a b i j) from hF.out.set hlt hlb 8000000 (fun i j _ _ => rfl))
          have HBT := Lib.hid (hK.out.setCell (p := ⟨G, a * 8 + b, none⟩) (Nat.le_refl _) (.int .i64 8000000))
          rcases hne : ((a : Int) != (b : Int)) with _ | _
          · have hab0 : (a : Int) = (b : Int) := by simpa using hne
            have hab : a = b := by omega
            clear hab0
            go_wp2_with (fail)
            go_roundw
            case rel => exact ⟨b + 1, by omega, by go_num, hK, Lib.hid (hF.out.ag fun i j _ _ => by unfold filM; by_cases h : (i < a ∨ (i = a ∧ j < b)) ∧ i ≠ j; rw [if_pos h, if_pos (by omega)]; rw [if_neg h, if_neg (by omega)])⟩
            case measure => simp only [intOf]; omega
          · have hab0 : ¬ (a : Int) = (b : Int) := by simpa using hne
            have hab : a ≠ b := by omega
            clear hab0
            go_wp2_with (fail)
            go_roundw
            case rel => exact ⟨b + 1, by omega, by go_num, HBT, Lib.hid (HST.out.ag fun i j _ _ => by
              show (if i = a ∧ j = b then far else filM a b i j) = filM a (b + 1) i j
              unfold filM
              by_cases h0 : i = a ∧ j = b
              · rw [if_pos h0, if_pos (by omega)]
              · rw [if_neg h0]
                by_cases h : (i < a ∨ (i = a ∧ j < b)) ∧ i ≠ j
                · rw [if_pos h, if_pos (by omega)]
                · rw [if_neg h, if_neg (by omega)])⟩
            case measure => simp only [intOf]; omega
        · obtain rfl : b = 8 := by omega
          go_wp2_with (fail)
          go_roundw
          case rel => exact ⟨a + 1, by omega, by go_num, hK, Lib.hid (hF.out.ag (filM_row a))⟩
          case measure => simp only [intOf]; omega
    · have hae : (8 : Int) ≤ (a : Int) := by omega
      have HF0 := Lib.hid (show MxAt wr G (lkM (s.links.take 0)) by
        have e : a = 8 := by omega
        subst e
        exact hF.out.ag filM_end)
      obtain ⟨x5, -⟩ := HX.out wr hK.out
      go_wp2_with (fail)
      clear x5
      go_loopw [27] (fun i wr => ∃ k : Nat, k ≤ s.links.length ∧ i = .int .i64 (k : Int) ∧ Hid (Below G W wr) ∧ Hid (MxAt wr G (lkM (s.links.take k)))) (fun i _ => s.links.length - (intOf i).toNat)
      case atStart => exact ⟨0, Nat.zero_le _, rfl, hK, HF0⟩
      case round =>
        obtain ⟨k, hk, rfl, hK, hF⟩ := hrel
        have hki : ((k : Nat) : Int).toNat = k := by omega
        by_cases hlk : k < s.links.length
        · have hlk2 : (k : Int) < (s.links.length : Int) := by omega
          obtain ⟨⟨ia, ib, lat⟩, hx⟩ : ∃ x, s.links[k]? = some x := ⟨_, List.getElem?_eq_getElem hlk⟩
          have hrg := HLK.out _ (List.mem_of_getElem? hx)
          obtain ⟨ua, rfl⟩ : ∃ u : Nat, ia = u := ⟨ia.toNat, by have := hrg.1.1; simp only at this; omega⟩
          obtain ⟨ub, rfl⟩ : ∃ u : Nat, ib = u := ⟨ib.toNat, by have := hrg.2.1.1; simp only at this; omega⟩
          simp only at hrg
          have hne : ua ≠ ub := by omega
          have hua : ua < 8 := by omega
          have hub : ub < 8 := by omega
          have hua2 : ((ua : Nat) : Int) < 8 := by omega
          have hub2 : ((ub : Nat) : Int) < 8 := by omega
          have hua1 : ((ua : Nat) : Int).toNat = ua := by omega
          have hub1 : ((ub : Nat) : Int).toNat = ub := by omega
          have HLL := HL.out wr hK.out
          obtain ⟨pb, po, hpe, -, -⟩ := HLL.at_ hx
          rw [hpe] at HLL
          obtain ⟨y0, y1, y2⟩ := rwLink HLL hx
          rw [hpe]
          obtain ⟨V, hV⟩ : ∃ V, V = wr.alloc (.cells #[.int .i64 (ua : Int), .int .i64 (ub : Int), .int .i64 lat] 119) := ⟨_, rfl⟩
          obtain ⟨N, hN⟩ : ∃ N, wr.heap.size = N := ⟨_, rfl⟩
          have bx : V.heap[N]? = some (.cells #[.int .i64 (ua : Int), .int .i64 (ub : Int), .int .i64 lat] 119 (0, 0)) := by rw [hV, ← hN]; exact box_new _ _ _
          have hGw : G < wr.heap.size := hF.out.lt
          have HKV := Lib.hid (show Below G W V by rw [hV]; exact hK.out.alloc (by omega) _)
          have HFV := Lib.hid (show MxAt V G (lkM (s.links.take k)) by rw [hV]; exact old_heap _ hF.out)
          obtain ⟨m0, hm0⟩ : ∃ m, lkM (s.links.take k) ua ub = m := ⟨_, rfl⟩
          obtain ⟨mn, hmn⟩ : ∃ z, (if lat < m0 then lat else m0) = z := ⟨_, rfl⟩
          have HM0 := Lib.hid hm0
          have HMN := Lib.hid hmn
          have HXX := Lib.hid hx
          have hNG : N ≠ G := by omega
          have v0 : V.cell? ⟨N, 0, none⟩ = some (.int .i64 (ua : Int)) := cell_of bx rfl
          have v1 : V.cell? ⟨N, 1, none⟩ = some (.int .i64 (ub : Int)) := cell_of bx rfl
          have v2 : V.cell? ⟨N, 2, none⟩ = some (.int .i64 lat) := cell_of bx rfl
          have v3 : V.cell? ⟨G, ua * 8 + ub, none⟩ = some (.int .i64 m0) := by rw [← hm0]; exact HFV.out.cell hua hub
          have HV := Lib.hid (⟨v0, v1, v2, v3⟩ : V.cell? ⟨N, 0, none⟩ = some (.int .i64 (ua : Int)) ∧ V.cell? ⟨N, 1, none⟩ = some (.int .i64 (ub : Int)) ∧ V.cell? ⟨N, 2, none⟩ = some (.int .i64 lat) ∧ V.cell? ⟨G, ua * 8 + ub, none⟩ = some (.int .i64 m0))
          have HNN := Lib.hid hN
          clear hm0 hx HLL bx hrg hpe v0 v1 v2 v3 hN hGw
          rw [hV] at HV
          go_wp2_with (fail)
          rw [← hV, HNN.out]
          rw [← hV] at HV
          clear hV y0 y1 y2
          obtain ⟨v0, v1, v2, v3⟩ := HV.out
          have hmn2 := HMN.out
          go_region
          have c0 := HFV.out.frz (ua * 8 + ub)
          have c1 := HFV.out.cell hub hua
          have c2 := HFV.out.frz (ub * 8 + ua)
          have HS1 := Lib.hid (HFV.out.set hua hub mn (f' := fun i j => if i = ua ∧ j = ub then mn else lkM (s.links.take k) i j) (fun i j _ _ => rfl))
          have HK1 := Lib.hid (HKV.out.setCell (p := ⟨G, ua * 8 + ub, none⟩) (Nat.le_refl _) (.int .i64 mn))
          have HS2 := Lib.hid (HS1.out.set hub hua mn (f' := lkM (s.links.take (k + 1))) (fun i j _ _ => by
            rw [List.take_add_one, HXX.out]
            show lkM (s.links.take k ++ [⟨(ua : Int), (ub : Int), lat⟩]) i j = _
            rw [lkM_snoc]
            show (if (i = ua ∧ j = ub) ∨ (i = ub ∧ j = ua) then min (lkM (s.links.take k) ua ub) lat else lkM (s.links.take k) i j) = if i = ub ∧ j = ua then mn else if i = ua ∧ j = ub then mn else lkM (s.links.take k) i j
            have e : min (lkM (s.links.take k) ua ub) lat = mn := by rw [HM0.out, ← HMN.out]; split <;> omega
            rw [e]
            by_cases h1 : i = ub ∧ j = ua
            · rw [if_pos h1, if_pos (.inr h1)]
            · by_cases h2 : i = ua ∧ j = ub
              · rw [if_pos (.inl h2), if_neg h1, if_pos h2]
              · rw [if_neg h1, if_neg h2, if_neg (by rintro (h | h); exact h2 h; exact h1 h)]))
          have HK2 := Lib.hid (HK1.out.setCell (p := ⟨G, ub * 8 + ua, none⟩) (Nat.le_refl _) (.int .i64 mn))
          go_wp2_with (fail)
          go_region
          go_wp2_with (fail)
          go_roundw
          case rel => exact ⟨k + 1, by omega, by go_num, Lib.hid HK2.out.drew.drew, Lib.hid HS2.out⟩
          case measure => simp only [intOf]; omega
        · have HE := Lib.hid (show MxAt wr G (lkM s.links) by
            have := hF.out
            rwa [List.take_of_length_le (by omega)] at this)
          have hlk3 : (s.links.length : Int) ≤ (k : Int) := by omega
          have HM := Lib.hid (HM1.out wr hK.out)
          have HS1 := Lib.hid (setRow_mx (f' := lkM s.links) HM.out)
          have HB1 := Lib.hid (below_row (g := B + 1) (below_join HB.out hK.out (show B ≤ G by have := HGB.out; omega)) (by omega) (matA (lkM s.links)))
          go_wp2_with (first | (refine ld_mx rfl _ rfl (.tmp 3) rfl rfl HE.out ?_) | (refine st_mx rfl rfl (.tmp 2) (.tmp 56) rfl rfl rfl HM.out ?_))
          exact retMx (i := 2) rfl rfl rfl HS1.out ⟨rfl, by rw [HBB.out]; exact HB1.out⟩
end Go.Proofs.YtbbadnlaelgmlaaGreat

namespace Go.Proofs.YtbbadnlaelgmlaaGreat
open Go.RowKit
set_option maxRecDepth 100000
set_option linter.unusedVariables false
set_option linter.unusedSimpArgs false

set_option maxHeartbeats 8000000 in
theorem c_ofWays (n : Nat) (L M : Nat → Nat → Int) (hL : LOk n L) (hn : n ≤ 8) (hM : ∀ i j, M i j = if i = j then 0 else if L i j < 0 then far else L i j) (w : World) :
    Calls Tryz.prog 131 #[.agg (matA M)] w fun e w' => e = .returned (.agg (matA (wV n L))) ∧ Below w.heap.size w w' := by
  have hz1 := (zero_of_info len_zero).1
  obtain ⟨W1, h1⟩ : ∃ W, W = w.alloc (.cells (matA M) 159) := ⟨_, rfl⟩
  obtain ⟨W2, h2⟩ : ∃ W, W = W1.alloc (.cells (matA (fun _ _ => 0)) 159) := ⟨_, rfl⟩
  obtain ⟨W3, h3⟩ : ∃ W, W = W2.alloc (.cells (matA (fun _ _ => 0)) 159) := ⟨_, rfl⟩
  have s1 : W1.heap.size = w.heap.size + 1 := by rw [h1, World.size_alloc]
  have s2 : W2.heap.size = w.heap.size + 1 + 1 := by rw [h2, World.size_alloc, s1]
  have s3 : W3.heap.size = w.heap.size + 1 + 1 + 1 := by rw [h3, World.size_alloc, s2]
  have B1 : Below w.heap.size w W3 := by rw [h3, h2, h1]; exact (((Below.refl _ _).alloc (Nat.le_refl _) _).alloc (by rw [World.size_alloc]; omega) _).alloc (by rw [World.size_alloc, World.size_alloc]; omega) _
  have M0 : MxAt W2 w.heap.size M := by rw [h2]; refine old_heap _ ?_; rw [h1]; exact MxAt.new _ _
  have M1 : MxAt W3 (w.heap.size + 1) (fun _ _ => 0) := by
    rw [h3]
    refine old_heap _ ?_
    rw [h2, ← s1]; exact MxAt.new _ _
  have M2 : MxAt W3 (w.heap.size + 1 + 1) (fun _ _ => 0) := by rw [h3, ← s2]; exact MxAt.new _ _
  obtain ⟨B, hBB⟩ : ∃ B, w.heap.size = B := ⟨_, rfl⟩
  have HBB := Lib.hid hBB
  rw [hBB] at M0 M1 M2 s3 B1
  obtain ⟨G, hG⟩ : ∃ G, B + 1 + 1 = G := ⟨_, rfl⟩
  rw [hG] at M2
  have HGB := Lib.hid hG
  have HB := Lib.hid B1
  have HM0 := Lib.hid M0
  have HM2 := Lib.hid M2
  have H2 := Lib.hid (show W2.heap.size = G by rw [s2, hBB, hG])
  obtain ⟨W, hW⟩ : ∃ W, W = W3.setRow G (matA M) := ⟨_, rfl⟩
  have HW := Lib.hid (show MxAt W G M by rw [hW]; exact setRow_mx M2)
  have HBW := Lib.hid (show Below B w W by rw [hW]; exact below_row B1 (by omega) _)
  have HM1 := Lib.hid (fun (X : World) (hX : Below G W X) => (show MxAt X (B + 1) (fun _ _ => 0) from (hX.block (B + 1) (by omega)).trans (by rw [hW]; exact (setRow_other W3 G (B + 1) (matA M) (by omega)).trans M1)))
  have HKW := Lib.hid (Below.refl G W)
  have HL := Lib.hid hL
  have HN := Lib.hid hn
  have HFS := Lib.hid (FwI.start hL hM)
  clear M0 M1 M2 B1 s1 s2 s3 hG hL hn hM
  go_enter Tryz.func131, Tryz.ntmps131
  go_upto_region 1 with (fail)
  rw [← h1, ← h2]
  clear h1 h2 hBB
  have hz2 := H2.out
  go_wp2_with (first | (refine ld_mx rfl _ rfl (.tmp 1) rfl rfl HM0.out ?_) | (rw [← h3]; refine st_mx rfl rfl (.tmp 3) (.tmp 7) rfl rfl rfl HM2.out ?_; rw [← hW]; clear hz1 hz2 h3 hW))
  go_loopw [8] (fun i wr => ∃ k : Nat, k ≤ 8 ∧ i = .int .i64 (k : Int) ∧ Hid (Below G W wr) ∧ Hid (∃ V, MxAt wr G V ∧ FwI n L V k (fun _ _ => False))) (fun i _ => 8 - (intOf i).toNat)
  case atStart => exact ⟨0, Nat.zero_le _, rfl, HKW, Lib.hid ⟨M, HW.out, HFS.out⟩⟩
  case round =>
    obtain ⟨k, hk, rfl, hK, hF⟩ := hrel
    have hki : ((k : Nat) : Int).toNat = k := by omega
    by_cases hlk : k < 8
    · have hk2 : ((k : Nat) : Int) < 8 := by omega
      go_wp2_with (fail)
      go_loopw [11] (fun i wr => ∃ a : Nat, a ≤ 8 ∧ i = .int .i64 (a : Int) ∧ Hid (Below G W wr) ∧ Hid (∃ V, MxAt wr G V ∧ FwI n L V k (fun i j => i < a ∧ j < 8))) (fun i _ => 8 - (intOf i).toNat)
      case atStart => exact ⟨0, Nat.zero_le _, rfl, hK, by obtain ⟨V, h1, h2⟩ := hF.out; exact Lib.hid ⟨V, h1, h2.sub fun i j h => by omega⟩⟩
      case round =>
        obtain ⟨a, ha, rfl, hK, hF⟩ := hrel
        have hai : ((a : Nat) : Int).toNat = a := by omega
        by_cases hla : a < 8
        · have ha2 : ((a : Nat) : Int) < 8 := by omega
          go_wp2_with (fail)
          go_loopw [14] (fun i wr => ∃ b : Nat, b ≤ 8 ∧ i = .int .i64 (b : Int) ∧ Hid (Below G W wr) ∧ Hid (∃ V, MxAt wr G V ∧ FwI n L V k (fun i j => (i < a ∧ j < 8) ∨ (i = a ∧ j < b)))) (fun i _ => 8 - (intOf i).toNat)
          case atStart => exact ⟨0, Nat.zero_le _, rfl, hK, by obtain ⟨V, h1, h2⟩ := hF.out; exact Lib.hid ⟨V, h1, h2.sub fun i j h => by omega⟩⟩
          case round =>
            obtain ⟨b, hb, rfl, hK, hF⟩ := hrel
            have hbi : ((b : Nat) : Int).toNat = b := by omega
            by_cases hlb : b < 8
            · have hb2 : ((b : Nat) : Int) < 8 := by omega
              obtain ⟨V, hV, hI⟩ := hF.out
              have c0 := hV.cell hla hlb
              have c1 := hV.cell hla hlk
              have c2 := hV.cell hlk hlb
              have c3 := hV.frz (a * 8 + b)
              obtain ⟨x, hx⟩ : ∃ x, V a b = x := ⟨_, rfl⟩
              obtain ⟨y, hy⟩ : ∃ x, V a k = x := ⟨_, rfl⟩
              obtain ⟨z, hz⟩ : ∃ x, V k b = x := ⟨_, rfl⟩
              have bx1 := hI.pos a b; have bx2 := hI.top a b
              have by1 := hI.pos a k; have by2 := hI.top a k
              have bz1 := hI.pos k b; have bz2 := hI.top k b
              rw [hx] at c0 bx1 bx2
              rw [hy] at c1 by1 by2
              rw [hz] at c2 bz1 bz2
              unfold far at bx2 by2 bz2
              obtain ⟨m, hm⟩ : ∃ m, (if y + z < x then y + z else x) = m := ⟨_, rfl⟩
              have hm2 : min x (y + z) = m := by rw [← hm]; split <;> omega
              have HS := Lib.hid (hV.set hla hlb m (f' := fun i j => if i = a ∧ j = b then min (V a b) (V a k + V k b) else V i j) (fun i j _ _ => by rw [hx, hy, hz, hm2]))
              have HI := Lib.hid ((FwI.step HL.out (a := a) (b := b) hI).sub (Q := fun i j => (i < a ∧ j < 8) ∨ (i = a ∧ j < b + 1)) (fun i j h => by omega))
              have HK1 := Lib.hid (hK.out.setCell (p := ⟨G, a * 8 + b, none⟩) (Nat.le_refl _) (.int .i64 m))
              clear hx hy hz hV hI hm2
              go_wp2_with (fail)
              go_region
              go_wp2_with (fail)
              go_roundw
              case rel => exact ⟨b + 1, by omega, by go_num, Lib.hid HK1.out.drew, Lib.hid ⟨_, HS.out, HI.out⟩⟩
              case measure => simp only [intOf]; omega
            · have hlb2 : (8 : Int) ≤ (b : Int) := by omega
              go_wp2_with (fail)
              go_roundw
              case rel => exact ⟨a + 1, by omega, by go_num, hK, by
                have e : b = 8 := by omega
                subst e
                obtain ⟨V, h1, h2⟩ := hF.out
                exact Lib.hid ⟨V, h1, h2.sub fun i j h => by omega⟩⟩
              case measure => simp only [intOf]; omega
        · have hla2 : (8 : Int) ≤ (a : Int) := by omega
          go_wp2_with (fail)
          go_roundw
          case rel => exact ⟨k + 1, by omega, by go_num, hK, by
            have e : a = 8 := by omega
            subst e
            obtain ⟨V, h1, h2⟩ := hF.out
            exact Lib.hid ⟨V, h1, h2.next HL.out HN.out (fun i j hi hj => ⟨hi, hj⟩)⟩⟩
          case measure => simp only [intOf]; omega
    · have hlk2 : (8 : Int) ≤ (k : Int) := by omega
      have HE := Lib.hid (show MxAt wr G (wV n L) by
        have e : k = 8 := by omega
        subst e
        obtain ⟨V, h1, h2⟩ := hF.out
        exact h1.ag fun i j _ _ => h2.end_ HL.out HN.out i j)
      have HM := Lib.hid (HM1.out wr hK.out)
      have HS1 := Lib.hid (setRow_mx (f' := wV n L) HM.out)
      have HB1 := Lib.hid (below_row (g := B + 1) (below_join HBW.out hK.out (show B ≤ G by have := HGB.out; omega)) (by omega) (matA (wV n L)))
      go_wp2_with (first | (refine ld_mx rfl _ rfl (.tmp 3) rfl rfl HE.out ?_) | (refine st_mx rfl rfl (.tmp 2) (.tmp 41) rfl rfl rfl HM.out ?_))
      exact retMx (i := 2) rfl rfl rfl HS1.out ⟨rfl, by rw [HBB.out]; exact HB1.out⟩
end Go.Proofs.YtbbadnlaelgmlaaGreat

namespace Go.Proofs.YtbbadnlaelgmlaaGreat
open Go.RowKit
set_option maxRecDepth 100000
set_option linter.unusedVariables false
set_option linter.unusedSimpArgs false

def nS (s : SiteD) : Nat := s.sw.toNat
noncomputable def dS (s : SiteD) (a b : Nat) : Int := dV (nS s) (lkN s) a b
noncomputable def wS (s : SiteD) : Nat → Nat → Int := wV (nS s) (lkN s)
def swOf (s : SiteD) (h : Nat) : Nat := (rkAt s h).sw.toNat
noncomputable def laS (s : SiteD) (a b : Nat) : Int := if a = b then 0 else if dS s (swOf s a) (swOf s b) < 0 then -1 else 1 + dS s (swOf s a) (swOf s b)
theorem sk {s : SiteD} (h : siteOk s = true) : LOk (nS s) (lkN s) ∧ nS s ≤ 8 ∧ ((nS s : Nat) : Int) = s.sw ∧ LksOk (nS s) s.links := by
  have h1 := siteOk_iff.1 h
  have h2 := h1.sw
  have e : ((nS s : Nat) : Int) = s.sw := by unfold nS; omega
  have h3 : LksOk (nS s) s.links := fun x hx => by have := h1.links x hx; rw [e]; exact this
  exact ⟨lkN_ok h3, by omega, e, h3⟩
theorem dsF_wS {s : SiteD} (h : siteOk s = true) (a b : Nat) : dsF (wS s a b) = dS s a b := by
  obtain ⟨h1, h2, -, -⟩ := sk h
  have h3 := dV_far h1 h2 a b
  have h4 := dV_ge h1 a b
  unfold dsF wS wV dS far
  split
  · rw [if_pos rfl]; omega
  · rw [if_neg (by omega)]
theorem dS_ge {s : SiteD} (h : siteOk s = true) (a b : Nat) : -1 ≤ dS s a b ∧ dS s a b ≤ 7000000 := ⟨dV_ge (sk h).1 a b, dV_far (sk h).1 (sk h).2.1 a b⟩
theorem sw_ok {s : SiteD} (h : siteOk s = true) {k : Nat} (hk : k < s.hosts.length) : ∃ (m : Nat) (x : Hs) (y : Rk), s.hosts[k]? = some x ∧ x.rack = (m : Int) ∧ m < s.racks.length ∧ s.racks[m]? = some y ∧ y.sw = ((swOf s k : Nat) : Int) ∧ swOf s k < nS s := by
  have h1 := siteOk_iff.1 h
  obtain ⟨x, e1, e2, -, -⟩ := rack_ok h1 hk
  obtain ⟨m, e3, e4, e5, e6⟩ := rk_ok h1 hk
  obtain ⟨-, -, -, g1, g2⟩ := h1.racks _ e6
  have h3 := (sk h).2.2.1
  refine ⟨m, x, _, e1, by omega, e4, e5, ?_, ?_⟩
  · unfold swOf; omega
  · unfold swOf; omega
theorem c_waysS {s : SiteD} (hs : siteOk s = true) (w : World) : Calls Tryz.prog 131 #[.agg (matA (lkM s.links))] w fun e w' => e = .returned (.agg (matA (wS s))) ∧ Below w.heap.size w w' := by
  obtain ⟨h1, h2, -, h4⟩ := sk hs
  exact c_ofWays (nS s) (lkN s) (lkM s.links) h1 h2 (lkM_is h4) w
theorem exec_ld {P : Program} {o : Oper} {ev : Operand → Value} {T : TypeId} {x : Operand} {u v : Value} {w : World} (ho : o.op = .load T x) (hx : ev x = u) (h : (Instr.loadAt T u).run P w = .ok v w) : (execOp ev o).run P w = .ok (.value v) w := by
  simp only [execOp, ho, hx, Sem.run_bind, h, Result.andThen, Sem.run_pure]
set_option maxHeartbeats 8000000 in
theorem c_swOf (bs : Nat) (p : SP) (s : SiteD) (hs : siteOk s = true) (k : Nat) (hk : k < s.hosts.length) (w : World) (hbox : SiBox w bs p s) (h : SiAt w p s) :
    Calls Tryz.prog 158 #[.int .i64 (k : Int), .pointer (some ⟨bs, 0, none⟩)] w fun e w' => e = .returned (.int .i64 ((swOf s k : Nat) : Int)) ∧ Below w.heap.size w w' := by
  obtain ⟨m, ⟨x0, x1, x2, x3⟩, ⟨y0, y1, y2, y3⟩, e1, e2, e3, e4, e5, -⟩ := sw_ok hs hk
  obtain ⟨u, hu⟩ : ∃ u, swOf s k = u := ⟨_, rfl⟩
  rw [hu] at e5 ⊢
  clear hu
  simp only at e2 e5
  subst e2 e5
  have f3 := hbox.c3
  have f6 := hbox.c6
  obtain ⟨b1, o1, h1, -, -⟩ := h.hosts.at_ e1
  obtain ⟨b2, o2, h2, -, -⟩ := h.racks.at_ e4
  have g1 := h.hosts; have g2 := h.racks
  have n1 := g1.1; have n2 := g2.1; have n3 := g1.2.1; have n4 := g2.2.1
  unfold maxLen at n3 n4
  rw [h1] at g1 f6
  rw [h2] at g2 f3
  obtain ⟨r0, -, -, -⟩ := rwHost g1 e1
  obtain ⟨-, -, -, r3⟩ := rwRack g2 e4
  have q1 : ((k : Nat) : Int).toNat = k := by omega
  have q2 : ((m : Nat) : Int).toNat = m := by omega
  have q3 : (k : Int) < ((s.hosts.length : Nat) : Int) := by omega
  have q4 : (m : Int) < ((s.racks.length : Nat) : Int) := by omega
  clear g1 g2 h1 h2 e1 e4 h hbox
  go_enter Tryz.func158, Tryz.ntmps158
  go_wp2_with (fail)
  go_quiet (fail)
  go_wp2_with (fail)
  go_ret
  exact ⟨rfl, below_drewN (Below.refl _ _)⟩
set_option maxHeartbeats 16000000 in
theorem c_neLatency (p : SP) (s : SiteD) (hs : siteOk s = true) (a b : Nat) (ha : a < s.hosts.length) (hb : b < s.hosts.length) (w : World) (h : SiAt w p s) :
    Calls Tryz.prog 134 #[siV p s, .agg (matA (wS s)), .int .i64 (a : Int), .int .i64 (b : Int)] w fun e w' => e = .returned (.int .i64 (laS s a b)) ∧ Below w.heap.size w w' := by
  unfold siV
  obtain ⟨r, hr⟩ : ∃ r, laS s a b = r := ⟨_, rfl⟩
  rw [hr]
  have HR := Lib.hid hr
  clear hr
  have hmf : ∀ (fn : Fn) (first cap : Array Value) (w : World), (Instr.makeFunc fn first cap).run Tryz.prog w = .ok (.func fn first cap) w := fun _ _ _ _ => rfl
  obtain ⟨W1, h1⟩ : ∃ W, W = w.alloc (.cells #[.slice p.a1 s.feeds.length p.c1, .slice p.a2 s.brks.length p.c2, .slice p.a3 s.loops.length p.c3, .slice p.a4 s.racks.length p.c4, .int .i64 s.sw, .slice p.a5 s.links.length p.c5, .slice p.a6 s.hosts.length p.c6] 29) := ⟨_, rfl⟩
  have z1 : W1.heap.size = w.heap.size + 1 := by rw [h1, World.size_alloc]
  have B1 : Below w.heap.size w W1 := by rw [h1]; exact (Below.refl _ _).alloc (Nat.le_refl _) _
  have X1 : SiBox W1 w.heap.size p s := by rw [h1]; exact siBox_new _ _ _
  obtain ⟨W, h2⟩ : ∃ W, W = W1.alloc (.cells (matA (wS s)) 159) := ⟨_, rfl⟩
  have z2 : W.heap.size = w.heap.size + 1 + 1 := by rw [h2, World.size_alloc, z1]
  have B2 : Below w.heap.size w W := by rw [h2]; exact B1.alloc (by omega) _
  have X2 : SiBox W w.heap.size p s := by rw [h2]; exact old_heap _ X1
  have M0 : W.heap[w.heap.size + 1]? = some (.cells (matA (wS s)) 159 (0, 0)) := by rw [h2, ← z1]; exact box_new _ _ _
  have HB := Lib.hid B2
  have HZ := Lib.hid z2
  have HA := Lib.hid (fun (X : World) (hX : Below W.heap.size W X) => (h.on B2 (Nat.le_refl _)).on hX (Nat.le_refl _))
  have HF := Lib.hid (fun (X : World) (hX : Below W.heap.size W X) => (let z := X2.on hX (Nat.le_refl _); ⟨z.c0, z.c1, z.c2, z.c3, z.c4, z.c5, z.c6⟩ : X.cell? ⟨w.heap.size, 0, none⟩ = some (.slice p.a1 s.feeds.length p.c1) ∧ X.cell? ⟨w.heap.size, 1, none⟩ = some (.slice p.a2 s.brks.length p.c2) ∧ X.cell? ⟨w.heap.size, 2, none⟩ = some (.slice p.a3 s.loops.length p.c3) ∧ X.cell? ⟨w.heap.size, 3, none⟩ = some (.slice p.a4 s.racks.length p.c4) ∧ X.cell? ⟨w.heap.size, 4, none⟩ = some (.int .i64 s.sw) ∧ X.cell? ⟨w.heap.size, 5, none⟩ = some (.slice p.a5 s.links.length p.c5) ∧ X.cell? ⟨w.heap.size, 6, none⟩ = some (.slice p.a6 s.hosts.length p.c6)))
  have HX := Lib.hid (fun (X : World) (hX : Below W.heap.size W X) => X2.on hX (Nat.le_refl _))
  have HM0 := Lib.hid (fun (X : World) (hX : Below W.heap.size W X) => (box_on M0 hX (Nat.le_refl _) : X.heap[w.heap.size + 1]? = some (.cells (matA (wS s)) 159 (0, 0))))
  have HKW := Lib.hid (Below.refl W.heap.size W)
  have hle := HB.out.size
  have n0 := h.feeds.1; have m0 := h.feeds.2.1
  have n1 := h.brks.1; have m1 := h.brks.2.1
  have n2 := h.loops.1; have m2 := h.loops.2.1
  have n3 := h.racks.1; have m3 := h.racks.2.1
  have n4 := h.links.1; have m4 := h.links.2.1
  have n5 := h.hosts.1; have m5 := h.hosts.2.1
  unfold maxLen at m0 m1 m2 m3 m4 m5
  clear h z1 B1 X1 z2 B2 X2 M0
  obtain ⟨f0, f1, f2, f3, f4, f5, f6⟩ := HF.out W HKW.out
  rw [h2, h1] at f0 f1 f2 f3 f4 f5 f6
  generalize hBB : w.heap.size = B at *
  go_enter Tryz.func134, Tryz.ntmps134
  go_wp2_with (fail)
  rw [← h1, ← h2]
  clear h1 h2 f0 f1 f2 f3 f4 f5 f6 hmf
  obtain ⟨d, hd⟩ : ∃ d, dS s (swOf s a) (swOf s b) = d := ⟨_, rfl⟩
  have HD := Lib.hid hd
  have hdr := dS_ge hs (swOf s a) (swOf s b)
  rw [hd] at hdr
  have HCA := Lib.hid (fun (X : World) (hX : Below W.heap.size W X) => c_swOf B p s hs a ha X (HX.out X hX) (HA.out X hX))
  have HCB := Lib.hid (fun (X : World) (hX : Below W.heap.size W X) => c_swOf B p s hs b hb X (HX.out X hX) (HA.out X hX))
  have hsa := (sw_ok hs ha).choose_spec.choose_spec.choose_spec.2.2.2.2.2
  have hsb := (sw_ok hs hb).choose_spec.choose_spec.choose_spec.2.2.2.2.2
  have hn8 := (sk hs).2.1
  have HCD := Lib.hid (fun (X : World) => c_distance (wS s) (swOf s a) (swOf s b) (by omega) (by omega) X)
  rw [dsF_wS hs, hd] at HCD
  clear hd hsa hsb
  refine wp_region_held_drew (S := fun X => MxAt X (B + 1) (wS s) ∧ Below W.heap.size W X) (by kernel_rfl) (⟨HM0.out W.drew HKW.out.drew, HKW.out.drew⟩) (fun hHeld => ?_)
  refine takeH (i := 0) 12 (v := .agg (matA (wS s))) rfl rfl (by kernel_rfl) (by kernel_rfl) (by kernel_rfl) (fun _ _ _ h => h) (by rfl) (fun X hX => exec_ld (x := .tmp 5) rfl rfl (run_load_mx hX.1)) hHeld ?_
  try simp only [Act.put, List.setIfInBounds_toArray, List.set_cons_zero, List.set_cons_succ]
  refine takeH (i := 1) 13 (v := ?_) rfl rfl (by kernel_rfl) (by kernel_rfl) (by kernel_rfl) (fun _ _ _ h => h) (by rfl) ?_ hHeld ?_
  rotate_left
  · intro X hX; (try dsimp only at hX); (first | (go_simp; done) | (go_simp; with_reducible rfl))
  try simp only [Act.put, List.setIfInBounds_toArray, List.set_cons_zero, List.set_cons_succ]
  refine takeH (i := 2) 14 (v := ?_) rfl rfl (by kernel_rfl) (by kernel_rfl) (by kernel_rfl) (fun _ _ _ h => h) (by rfl) ?_ hHeld ?_
  rotate_left
  · intro X hX; (try dsimp only at hX); (first | (go_simp; done) | (go_simp; with_reducible rfl))
  try simp only [Act.put, List.setIfInBounds_toArray, List.set_cons_zero, List.set_cons_succ]
  refine takeH (i := 4) 16 (v := ?_) rfl rfl (by kernel_rfl) (by kernel_rfl) (by kernel_rfl) (fun _ _ _ h => h) (by rfl) ?_ hHeld ?_
  rotate_left
  · intro X hX; (try dsimp only at hX); (first | (go_simp; done) | (go_simp; with_reducible rfl))
  try simp only [Act.put, List.setIfInBounds_toArray, List.set_cons_zero, List.set_cons_succ]
  refine takeH (i := 5) 17 (v := ?_) rfl rfl (by kernel_rfl) (by kernel_rfl) (by kernel_rfl) (fun _ _ _ h => h) (by rfl) ?_ hHeld ?_
  rotate_left
  · intro X hX; (try dsimp only at hX); (first | (go_simp; done) | (go_simp; with_reducible rfl))
  try simp only [Act.put, List.setIfInBounds_toArray, List.set_cons_zero, List.set_cons_succ]
  refine wpAnyH_ready (rs := [3]) (by kernel_rfl) (by simp) ?_
  refine AllReadyH.cons rfl (fun K hK => ?_) AllReadyH.nil
  go_simp
  go_at_call 158; (with_reducible refine (HCA.out W.drew HKW.out.drew).mono ?_); rintro e w1 ⟨rfl, bb⟩; have K1 := Lib.hid (below_join HKW.out.drew bb HKW.out.size); clear bb
  try dsimp only
  refine hK.out _ _ (⟨HM0.out w1 K1.out, K1.out⟩) (fun hHeld2 => ?_)
  clear hK K hHeld
  have hHeld := hHeld2
  clear hHeld2
  try simp only [Act.put, List.setIfInBounds_toArray, List.set_cons_zero, List.set_cons_succ]
  refine wpAnyH_ready (rs := [6]) (by kernel_rfl) (by simp) ?_
  refine AllReadyH.cons rfl (fun K hK => ?_) AllReadyH.nil
  go_simp
  go_at_call 158; (with_reducible refine (HCB.out w1 K1.out).mono ?_); rintro e w2 ⟨rfl, bb⟩; have K2 := Lib.hid (below_join K1.out bb K1.out.size); clear bb
  try dsimp only
  refine hK.out _ _ (⟨HM0.out w2 K2.out, K2.out⟩) (fun hHeld2 => ?_)
  clear hK K hHeld
  have hHeld := hHeld2
  clear hHeld2
  try simp only [Act.put, List.setIfInBounds_toArray, List.set_cons_zero, List.set_cons_succ]
  refine wpAnyH_ready (rs := [7]) (by kernel_rfl) (by simp) ?_
  refine AllReadyH.cons rfl (fun K hK => ?_) AllReadyH.nil
  go_simp
  go_at_call 159; (with_reducible refine (HCD.out w2).mono ?_); rintro e w3 ⟨rfl, bb⟩; have K3 := Lib.hid (below_join K2.out bb K2.out.size); clear bb
  try dsimp only
  refine hK.out _ _ (⟨HM0.out w3 K3.out, K3.out⟩) (fun hHeld2 => ?_)
  clear hK K hHeld
  have hHeld := hHeld2
  clear hHeld2
  try simp only [Act.put, List.setIfInBounds_toArray, List.set_cons_zero, List.set_cons_succ]
  refine takeH (i := 8) 10 (v := ?_) rfl rfl (by kernel_rfl) (by kernel_rfl) (by kernel_rfl) (fun _ _ _ h => h) (by rfl) ?_ hHeld ?_
  rotate_left
  · intro X hX; (try dsimp only at hX); (first | (go_simp; done) | (go_simp; with_reducible rfl))
  try simp only [Act.put, List.setIfInBounds_toArray, List.set_cons_zero, List.set_cons_succ]
  refine wpAnyH_done (by kernel_rfl) ?_ _
  rcases h1 : ((a : Int) == (b : Int)) with _ | _
  · have hab : a ≠ b := by have : ¬ (a : Int) = (b : Int) := by simpa using h1
                           omega
    rcases h2 : decide (d < 0) with _ | _
    · have hd0 := of_decide_eq_false h2
      go_wp2_with (fail)
      go_ret
      exact ⟨(show Ending.returned (.int .i64 (1 + d)) = .returned (.int .i64 r) by rw [← HR.out]; unfold laS; rw [if_neg hab, HD.out, if_neg (by omega)]), below_join HB.out K3.out hle⟩
    · have hd0 := of_decide_eq_true h2
      go_wp2_with (fail)
      go_ret
      exact ⟨(show Ending.returned (.int .i64 d) = .returned (.int .i64 r) by rw [← HR.out]; unfold laS; rw [if_neg hab, HD.out, if_pos (by omega)]; congr; omega), below_join HB.out K3.out hle⟩
  · have hab : a = b := by have : (a : Int) = (b : Int) := by simpa using h1
                           omega
    go_wp2_with (fail)
    go_ret
    exact ⟨(show Ending.returned (.int .i64 d) = .returned (.int .i64 r) by rw [← HR.out]; unfold laS; rw [if_pos hab, ← HD.out, hab]; unfold dS; rw [dV_self (sk hs).1]), below_join HB.out K3.out hle⟩
end Go.Proofs.YtbbadnlaelgmlaaGreat

namespace Go.Proofs.YtbbadnlaelgmlaaGreat
open Go.RowKit
set_option maxRecDepth 100000
set_option linter.unusedVariables false
set_option linter.unusedSimpArgs false

theorem all1 (a m : Int) : [a].all (fun x => ixB x m) = ixB a m := by simp
end Go.Proofs.YtbbadnlaelgmlaaGreat

namespace Go.Proofs.YtbbadnlaelgmlaaGreat
open Go.RowKit
set_option maxRecDepth 100000
set_option linter.unusedVariables false
set_option linter.unusedSimpArgs false

noncomputable def wiF (s : SiteD) (a : Nat) (most : Int) (k : Nat) : Bool := decide (0 ≤ laS s a k ∧ laS s a k ≤ most)
noncomputable def wiL (s : SiteD) (a : Nat) (most : Int) (k : Nat) : List Nat := (List.range k).filter (wiF s a most)
noncomputable def witI (s : SiteD) (a most : Int) : List Nat := if siteOk s = true ∧ ixB a s.hosts.length = true then wiL s a.toNat most s.hosts.length else []
theorem wiL_len (s : SiteD) (a : Nat) (most : Int) (k : Nat) : (wiL s a most k).length ≤ k := Nat.le_trans (List.length_filter_le _ _) (by rw [List.length_range]; omega)
theorem wiL_succ (s : SiteD) (a : Nat) (most : Int) (k : Nat) : wiL s a most (k + 1) = wiL s a most k ++ if wiF s a most k then [k] else [] := by unfold wiL; rw [List.range_succ, List.filter_append]; congr 1; cases h : wiF s a most k <;> simp [h]
theorem nats_snoc (l : List Nat) (k : Nat) : nats (l ++ [k]) = nats l ++ [(k : Int)] := by simp [nats]
set_option maxHeartbeats 8000000 in
theorem c_within1 (bs bm ba bo : Nat) (p : SP) (s : SiteD) (hs : siteOk s = true) (a k : Nat) (ha : a < s.hosts.length) (hk : k < s.hosts.length) (most : Int) (w : World) (hbox : SiBox w bs p s) (h : SiAt w p s) (hm : MxAt w bm (wS s))
    (h1 : w.heap[ba]? = some (.cells #[.int .i64 (a : Int)] 3 (0, 0))) (h2 : w.heap[bo]? = some (.cells #[.int .i64 most] 3 (0, 0))) (r : Bool) (hr : wiF s a most k = r) :
    Calls Tryz.prog 133 #[.int .i64 (k : Int), .pointer (some ⟨bs, 0, none⟩), .pointer (some ⟨bm, 0, none⟩), .pointer (some ⟨ba, 0, none⟩), .pointer (some ⟨bo, 0, none⟩)] w fun e w' => e = .returned (.bool r) ∧ Below w.heap.size w w' := by
  have HC := Lib.hid (c_neLatency p s hs a k ha hk w h)
  unfold siV at HC
  obtain ⟨z, hz⟩ : ∃ z, laS s a k = z := ⟨_, rfl⟩
  rw [hz] at HC
  have HR := Lib.hid (show decide (0 ≤ z ∧ z ≤ most) = r by rw [← hr]; unfold wiF; rw [hz])
  have HM := Lib.hid hm
  have g0 := hbox.c0; have g1 := hbox.c1; have g2 := hbox.c2; have g3 := hbox.c3; have g4 := hbox.c4; have g5 := hbox.c5; have g6 := hbox.c6
  have x0 := cell_of h1 (o := 0) rfl
  have HO := Lib.hid (fun (X : World) (hX : Below w.heap.size w X) => (cell_of (box_on h2 hX (Nat.le_refl _)) (o := 0) rfl : X.cell? ⟨bo, 0, none⟩ = some (.int .i64 most)))
  clear hr hz hm hbox h h1 h2
  go_enter Tryz.func133, Tryz.ntmps133
  go_wp2_with (refine ld_mx rfl _ rfl (.tmp 2) rfl rfl HM.out ?_)
  go_at_call 134
  refine HC.out.mono ?_
  rintro e w1 ⟨rfl, bb⟩
  have K1 := Lib.hid bb
  have y0 := HO.out w1 K1.out
  clear bb g0 g1 g2 g3 g4 g5 g6 x0
  rcases h1 : decide (0 ≤ z) with _ | _
  · have h1' := of_decide_eq_false h1
    obtain rfl : false = r := by rw [← HR.out]; symm; exact decide_eq_false (fun h => h1' h.1)
    go_wp2_with (fail)
    go_ret
    exact ⟨rfl, K1.out⟩
  · have h1' := of_decide_eq_true h1
    obtain rfl : decide (z ≤ most) = r := by rw [← HR.out]; simp [h1']
    go_wp2_with (fail)
    go_ret
    exact ⟨rfl, K1.out⟩
set_option maxHeartbeats 16000000 in
theorem c_neWithin (p : SP) (s : SiteD) (a most : Int) (r : List Nat) (hr : witI s a most = r) (w : World) (h : SiAt w p s) :
    Calls Tryz.prog 104 #[siV p s, .int .i64 a, .int .i64 most] w fun e w' => ∃ v, e = .returned v ∧ w'.ownsRow w.heap.size 3 1 v (nats r).length (ints (nats r)) ∧ Below w.heap.size w w' := by
  unfold siV
  have hmf : ∀ (fn : Fn) (first cap : Array Value) (w : World), (Instr.makeFunc fn first cap).run Tryz.prog w = .ok (.func fn first cap) w := fun _ _ _ _ => rfl
  have hzm := (zero_of_info len_zero).1
  obtain ⟨W1, h1⟩ : ∃ W, W = w.alloc (.cells #[.slice p.a1 s.feeds.length p.c1, .slice p.a2 s.brks.length p.c2, .slice p.a3 s.loops.length p.c3, .slice p.a4 s.racks.length p.c4, .int .i64 s.sw, .slice p.a5 s.links.length p.c5, .slice p.a6 s.hosts.length p.c6] 29) := ⟨_, rfl⟩
  have z1 : W1.heap.size = w.heap.size + 1 := by rw [h1, World.size_alloc]
  have B1 : Below w.heap.size w W1 := by rw [h1]; exact (Below.refl _ _).alloc (Nat.le_refl _) _
  have X1 : SiBox W1 w.heap.size p s := by rw [h1]; exact siBox_new _ _ _
  obtain ⟨W2, h2⟩ : ∃ W, W = W1.alloc (.cells #[.int .i64 a] 3) := ⟨_, rfl⟩
  have z2 : W2.heap.size = w.heap.size + 1 + 1 := by rw [h2, World.size_alloc, z1]
  have B2 : Below w.heap.size w W2 := by rw [h2]; exact B1.alloc (by omega) _
  have X2 : SiBox W2 w.heap.size p s := by rw [h2]; exact old_heap _ X1
  have M0 : W2.heap[w.heap.size + 1]? = some (.cells #[.int .i64 a] 3 (0, 0)) := by rw [h2, ← z1]; exact box_new _ _ _
  obtain ⟨W, h3⟩ : ∃ W, W = W2.alloc (.cells #[.int .i64 most] 3) := ⟨_, rfl⟩
  have z3 : W.heap.size = w.heap.size + 1 + 1 + 1 := by rw [h3, World.size_alloc, z2]
  have B3 : Below w.heap.size w W := by rw [h3]; exact B2.alloc (by omega) _
  have X3 : SiBox W w.heap.size p s := by rw [h3]; exact old_heap _ X2
  have M0 : W.heap[w.heap.size + 1]? = some (.cells #[.int .i64 a] 3 (0, 0)) := by rw [h3]; exact old_heap _ M0
  have M1 : W.heap[w.heap.size + 1 + 1]? = some (.cells #[.int .i64 most] 3 (0, 0)) := by rw [h3, ← z2]; exact box_new _ _ _
  have HB := Lib.hid B3
  have HZ := Lib.hid z3
  have HA := Lib.hid (fun (X : World) (hX : Below W.heap.size W X) => (h.on B3 (Nat.le_refl _)).on hX (Nat.le_refl _))
  have HF := Lib.hid (fun (X : World) (hX : Below W.heap.size W X) => (let z := X3.on hX (Nat.le_refl _); ⟨z.c0, z.c1, z.c2, z.c3, z.c4, z.c5, z.c6⟩ : X.cell? ⟨w.heap.size, 0, none⟩ = some (.slice p.a1 s.feeds.length p.c1) ∧ X.cell? ⟨w.heap.size, 1, none⟩ = some (.slice p.a2 s.brks.length p.c2) ∧ X.cell? ⟨w.heap.size, 2, none⟩ = some (.slice p.a3 s.loops.length p.c3) ∧ X.cell? ⟨w.heap.size, 3, none⟩ = some (.slice p.a4 s.racks.length p.c4) ∧ X.cell? ⟨w.heap.size, 4, none⟩ = some (.int .i64 s.sw) ∧ X.cell? ⟨w.heap.size, 5, none⟩ = some (.slice p.a5 s.links.length p.c5) ∧ X.cell? ⟨w.heap.size, 6, none⟩ = some (.slice p.a6 s.hosts.length p.c6)))
  have HX := Lib.hid (fun (X : World) (hX : Below W.heap.size W X) => X3.on hX (Nat.le_refl _))
  have HM0 := Lib.hid (fun (X : World) (hX : Below W.heap.size W X) => (box_on M0 hX (Nat.le_refl _) : X.heap[w.heap.size + 1]? = some (.cells #[.int .i64 a] 3 (0, 0))))
  have HM1 := Lib.hid (fun (X : World) (hX : Below W.heap.size W X) => (box_on M1 hX (Nat.le_refl _) : X.heap[w.heap.size + 1 + 1]? = some (.cells #[.int .i64 most] 3 (0, 0))))
  have HKW := Lib.hid (Below.refl W.heap.size W)
  have hle := HB.out.size
  have n0 := h.feeds.1; have m0 := h.feeds.2.1
  have n1 := h.brks.1; have m1 := h.brks.2.1
  have n2 := h.loops.1; have m2 := h.loops.2.1
  have n3 := h.racks.1; have m3 := h.racks.2.1
  have n4 := h.links.1; have m4 := h.links.2.1
  have n5 := h.hosts.1; have m5 := h.hosts.2.1
  unfold maxLen at m0 m1 m2 m3 m4 m5
  obtain ⟨r0, hr0⟩ : ∃ r, siteOk s = r := ⟨_, rfl⟩
  have HR0 := Lib.hid hr0
  have HR := Lib.hid hr
  clear hr hr0
  obtain ⟨r1, hr1⟩ : ∃ r, [a].all (fun x => ixB x (s.hosts.length : Int)) = r := ⟨_, rfl⟩
  have HR1 := Lib.hid hr1
  clear hr1
  clear h z1 B1 X1 z2 B2 X2 z3 B3 X3 M0 M1
  obtain ⟨f0, f1, f2, f3, f4, f5, f6⟩ := HF.out W HKW.out
  have c00 := cell_of (HM0.out W HKW.out) (o := 0) rfl
  have c10 := cell_of (HM1.out W HKW.out) (o := 0) rfl
  rw [h3, h2, h1] at f0 f1 f2 f3 f4 f5 f6 c00 c10
  generalize hBB : w.heap.size = B at *
  go_enter Tryz.func104, Tryz.ntmps104
  go_wp2_with (fail)
  rw [← h1, ← h2, ← h3]
  clear h1 h2 h3 f0 f1 f2 f3 f4 f5 f6 c00 c10
  go_at_call 44
  refine (c_stValid p s r0 HR0.out W (HA.out W HKW.out)).mono ?_
  rintro e v1 ⟨rfl, bb⟩
  have HKv1 := Lib.hid (below_join HKW.out bb HKW.out.size)
  clear bb
  cases r0
  · skip
    go_wp2_with (fail)
    obtain rfl : [] = r := by rw [← HR.out]; unfold witI; rw [if_neg (by rw [HR0.out]; simp)]
    go_ret
    exact ⟨_, rfl, World.ownsRow_nil _ _ _ _, below_join HB.out HKv1.out hle⟩
  have a0 := cell_of (HM0.out v1 HKv1.out) (o := 0) rfl
  obtain ⟨X152, hX152⟩ : ∃ X, X = v1.alloc (.cells #[.int .i64 a] 3) := ⟨_, rfl⟩
  have b152 : Below v1.heap.size v1 X152 := by subst hX152; exact (Below.refl _ _).alloc (Nat.le_refl _) _
  have HKX152 := Lib.hid (below_join HKv1.out b152 HKv1.out.size)
  have RLX152 := Lib.hid (show Rw 1 inF X152 (some ⟨v1.heap.size, 0, none⟩) 1 [a] by subst hX152; exact rw_lit [a] (by simp [maxLen]) _)
  clear b152
  obtain ⟨f0, f1, f2, f3, f4, f5, f6⟩ := HF.out v1 HKv1.out
  go_wp2_with (fail)
  rw [← hX152]
  clear hX152
  clear f0 f1 f2 f3 f4 f5 f6
  go_at_call 130
  refine (c_areIx (s.hosts.length : Int) (some ⟨v1.heap.size, 0, none⟩) 1 [a] X152 RLX152.out r1 HR1.out).mono ?_
  rintro e v153 ⟨rfl, bb⟩
  have HKv153 := Lib.hid (below_join HKX152.out bb HKX152.out.size)
  have RLv153 := Lib.hid (RLX152.out.on bb (Nat.le_refl _))
  clear bb
  clear a0
  have HRA := Lib.hid ((all1 a (s.hosts.length : Int)).symm.trans HR1.out)
  cases r1
  · skip
    go_wp2_with (fail)
    obtain rfl : [] = r := by
      rw [← HR.out]
      unfold witI
      rw [if_neg (by rintro ⟨-, h1⟩; have := HRA.out; rw [h1] at this; cases this)]
    go_ret
    exact ⟨_, rfl, World.ownsRow_nil _ _ _ _, below_join HB.out HKv153.out hle⟩
  have hab := HRA.out
  rw [ixB_iff] at hab
  obtain ⟨ua, rfl⟩ : ∃ u : Nat, a = u := ⟨a.toNat, by omega⟩
  have hua : ua < s.hosts.length := by omega
  obtain rfl : wiL s ua most s.hosts.length = r := by
    rw [← HR.out]
    unfold witI
    rw [if_pos ⟨HR0.out, ixB_iff.2 hab⟩]
    rfl
  have hnh := (siteOk_iff.1 HR0.out).nhosts.2
  have HOL := Lib.hid (fun (X : World) (hX : Below W.heap.size W X) => c_ofLinks p s HR0.out X (HA.out X hX))
  unfold siV at HOL
  clear hab
  obtain ⟨f0, f1, f2, f3, f4, f5, f6⟩ := HF.out v153 HKv153.out
  go_wp2_with (fail)
  clear f0 f1 f2 f3 f4 f5 f6
  go_at_call 132
  refine (HOL.out v153 HKv153.out).mono ?_
  rintro e v304 ⟨rfl, bb⟩
  have HKv304 := Lib.hid (below_join HKv153.out bb HKv153.out.size)
  clear bb
  go_wp2_with (fail)
  go_at_call 131
  refine (c_waysS HR0.out v304).mono ?_
  rintro e v305 ⟨rfl, bb⟩
  have HKv305 := Lib.hid (below_join HKv304.out bb HKv304.out.size)
  clear bb
  obtain ⟨X306, hX306⟩ : ∃ X, X = v305.alloc (.cells (matA (wS s)) 159) := ⟨_, rfl⟩
  have b306 : Below v305.heap.size v305 X306 := by subst hX306; exact (Below.refl _ _).alloc (Nat.le_refl _) _
  have HKX306 := Lib.hid (below_join HKv305.out b306 HKv305.out.size)
  have MXX306 := Lib.hid (show MxAt X306 v305.heap.size (wS s) by subst hX306; exact MxAt.new _ _)
  clear b306
  obtain ⟨f0, f1, f2, f3, f4, f5, f6⟩ := HF.out X306 HKX306.out
  go_wp2_with (refine st_mx rfl rfl (.tmp 7) (.tmp 25) rfl rfl rfl (MxAt.new _ _) ?_; rw [World.setRow_alloc_new, ← hX306]; clear hX306 hzm)
  clear f0 f1 f2 f3 f4 f5 f6
  obtain ⟨Nm, hNm⟩ : ∃ n, v305.heap.size = n := ⟨_, rfl⟩
  have MXN := MXX306
  rw [hNm] at MXN ⊢
  clear hNm
  have HC1 := Lib.hid (fun (k : Nat) (hk : k < s.hosts.length) (r : Bool) (hr : wiF s ua most k = r) (Y : World) (hY : Below X306.heap.size X306 Y) => c_within1 B Nm (B + 1) (B + 1 + 1) p s HR0.out ua k hua hk most Y (HX.out Y (below_join HKX306.out hY HKX306.out.size)) (HA.out Y (below_join HKX306.out hY HKX306.out.size)) (MXN.out.on hY (Nat.le_refl _)) (HM0.out Y (below_join HKX306.out hY HKX306.out.size)) (HM1.out Y (below_join HKX306.out hY HKX306.out.size)) r hr)
  obtain ⟨i1, hi1, hz1, hz2, hz3⟩ := info_parts int_info
  go_loopw [9, 30] (fun v i wr => ∃ k : Nat, k ≤ s.hosts.length ∧ i = .int .i64 (k : Int) ∧ Hid (Below X306.heap.size X306 wr) ∧ Hid (wr.ownsRow X306.heap.size 3 1 v (nats (wiL s ua most k)).length (ints (nats (wiL s ua most k))))) (fun _ i _ => s.hosts.length - (intOf i).toNat)
  case atStart => exact ⟨0, Nat.zero_le _, rfl, Lib.hid (Below.refl _ _), Lib.hid (World.ownsRow_nil _ _ _ _)⟩
  case round =>
    obtain ⟨k, hk, rfl, hB, ho⟩ := hrel
    have hki : ((k : Nat) : Int).toNat = k := by omega
    by_cases hlt : k < s.hosts.length
    · have hkl : (k : Int) < (s.hosts.length : Int) := by omega
      have hln : (nats (wiL s ua most k)).length ≤ 16 := by rw [nats_len]; have := wiL_len s ua most k; omega
      obtain ⟨nn, hnn⟩ : ∃ m, m = (nats (wiL s ua most k)).length := ⟨_, rfl⟩
      rw [← hnn] at ho hln
      have HNN := Lib.hid hnn
      obtain ⟨fb, hfb⟩ : ∃ r, wiF s ua most k = r := ⟨_, rfl⟩
      have HFB := Lib.hid hfb
      have HC2 := Lib.hid (HC1.out k hlt fb hfb wr hB.out)
      obtain ⟨As, cs, rfl⟩ := own_shape ho.out
      have hz3' := hB.out.size
      clear hnn hfb
      go_wp2_with (fail)
      go_at_call 133
      refine HC2.out.mono ?_
      rintro e wz ⟨rfl, bz⟩
      have HBz := Lib.hid (below_join hB.out bz hB.out.size)
      have HOz := Lib.hid (own_on ho.out bz (Nat.le_refl _))
      have hz4 := bz.size
      clear bz
      cases fb
      · have HO := Lib.hid (show wz.ownsRow X306.heap.size 3 1 (.slice As nn cs) (nats (wiL s ua most (k + 1))).length (ints (nats (wiL s ua most (k + 1)))) by
          rw [wiL_succ, HFB.out]
          simp only [Bool.false_eq_true, if_false, List.append_nil]
          rw [← HNN.out]; exact HOz.out)
        go_wp2_with (fail)
        go_roundw
        case rel => exact ⟨k + 1, by omega, by go_num, HBz, HO⟩
        case measure => simp only [intOf]; omega
      · go_wp2_with (at_builtin; refine wpList_append_lies _ rfl _ _ 91 rfl X306.heap.size 3 i1 (.int .i64 0) 1 8 Tryz.underlying91 hi1 hz1 hz2 hz3 rfl (by decide) (.slice As nn cs) nn _ rfl (HOz.out.alloc _) ⟨wz.heap.size, 0, none⟩ 1 1 [.int .i64 (k : Int)] rfl rfl (World.news_of_block (heap_alloc_new _ _)) (by simp [Value.oneCell']) (by decide) (by unfold maxLen; omega) (by omega) (by simp; omega) (wz.heap.size + 1) (by simp) ?_; intro g4 cap4 Z hown hgrow _ _; have HBZ := Lib.hid ((HBz.out.alloc HBz.out.size _).grown hgrow (by simp; omega) (fun k hk => (ownsRow_lt HOz.out hk).1)); have HOZ := Lib.hid hown; clear hown hgrow)
        have HO := Lib.hid (show Z.ownsRow X306.heap.size 3 1 (.slice (some ⟨g4, 0, none⟩) (nn + 1) cap4) (nats (wiL s ua most (k + 1))).length (ints (nats (wiL s ua most (k + 1)))) by
          rw [wiL_succ, HFB.out]
          simp only [if_true]
          rw [nats_snoc, List.length_append, List.length_singleton, ← HNN.out, ints_snoc]
          exact HOZ.out)
        go_roundw
        case rel => exact ⟨k + 1, by omega, by go_num, HBZ, HO⟩
        case measure => simp only [intOf]; omega
    · obtain rfl : k = s.hosts.length := by omega
      go_wp2_with (fail)
      go_ret
      exact ⟨_, rfl, own_mono ho.out (Nat.le_trans hle HKX306.out.size), below_join HB.out (below_join HKX306.out hB.out HKX306.out.size) hle⟩
end Go.Proofs.YtbbadnlaelgmlaaGreat

namespace Go.Proofs.YtbbadnlaelgmlaaGreat
open Go.RowKit
set_option maxRecDepth 100000
set_option linter.unusedVariables false
set_option linter.unusedSimpArgs false

set_option maxHeartbeats 8000000 in
theorem c_memNeg (p : SP) (s : SiteD) (d : Nat) (n : Int) (w : World) (h : SiAt w p s) (hd : ∀ X : World, SiAt X p s → Calls Tryz.prog 127 #[siV p s, .int .u8 (d : Int)] X fun e w' => (∃ f, e = .returned (.tuple #[.int .i64 (cntD s d), f])) ∧ Below X.heap.size X w') (hn : ixB n (cntD s d) = false) :
    Calls Tryz.prog 141 #[siV p s, .int .u8 (d : Int), .int .i64 n] w fun e w' => ∃ v, e = .returned v ∧ w'.ownsRow w.heap.size 3 1 v (memD s d n).length (ints (memD s d n)) ∧ Below w.heap.size w w' := by
  have HV := Lib.hid hd
  have HM := Lib.hid (show memD s d n = [] by unfold memD; rw [hn]; rfl)
  have HN := Lib.hid hn
  clear hd hn
  unfold siV at HV
  rw [HM.out]
  unfold siV
  obtain ⟨W, hW⟩ : ∃ W, W = w.alloc (.cells #[.slice p.a1 s.feeds.length p.c1, .slice p.a2 s.brks.length p.c2, .slice p.a3 s.loops.length p.c3, .slice p.a4 s.racks.length p.c4, .int .i64 s.sw, .slice p.a5 s.links.length p.c5, .slice p.a6 s.hosts.length p.c6] 29) := ⟨_, rfl⟩
  have B0 : Below w.heap.size w W := by subst hW; exact (Below.refl _ _).alloc (Nat.le_refl _) _
  have HB0 := Lib.hid B0
  have HX := Lib.hid (show SiBox W w.heap.size p s by subst hW; exact siBox_new _ _ _)
  have HA := Lib.hid (h.on B0 (Nat.le_refl _))
  have HF := Lib.hid (fun (X : World) (hX : Below W.heap.size W X) => (let z := HX.out.on hX (Nat.le_refl _); ⟨z.c0, z.c1, z.c2, z.c3, z.c4, z.c5, z.c6⟩ : X.cell? ⟨w.heap.size, 0, none⟩ = some (.slice p.a1 s.feeds.length p.c1) ∧ X.cell? ⟨w.heap.size, 1, none⟩ = some (.slice p.a2 s.brks.length p.c2) ∧ X.cell? ⟨w.heap.size, 2, none⟩ = some (.slice p.a3 s.loops.length p.c3) ∧ X.cell? ⟨w.heap.size, 3, none⟩ = some (.slice p.a4 s.racks.length p.c4) ∧ X.cell? ⟨w.heap.size, 4, none⟩ = some (.int .i64 s.sw) ∧ X.cell? ⟨w.heap.size, 5, none⟩ = some (.slice p.a5 s.links.length p.c5) ∧ X.cell? ⟨w.heap.size, 6, none⟩ = some (.slice p.a6 s.hosts.length p.c6)))
  have m1 := h.feeds.1; have m2 := h.brks.1; have m3 := h.loops.1; have m4 := h.racks.1; have m5 := h.links.1; have m6 := h.hosts.1
  have n1 := h.feeds.2.1; have n2 := h.brks.2.1; have n3 := h.loops.2.1; have n4 := h.racks.2.1; have n5 := h.links.2.1; have n6 := h.hosts.2.1
  unfold maxLen at n1 n2 n3 n4 n5 n6
  have KW := Lib.hid (Below.refl W.heap.size W)
  have hlw : w.heap.size < W.heap.size := HX.out.lt
  clear B0 h
  obtain ⟨f0, f1, f2, f3, f4, f5, f6⟩ := HF.out W KW.out
  rw [hW] at f0 f1 f2 f3 f4 f5 f6
  go_enter Tryz.func141, Tryz.ntmps141
  go_wp2_with (fail)
  rw [← hW]
  clear hW f0 f1 f2 f3 f4 f5 f6
  go_at_call 127
  refine (HV.out W HA.out).mono ?_
  rintro e w1 ⟨⟨f, rfl⟩, b1⟩
  have K1 := Lib.hid b1
  clear b1
  obtain ⟨cc, hcc⟩ : ∃ c, cntD s d = c := ⟨_, rfl⟩
  rw [hcc] at HN ⊢
  go_wp2_with (fail)
  go_at_call 77
  refine (c_isIndex n cc false HN.out w1).mono ?_
  rintro e w2 ⟨rfl, b2⟩
  have K2 := Lib.hid (below_join K1.out b2 K1.out.size)
  clear b2
  go_wp2_with (fail)
  go_ret
  exact ⟨_, rfl, World.ownsRow_nil _ _ _ _, below_join HB0.out K2.out HB0.out.size⟩
set_option maxHeartbeats 16000000 in
theorem c_mem1 (p : SP) (s : SiteD) (hok : siteOk s = true) (n : Int) (hix : ixB n (s.hosts.length : Int) = true) (w : World) (h : SiAt w p s) :
    Calls Tryz.prog 141 #[siV p s, .int .u8 1, .int .i64 n] w fun e w' => ∃ v, e = .returned v ∧ w'.ownsRow w.heap.size 3 1 v (nats ((List.range s.hosts.length).filter (fun h => domAt s h 1 == n))).length (ints (nats ((List.range s.hosts.length).filter (fun h => domAt s h 1 == n)))) ∧ Below w.heap.size w w' := by
  have hsok := siteOk_iff.1 hok
  have hnh := hsok.nhosts
  have HV := Lib.hid (fun (X : World) (hX : SiAt X p s) => c_doms1 p s hok X hX)
  have HSOK := Lib.hid hsok
  have HIX := Lib.hid hix
  unfold siV at HV
  clear hok hsok hix
  unfold siV
  obtain ⟨W, hW⟩ : ∃ W, W = w.alloc (.cells #[.slice p.a1 s.feeds.length p.c1, .slice p.a2 s.brks.length p.c2, .slice p.a3 s.loops.length p.c3, .slice p.a4 s.racks.length p.c4, .int .i64 s.sw, .slice p.a5 s.links.length p.c5, .slice p.a6 s.hosts.length p.c6] 29) := ⟨_, rfl⟩
  have B0 : Below w.heap.size w W := by subst hW; exact (Below.refl _ _).alloc (Nat.le_refl _) _
  have HB0 := Lib.hid B0
  have HX := Lib.hid (show SiBox W w.heap.size p s by subst hW; exact siBox_new _ _ _)
  have HA := Lib.hid (h.on B0 (Nat.le_refl _))
  have HF := Lib.hid (fun (X : World) (hX : Below W.heap.size W X) => (let z := HX.out.on hX (Nat.le_refl _); ⟨z.c0, z.c1, z.c2, z.c3, z.c4, z.c5, z.c6⟩ : X.cell? ⟨w.heap.size, 0, none⟩ = some (.slice p.a1 s.feeds.length p.c1) ∧ X.cell? ⟨w.heap.size, 1, none⟩ = some (.slice p.a2 s.brks.length p.c2) ∧ X.cell? ⟨w.heap.size, 2, none⟩ = some (.slice p.a3 s.loops.length p.c3) ∧ X.cell? ⟨w.heap.size, 3, none⟩ = some (.slice p.a4 s.racks.length p.c4) ∧ X.cell? ⟨w.heap.size, 4, none⟩ = some (.int .i64 s.sw) ∧ X.cell? ⟨w.heap.size, 5, none⟩ = some (.slice p.a5 s.links.length p.c5) ∧ X.cell? ⟨w.heap.size, 6, none⟩ = some (.slice p.a6 s.hosts.length p.c6)))
  have m1 := h.feeds.1; have m2 := h.brks.1; have m3 := h.loops.1; have m4 := h.racks.1; have m5 := h.links.1; have m6 := h.hosts.1
  have n1 := h.feeds.2.1; have n2 := h.brks.2.1; have n3 := h.loops.2.1; have n4 := h.racks.2.1; have n5 := h.links.2.1; have n6 := h.hosts.2.1
  unfold maxLen at n1 n2 n3 n4 n5 n6
  have KW := Lib.hid (Below.refl W.heap.size W)
  have hlw : w.heap.size < W.heap.size := HX.out.lt
  clear B0 h
  obtain ⟨f0, f1, f2, f3, f4, f5, f6⟩ := HF.out W KW.out
  rw [hW] at f0 f1 f2 f3 f4 f5 f6
  go_enter Tryz.func141, Tryz.ntmps141
  go_wp2_with (fail)
  rw [← hW]
  clear hW f0 f1 f2 f3 f4 f5 f6
  go_at_call 127
  refine (HV.out W HA.out).mono ?_
  rintro e w1 ⟨bs, bt, rfl, hb1, ha1, hr1, b1⟩
  have K1 := Lib.hid b1
  have HB1 := Lib.hid hb1
  have HA1 := Lib.hid ha1
  have HR1 := Lib.hid hr1
  clear b1 hb1 ha1 hr1
  go_wp2_with (fail)
  go_at_call 77
  refine (c_isIndex n (s.hosts.length : Int) true HIX.out w1).mono ?_
  rintro e w2 ⟨rfl, b2⟩
  have K2 := Lib.hid (below_join K1.out b2 K1.out.size)
  have KK := Lib.hid b2
  clear b2
  have HB2 := Lib.hid (HB1.out.on KK.out (Nat.le_refl _))
  have HA2 := Lib.hid (HA1.out.on KK.out (Nat.le_refl _))
  have HR2 := Lib.hid (HR1.out.on KK.out (Nat.le_refl _))
  have HC := Lib.hid (fun (k : Nat) (hk : k < s.hosts.length) (X : World) (hb : SiBox X bs p s) (ha : SiAt X p s) (hr : RkBox X bt bs) (hsok : SiteOk s) => (show Calls Tryz.prog 152 #[.int .i64 (k : Int)] X fun e w' => e = .returned (.int .i64 (k : Int)) ∧ Below X.heap.size X w' from c_dom2 (k : Int) X))
  obtain ⟨i1, hi1, hz1, hz2, hz3⟩ := info_parts int_info
  obtain ⟨f0, f1, f2, f3, f4, f5, f6⟩ := HF.out w2 K2.out
  go_wp2_with (fail)
  clear f0 f1 f2 f3 f4 f5 f6
  go_loopw [9, 24] (fun v i wr => ∃ k : Nat, k ≤ s.hosts.length ∧ i = .int .i64 (k : Int) ∧ Hid (Below w2.heap.size w2 wr) ∧ Hid (wr.ownsRow w2.heap.size 3 1 v (nats ((List.range k).filter (fun h => domAt s h 1 == n))).length (ints (nats ((List.range k).filter (fun h => domAt s h 1 == n)))))) (fun _ i _ => s.hosts.length - (intOf i).toNat)
  case atStart => exact ⟨0, Nat.zero_le _, rfl, Lib.hid (Below.refl _ _), Lib.hid (World.ownsRow_nil _ _ _ _)⟩
  case round =>
    obtain ⟨k, hk, rfl, hB, ho⟩ := hrel
    have hki : ((k : Nat) : Int).toNat = k := by omega
    by_cases hlt : k < s.hosts.length
    · have hkl : (k : Int) < (s.hosts.length : Int) := by omega
      have hln : (nats ((List.range k).filter (fun h => domAt s h 1 == n))).length ≤ 16 := by rw [nats_len]; exact Nat.le_trans (List.length_filter_le _ _) (by rw [List.length_range]; omega)
      obtain ⟨nn, hnn⟩ : ∃ m, m = (nats ((List.range k).filter (fun h => domAt s h 1 == n))).length := ⟨_, rfl⟩
      obtain ⟨x, hx⟩ : ∃ x, x = (k : Int) := ⟨_, rfl⟩
      rw [← hnn] at ho hln
      have HNN := Lib.hid hnn
      have HXX := Lib.hid (show domAt s k 1 = x from hx.symm)
      have HC1 := Lib.hid (show Calls Tryz.prog 152 #[.int .i64 (k : Int)] wr fun e w' => e = .returned (.int .i64 x) ∧ Below wr.heap.size wr w' from (HC.out k hlt wr (HB2.out.on hB.out (Nat.le_refl _)) (HA2.out.on hB.out (Nat.le_refl _)) (HR2.out.on hB.out (Nat.le_refl _)) HSOK.out).mono (fun e w' h => ⟨by rw [hx]; exact h.1, h.2⟩))
      obtain ⟨As, cs, rfl⟩ := own_shape ho.out
      have hz3' := hB.out.size
      clear hnn hx
      go_wp2_with (fail)
      go_at_call 152
      refine HC1.out.mono ?_
      rintro e wz ⟨rfl, bz⟩
      have HBz := Lib.hid (below_join hB.out bz hB.out.size)
      have HOz := Lib.hid (own_on ho.out bz (Nat.le_refl _))
      have hz4 := bz.size
      clear bz
      rcases hf : (x == n) with _ | _
      · have HO := Lib.hid (show wz.ownsRow w2.heap.size 3 1 (.slice As nn cs) (nats ((List.range (k + 1)).filter (fun h => domAt s h 1 == n))).length (ints (nats ((List.range (k + 1)).filter (fun h => domAt s h 1 == n)))) by
          rw [range_filter, show (domAt s k 1 == n) = false by rw [HXX.out]; exact hf]
          simp only [Bool.false_eq_true, if_false, List.append_nil]
          rw [← HNN.out]; exact HOz.out)
        go_wp2_with (fail)
        go_roundw
        case rel => exact ⟨k + 1, by omega, by go_num, HBz, HO⟩
        case measure => simp only [intOf]; omega
      · have HFF := Lib.hid hf
        go_wp2_with (at_builtin; refine wpList_append_lies _ rfl _ _ 91 rfl w2.heap.size 3 i1 (.int .i64 0) 1 8 Tryz.underlying91 hi1 hz1 hz2 hz3 rfl (by decide) (.slice As nn cs) nn _ rfl (HOz.out.alloc _) ⟨wz.heap.size, 0, none⟩ 1 1 [.int .i64 (k : Int)] rfl rfl (World.news_of_block (heap_alloc_new _ _)) (by simp [Value.oneCell']) (by decide) (by unfold maxLen; omega) (by omega) (by simp; omega) (wz.heap.size + 1) (by simp) ?_; intro g4 cap4 Z hown hgrow _ _; have HBZ := Lib.hid ((HBz.out.alloc HBz.out.size _).grown hgrow (by simp; omega) (fun k hk => (ownsRow_lt HOz.out hk).1)); have HOZ := Lib.hid hown; clear hown hgrow)
        have HO := Lib.hid (show Z.ownsRow w2.heap.size 3 1 (.slice (some ⟨g4, 0, none⟩) (nn + 1) cap4) (nats ((List.range (k + 1)).filter (fun h => domAt s h 1 == n))).length (ints (nats ((List.range (k + 1)).filter (fun h => domAt s h 1 == n)))) by
          rw [range_filter, show (domAt s k 1 == n) = true by rw [HXX.out]; exact HFF.out]
          simp only [if_true]
          rw [show nats (((List.range k).filter (fun h => domAt s h 1 == n)) ++ [k]) = (nats ((List.range k).filter (fun h => domAt s h 1 == n))) ++ [(k : Int)] by simp [nats], List.length_append, List.length_singleton, ← HNN.out, ints_snoc]
          exact HOZ.out)
        go_roundw
        case rel => exact ⟨k + 1, by omega, by go_num, HBZ, HO⟩
        case measure => simp only [intOf]; omega
    · obtain rfl : k = s.hosts.length := by omega
      go_wp2_with (fail)
      go_ret
      exact ⟨_, rfl, own_mono ho.out (Nat.le_trans HB0.out.size K2.out.size), below_join HB0.out (below_join K2.out hB.out K2.out.size) HB0.out.size⟩
set_option maxHeartbeats 16000000 in
theorem c_mem2 (p : SP) (s : SiteD) (hok : siteOk s = true) (n : Int) (hix : ixB n (s.racks.length : Int) = true) (w : World) (h : SiAt w p s) :
    Calls Tryz.prog 141 #[siV p s, .int .u8 2, .int .i64 n] w fun e w' => ∃ v, e = .returned v ∧ w'.ownsRow w.heap.size 3 1 v (nats ((List.range s.hosts.length).filter (fun h => domAt s h 2 == n))).length (ints (nats ((List.range s.hosts.length).filter (fun h => domAt s h 2 == n)))) ∧ Below w.heap.size w w' := by
  have hsok := siteOk_iff.1 hok
  have hnh := hsok.nhosts
  have HV := Lib.hid (fun (X : World) (hX : SiAt X p s) => c_doms2 p s hok X hX)
  have HSOK := Lib.hid hsok
  have HIX := Lib.hid hix
  unfold siV at HV
  clear hok hsok hix
  unfold siV
  obtain ⟨W, hW⟩ : ∃ W, W = w.alloc (.cells #[.slice p.a1 s.feeds.length p.c1, .slice p.a2 s.brks.length p.c2, .slice p.a3 s.loops.length p.c3, .slice p.a4 s.racks.length p.c4, .int .i64 s.sw, .slice p.a5 s.links.length p.c5, .slice p.a6 s.hosts.length p.c6] 29) := ⟨_, rfl⟩
  have B0 : Below w.heap.size w W := by subst hW; exact (Below.refl _ _).alloc (Nat.le_refl _) _
  have HB0 := Lib.hid B0
  have HX := Lib.hid (show SiBox W w.heap.size p s by subst hW; exact siBox_new _ _ _)
  have HA := Lib.hid (h.on B0 (Nat.le_refl _))
  have HF := Lib.hid (fun (X : World) (hX : Below W.heap.size W X) => (let z := HX.out.on hX (Nat.le_refl _); ⟨z.c0, z.c1, z.c2, z.c3, z.c4, z.c5, z.c6⟩ : X.cell? ⟨w.heap.size, 0, none⟩ = some (.slice p.a1 s.feeds.length p.c1) ∧ X.cell? ⟨w.heap.size, 1, none⟩ = some (.slice p.a2 s.brks.length p.c2) ∧ X.cell? ⟨w.heap.size, 2, none⟩ = some (.slice p.a3 s.loops.length p.c3) ∧ X.cell? ⟨w.heap.size, 3, none⟩ = some (.slice p.a4 s.racks.length p.c4) ∧ X.cell? ⟨w.heap.size, 4, none⟩ = some (.int .i64 s.sw) ∧ X.cell? ⟨w.heap.size, 5, none⟩ = some (.slice p.a5 s.links.length p.c5) ∧ X.cell? ⟨w.heap.size, 6, none⟩ = some (.slice p.a6 s.hosts.length p.c6)))
  have m1 := h.feeds.1; have m2 := h.brks.1; have m3 := h.loops.1; have m4 := h.racks.1; have m5 := h.links.1; have m6 := h.hosts.1
  have n1 := h.feeds.2.1; have n2 := h.brks.2.1; have n3 := h.loops.2.1; have n4 := h.racks.2.1; have n5 := h.links.2.1; have n6 := h.hosts.2.1
  unfold maxLen at n1 n2 n3 n4 n5 n6
  have KW := Lib.hid (Below.refl W.heap.size W)
  have hlw : w.heap.size < W.heap.size := HX.out.lt
  clear B0 h
  obtain ⟨f0, f1, f2, f3, f4, f5, f6⟩ := HF.out W KW.out
  rw [hW] at f0 f1 f2 f3 f4 f5 f6
  go_enter Tryz.func141, Tryz.ntmps141
  go_wp2_with (fail)
  rw [← hW]
  clear hW f0 f1 f2 f3 f4 f5 f6
  go_at_call 127
  refine (HV.out W HA.out).mono ?_
  rintro e w1 ⟨bs, bt, rfl, hb1, ha1, hr1, b1⟩
  have K1 := Lib.hid b1
  have HB1 := Lib.hid hb1
  have HA1 := Lib.hid ha1
  have HR1 := Lib.hid hr1
  clear b1 hb1 ha1 hr1
  go_wp2_with (fail)
  go_at_call 77
  refine (c_isIndex n (s.racks.length : Int) true HIX.out w1).mono ?_
  rintro e w2 ⟨rfl, b2⟩
  have K2 := Lib.hid (below_join K1.out b2 K1.out.size)
  have KK := Lib.hid b2
  clear b2
  have HB2 := Lib.hid (HB1.out.on KK.out (Nat.le_refl _))
  have HA2 := Lib.hid (HA1.out.on KK.out (Nat.le_refl _))
  have HR2 := Lib.hid (HR1.out.on KK.out (Nat.le_refl _))
  have HC := Lib.hid (fun (k : Nat) (hk : k < s.hosts.length) (X : World) (hb : SiBox X bs p s) (ha : SiAt X p s) (hr : RkBox X bt bs) (hsok : SiteOk s) => (show Calls Tryz.prog 153 #[.int .i64 (k : Int), .pointer (some ⟨bs, 0, none⟩)] X fun e w' => e = .returned (.int .i64 (rackAt s k)) ∧ Below X.heap.size X w' from c_dom3 bs p s k hk X hb ha))
  obtain ⟨i1, hi1, hz1, hz2, hz3⟩ := info_parts int_info
  obtain ⟨f0, f1, f2, f3, f4, f5, f6⟩ := HF.out w2 K2.out
  go_wp2_with (fail)
  clear f0 f1 f2 f3 f4 f5 f6
  go_loopw [9, 24] (fun v i wr => ∃ k : Nat, k ≤ s.hosts.length ∧ i = .int .i64 (k : Int) ∧ Hid (Below w2.heap.size w2 wr) ∧ Hid (wr.ownsRow w2.heap.size 3 1 v (nats ((List.range k).filter (fun h => domAt s h 2 == n))).length (ints (nats ((List.range k).filter (fun h => domAt s h 2 == n)))))) (fun _ i _ => s.hosts.length - (intOf i).toNat)
  case atStart => exact ⟨0, Nat.zero_le _, rfl, Lib.hid (Below.refl _ _), Lib.hid (World.ownsRow_nil _ _ _ _)⟩
  case round =>
    obtain ⟨k, hk, rfl, hB, ho⟩ := hrel
    have hki : ((k : Nat) : Int).toNat = k := by omega
    by_cases hlt : k < s.hosts.length
    · have hkl : (k : Int) < (s.hosts.length : Int) := by omega
      have hln : (nats ((List.range k).filter (fun h => domAt s h 2 == n))).length ≤ 16 := by rw [nats_len]; exact Nat.le_trans (List.length_filter_le _ _) (by rw [List.length_range]; omega)
      obtain ⟨nn, hnn⟩ : ∃ m, m = (nats ((List.range k).filter (fun h => domAt s h 2 == n))).length := ⟨_, rfl⟩
      obtain ⟨x, hx⟩ : ∃ x, x = (rackAt s k) := ⟨_, rfl⟩
      rw [← hnn] at ho hln
      have HNN := Lib.hid hnn
      have HXX := Lib.hid (show domAt s k 2 = x from hx.symm)
      have HC1 := Lib.hid (show Calls Tryz.prog 153 #[.int .i64 (k : Int), .pointer (some ⟨bs, 0, none⟩)] wr fun e w' => e = .returned (.int .i64 x) ∧ Below wr.heap.size wr w' from (HC.out k hlt wr (HB2.out.on hB.out (Nat.le_refl _)) (HA2.out.on hB.out (Nat.le_refl _)) (HR2.out.on hB.out (Nat.le_refl _)) HSOK.out).mono (fun e w' h => ⟨by rw [hx]; exact h.1, h.2⟩))
      obtain ⟨As, cs, rfl⟩ := own_shape ho.out
      have hz3' := hB.out.size
      clear hnn hx
      go_wp2_with (fail)
      go_at_call 153
      refine HC1.out.mono ?_
      rintro e wz ⟨rfl, bz⟩
      have HBz := Lib.hid (below_join hB.out bz hB.out.size)
      have HOz := Lib.hid (own_on ho.out bz (Nat.le_refl _))
      have hz4 := bz.size
      clear bz
      rcases hf : (x == n) with _ | _
      · have HO := Lib.hid (show wz.ownsRow w2.heap.size 3 1 (.slice As nn cs) (nats ((List.range (k + 1)).filter (fun h => domAt s h 2 == n))).length (ints (nats ((List.range (k + 1)).filter (fun h => domAt s h 2 == n)))) by
          rw [range_filter, show (domAt s k 2 == n) = false by rw [HXX.out]; exact hf]
          simp only [Bool.false_eq_true, if_false, List.append_nil]
          rw [← HNN.out]; exact HOz.out)
        go_wp2_with (fail)
        go_roundw
        case rel => exact ⟨k + 1, by omega, by go_num, HBz, HO⟩
        case measure => simp only [intOf]; omega
      · have HFF := Lib.hid hf
        go_wp2_with (at_builtin; refine wpList_append_lies _ rfl _ _ 91 rfl w2.heap.size 3 i1 (.int .i64 0) 1 8 Tryz.underlying91 hi1 hz1 hz2 hz3 rfl (by decide) (.slice As nn cs) nn _ rfl (HOz.out.alloc _) ⟨wz.heap.size, 0, none⟩ 1 1 [.int .i64 (k : Int)] rfl rfl (World.news_of_block (heap_alloc_new _ _)) (by simp [Value.oneCell']) (by decide) (by unfold maxLen; omega) (by omega) (by simp; omega) (wz.heap.size + 1) (by simp) ?_; intro g4 cap4 Z hown hgrow _ _; have HBZ := Lib.hid ((HBz.out.alloc HBz.out.size _).grown hgrow (by simp; omega) (fun k hk => (ownsRow_lt HOz.out hk).1)); have HOZ := Lib.hid hown; clear hown hgrow)
        have HO := Lib.hid (show Z.ownsRow w2.heap.size 3 1 (.slice (some ⟨g4, 0, none⟩) (nn + 1) cap4) (nats ((List.range (k + 1)).filter (fun h => domAt s h 2 == n))).length (ints (nats ((List.range (k + 1)).filter (fun h => domAt s h 2 == n)))) by
          rw [range_filter, show (domAt s k 2 == n) = true by rw [HXX.out]; exact HFF.out]
          simp only [if_true]
          rw [show nats (((List.range k).filter (fun h => domAt s h 2 == n)) ++ [k]) = (nats ((List.range k).filter (fun h => domAt s h 2 == n))) ++ [(k : Int)] by simp [nats], List.length_append, List.length_singleton, ← HNN.out, ints_snoc]
          exact HOZ.out)
        go_roundw
        case rel => exact ⟨k + 1, by omega, by go_num, HBZ, HO⟩
        case measure => simp only [intOf]; omega
    · obtain rfl : k = s.hosts.length := by omega
      go_wp2_with (fail)
      go_ret
      exact ⟨_, rfl, own_mono ho.out (Nat.le_trans HB0.out.size K2.out.size), below_join HB0.out (below_join K2.out hB.out K2.out.size) HB0.out.size⟩
set_option maxHeartbeats 16000000 in
theorem c_mem3 (p : SP) (s : SiteD) (hok : siteOk s = true) (n : Int) (hix : ixB n 4 = true) (w : World) (h : SiAt w p s) :
    Calls Tryz.prog 141 #[siV p s, .int .u8 3, .int .i64 n] w fun e w' => ∃ v, e = .returned v ∧ w'.ownsRow w.heap.size 3 1 v (nats ((List.range s.hosts.length).filter (fun h => domAt s h 3 == n))).length (ints (nats ((List.range s.hosts.length).filter (fun h => domAt s h 3 == n)))) ∧ Below w.heap.size w w' := by
  have hsok := siteOk_iff.1 hok
  have hnh := hsok.nhosts
  have HV := Lib.hid (fun (X : World) (hX : SiAt X p s) => c_doms3 p s hok X hX)
  have HSOK := Lib.hid hsok
  have HIX := Lib.hid hix
  unfold siV at HV
  clear hok hsok hix
  unfold siV
  obtain ⟨W, hW⟩ : ∃ W, W = w.alloc (.cells #[.slice p.a1 s.feeds.length p.c1, .slice p.a2 s.brks.length p.c2, .slice p.a3 s.loops.length p.c3, .slice p.a4 s.racks.length p.c4, .int .i64 s.sw, .slice p.a5 s.links.length p.c5, .slice p.a6 s.hosts.length p.c6] 29) := ⟨_, rfl⟩
  have B0 : Below w.heap.size w W := by subst hW; exact (Below.refl _ _).alloc (Nat.le_refl _) _
  have HB0 := Lib.hid B0
  have HX := Lib.hid (show SiBox W w.heap.size p s by subst hW; exact siBox_new _ _ _)
  have HA := Lib.hid (h.on B0 (Nat.le_refl _))
  have HF := Lib.hid (fun (X : World) (hX : Below W.heap.size W X) => (let z := HX.out.on hX (Nat.le_refl _); ⟨z.c0, z.c1, z.c2, z.c3, z.c4, z.c5, z.c6⟩ : X.cell? ⟨w.heap.size, 0, none⟩ = some (.slice p.a1 s.feeds.length p.c1) ∧ X.cell? ⟨w.heap.size, 1, none⟩ = some (.slice p.a2 s.brks.length p.c2) ∧ X.cell? ⟨w.heap.size, 2, none⟩ = some (.slice p.a3 s.loops.length p.c3) ∧ X.cell? ⟨w.heap.size, 3, none⟩ = some (.slice p.a4 s.racks.length p.c4) ∧ X.cell? ⟨w.heap.size, 4, none⟩ = some (.int .i64 s.sw) ∧ X.cell? ⟨w.heap.size, 5, none⟩ = some (.slice p.a5 s.links.length p.c5) ∧ X.cell? ⟨w.heap.size, 6, none⟩ = some (.slice p.a6 s.hosts.length p.c6)))
  have m1 := h.feeds.1; have m2 := h.brks.1; have m3 := h.loops.1; have m4 := h.racks.1; have m5 := h.links.1; have m6 := h.hosts.1
  have n1 := h.feeds.2.1; have n2 := h.brks.2.1; have n3 := h.loops.2.1; have n4 := h.racks.2.1; have n5 := h.links.2.1; have n6 := h.hosts.2.1
  unfold maxLen at n1 n2 n3 n4 n5 n6
  have KW := Lib.hid (Below.refl W.heap.size W)
  have hlw : w.heap.size < W.heap.size := HX.out.lt
  clear B0 h
  obtain ⟨f0, f1, f2, f3, f4, f5, f6⟩ := HF.out W KW.out
  rw [hW] at f0 f1 f2 f3 f4 f5 f6
  go_enter Tryz.func141, Tryz.ntmps141
  go_wp2_with (fail)
  rw [← hW]
  clear hW f0 f1 f2 f3 f4 f5 f6
  go_at_call 127
  refine (HV.out W HA.out).mono ?_
  rintro e w1 ⟨bs, bt, rfl, hb1, ha1, hr1, b1⟩
  have K1 := Lib.hid b1
  have HB1 := Lib.hid hb1
  have HA1 := Lib.hid ha1
  have HR1 := Lib.hid hr1
  clear b1 hb1 ha1 hr1
  go_wp2_with (fail)
  go_at_call 77
  refine (c_isIndex n 4 true HIX.out w1).mono ?_
  rintro e w2 ⟨rfl, b2⟩
  have K2 := Lib.hid (below_join K1.out b2 K1.out.size)
  have KK := Lib.hid b2
  clear b2
  have HB2 := Lib.hid (HB1.out.on KK.out (Nat.le_refl _))
  have HA2 := Lib.hid (HA1.out.on KK.out (Nat.le_refl _))
  have HR2 := Lib.hid (HR1.out.on KK.out (Nat.le_refl _))
  have HC := Lib.hid (fun (k : Nat) (hk : k < s.hosts.length) (X : World) (hb : SiBox X bs p s) (ha : SiAt X p s) (hr : RkBox X bt bs) (hsok : SiteOk s) => (show Calls Tryz.prog 154 #[.int .i64 (k : Int), .pointer (some ⟨bt, 0, none⟩)] X fun e w' => e = .returned (.int .i64 (rkAt s k).row) ∧ Below X.heap.size X w' from c_dom4 bs bt p s hsok k hk X hb ha hr))
  obtain ⟨i1, hi1, hz1, hz2, hz3⟩ := info_parts int_info
  obtain ⟨f0, f1, f2, f3, f4, f5, f6⟩ := HF.out w2 K2.out
  go_wp2_with (fail)
  clear f0 f1 f2 f3 f4 f5 f6
  go_loopw [9, 24] (fun v i wr => ∃ k : Nat, k ≤ s.hosts.length ∧ i = .int .i64 (k : Int) ∧ Hid (Below w2.heap.size w2 wr) ∧ Hid (wr.ownsRow w2.heap.size 3 1 v (nats ((List.range k).filter (fun h => domAt s h 3 == n))).length (ints (nats ((List.range k).filter (fun h => domAt s h 3 == n)))))) (fun _ i _ => s.hosts.length - (intOf i).toNat)
  case atStart => exact ⟨0, Nat.zero_le _, rfl, Lib.hid (Below.refl _ _), Lib.hid (World.ownsRow_nil _ _ _ _)⟩
  case round =>
    obtain ⟨k, hk, rfl, hB, ho⟩ := hrel
    have hki : ((k : Nat) : Int).toNat = k := by omega
    by_cases hlt : k < s.hosts.length
    · have hkl : (k : Int) < (s.hosts.length : Int) := by omega
      have hln : (nats ((List.range k).filter (fun h => domAt s h 3 == n))).length ≤ 16 := by rw [nats_len]; exact Nat.le_trans (List.length_filter_le _ _) (by rw [List.length_range]; omega)
      obtain ⟨nn, hnn⟩ : ∃ m, m = (nats ((List.range k).filter (fun h => domAt s h 3 == n))).length := ⟨_, rfl⟩
      obtain ⟨x, hx⟩ : ∃ x, x = (rkAt s k).row := ⟨_, rfl⟩
      rw [← hnn] at ho hln
      have HNN := Lib.hid hnn
      have HXX := Lib.hid (show domAt s k 3 = x from hx.symm)
      have HC1 := Lib.hid (show Calls Tryz.prog 154 #[.int .i64 (k : Int), .pointer (some ⟨bt, 0, none⟩)] wr fun e w' => e = .returned (.int .i64 x) ∧ Below wr.heap.size wr w' from (HC.out k hlt wr (HB2.out.on hB.out (Nat.le_refl _)) (HA2.out.on hB.out (Nat.le_refl _)) (HR2.out.on hB.out (Nat.le_refl _)) HSOK.out).mono (fun e w' h => ⟨by rw [hx]; exact h.1, h.2⟩))
      obtain ⟨As, cs, rfl⟩ := own_shape ho.out
      have hz3' := hB.out.size
      clear hnn hx
      go_wp2_with (fail)
      go_at_call 154
      refine HC1.out.mono ?_
      rintro e wz ⟨rfl, bz⟩
      have HBz := Lib.hid (below_join hB.out bz hB.out.size)
      have HOz := Lib.hid (own_on ho.out bz (Nat.le_refl _))
      have hz4 := bz.size
      clear bz
      rcases hf : (x == n) with _ | _
      · have HO := Lib.hid (show wz.ownsRow w2.heap.size 3 1 (.slice As nn cs) (nats ((List.range (k + 1)).filter (fun h => domAt s h 3 == n))).length (ints (nats ((List.range (k + 1)).filter (fun h => domAt s h 3 == n)))) by
          rw [range_filter, show (domAt s k 3 == n) = false by rw [HXX.out]; exact hf]
          simp only [Bool.false_eq_true, if_false, List.append_nil]
          rw [← HNN.out]; exact HOz.out)
        go_wp2_with (fail)
        go_roundw
        case rel => exact ⟨k + 1, by omega, by go_num, HBz, HO⟩
        case measure => simp only [intOf]; omega
      · have HFF := Lib.hid hf
        go_wp2_with (at_builtin; refine wpList_append_lies _ rfl _ _ 91 rfl w2.heap.size 3 i1 (.int .i64 0) 1 8 Tryz.underlying91 hi1 hz1 hz2 hz3 rfl (by decide) (.slice As nn cs) nn _ rfl (HOz.out.alloc _) ⟨wz.heap.size, 0, none⟩ 1 1 [.int .i64 (k : Int)] rfl rfl (World.news_of_block (heap_alloc_new _ _)) (by simp [Value.oneCell']) (by decide) (by unfold maxLen; omega) (by omega) (by simp; omega) (wz.heap.size + 1) (by simp) ?_; intro g4 cap4 Z hown hgrow _ _; have HBZ := Lib.hid ((HBz.out.alloc HBz.out.size _).grown hgrow (by simp; omega) (fun k hk => (ownsRow_lt HOz.out hk).1)); have HOZ := Lib.hid hown; clear hown hgrow)
        have HO := Lib.hid (show Z.ownsRow w2.heap.size 3 1 (.slice (some ⟨g4, 0, none⟩) (nn + 1) cap4) (nats ((List.range (k + 1)).filter (fun h => domAt s h 3 == n))).length (ints (nats ((List.range (k + 1)).filter (fun h => domAt s h 3 == n)))) by
          rw [range_filter, show (domAt s k 3 == n) = true by rw [HXX.out]; exact HFF.out]
          simp only [if_true]
          rw [show nats (((List.range k).filter (fun h => domAt s h 3 == n)) ++ [k]) = (nats ((List.range k).filter (fun h => domAt s h 3 == n))) ++ [(k : Int)] by simp [nats], List.length_append, List.length_singleton, ← HNN.out, ints_snoc]
          exact HOZ.out)
        go_roundw
        case rel => exact ⟨k + 1, by omega, by go_num, HBZ, HO⟩
        case measure => simp only [intOf]; omega
    · obtain rfl : k = s.hosts.length := by omega
      go_wp2_with (fail)
      go_ret
      exact ⟨_, rfl, own_mono ho.out (Nat.le_trans HB0.out.size K2.out.size), below_join HB0.out (below_join K2.out hB.out K2.out.size) HB0.out.size⟩
set_option maxHeartbeats 16000000 in
theorem c_mem4 (p : SP) (s : SiteD) (hok : siteOk s = true) (n : Int) (hix : ixB n (s.feeds.length : Int) = true) (w : World) (h : SiAt w p s) :
    Calls Tryz.prog 141 #[siV p s, .int .u8 4, .int .i64 n] w fun e w' => ∃ v, e = .returned v ∧ w'.ownsRow w.heap.size 3 1 v (nats ((List.range s.hosts.length).filter (fun h => domAt s h 4 == n))).length (ints (nats ((List.range s.hosts.length).filter (fun h => domAt s h 4 == n)))) ∧ Below w.heap.size w w' := by
  have hsok := siteOk_iff.1 hok
  have hnh := hsok.nhosts
  have HV := Lib.hid (fun (X : World) (hX : SiAt X p s) => c_doms4 p s hok X hX)
  have HSOK := Lib.hid hsok
  have HIX := Lib.hid hix
  unfold siV at HV
  clear hok hsok hix
  unfold siV
  obtain ⟨W, hW⟩ : ∃ W, W = w.alloc (.cells #[.slice p.a1 s.feeds.length p.c1, .slice p.a2 s.brks.length p.c2, .slice p.a3 s.loops.length p.c3, .slice p.a4 s.racks.length p.c4, .int .i64 s.sw, .slice p.a5 s.links.length p.c5, .slice p.a6 s.hosts.length p.c6] 29) := ⟨_, rfl⟩
  have B0 : Below w.heap.size w W := by subst hW; exact (Below.refl _ _).alloc (Nat.le_refl _) _
  have HB0 := Lib.hid B0
  have HX := Lib.hid (show SiBox W w.heap.size p s by subst hW; exact siBox_new _ _ _)
  have HA := Lib.hid (h.on B0 (Nat.le_refl _))
  have HF := Lib.hid (fun (X : World) (hX : Below W.heap.size W X) => (let z := HX.out.on hX (Nat.le_refl _); ⟨z.c0, z.c1, z.c2, z.c3, z.c4, z.c5, z.c6⟩ : X.cell? ⟨w.heap.size, 0, none⟩ = some (.slice p.a1 s.feeds.length p.c1) ∧ X.cell? ⟨w.heap.size, 1, none⟩ = some (.slice p.a2 s.brks.length p.c2) ∧ X.cell? ⟨w.heap.size, 2, none⟩ = some (.slice p.a3 s.loops.length p.c3) ∧ X.cell? ⟨w.heap.size, 3, none⟩ = some (.slice p.a4 s.racks.length p.c4) ∧ X.cell? ⟨w.heap.size, 4, none⟩ = some (.int .i64 s.sw) ∧ X.cell? ⟨w.heap.size, 5, none⟩ = some (.slice p.a5 s.links.length p.c5) ∧ X.cell? ⟨w.heap.size, 6, none⟩ = some (.slice p.a6 s.hosts.length p.c6)))
  have m1 := h.feeds.1; have m2 := h.brks.1; have m3 := h.loops.1; have m4 := h.racks.1; have m5 := h.links.1; have m6 := h.hosts.1
  have n1 := h.feeds.2.1; have n2 := h.brks.2.1; have n3 := h.loops.2.1; have n4 := h.racks.2.1; have n5 := h.links.2.1; have n6 := h.hosts.2.1
  unfold maxLen at n1 n2 n3 n4 n5 n6
  have KW := Lib.hid (Below.refl W.heap.size W)
  have hlw : w.heap.size < W.heap.size := HX.out.lt
  clear B0 h
  obtain ⟨f0, f1, f2, f3, f4, f5, f6⟩ := HF.out W KW.out
  rw [hW] at f0 f1 f2 f3 f4 f5 f6
  go_enter Tryz.func141, Tryz.ntmps141
  go_wp2_with (fail)
  rw [← hW]
  clear hW f0 f1 f2 f3 f4 f5 f6
  go_at_call 127
  refine (HV.out W HA.out).mono ?_
  rintro e w1 ⟨bs, bt, rfl, hb1, ha1, hr1, b1⟩
  have K1 := Lib.hid b1
  have HB1 := Lib.hid hb1
  have HA1 := Lib.hid ha1
  have HR1 := Lib.hid hr1
  clear b1 hb1 ha1 hr1
  go_wp2_with (fail)
  go_at_call 77
  refine (c_isIndex n (s.feeds.length : Int) true HIX.out w1).mono ?_
  rintro e w2 ⟨rfl, b2⟩
  have K2 := Lib.hid (below_join K1.out b2 K1.out.size)
  have KK := Lib.hid b2
  clear b2
  have HB2 := Lib.hid (HB1.out.on KK.out (Nat.le_refl _))
  have HA2 := Lib.hid (HA1.out.on KK.out (Nat.le_refl _))
  have HR2 := Lib.hid (HR1.out.on KK.out (Nat.le_refl _))
  have HC := Lib.hid (fun (k : Nat) (hk : k < s.hosts.length) (X : World) (hb : SiBox X bs p s) (ha : SiAt X p s) (hr : RkBox X bt bs) (hsok : SiteOk s) => (show Calls Tryz.prog 155 #[.int .i64 (k : Int), .pointer (some ⟨bs, 0, none⟩), .pointer (some ⟨bt, 0, none⟩)] X fun e w' => e = .returned (.int .i64 (feedAt s k)) ∧ Below X.heap.size X w' from c_dom5 bs bt p s hsok k hk X hb ha hr))
  obtain ⟨i1, hi1, hz1, hz2, hz3⟩ := info_parts int_info
  obtain ⟨f0, f1, f2, f3, f4, f5, f6⟩ := HF.out w2 K2.out
  go_wp2_with (fail)
  clear f0 f1 f2 f3 f4 f5 f6
  go_loopw [9, 24] (fun v i wr => ∃ k : Nat, k ≤ s.hosts.length ∧ i = .int .i64 (k : Int) ∧ Hid (Below w2.heap.size w2 wr) ∧ Hid (wr.ownsRow w2.heap.size 3 1 v (nats ((List.range k).filter (fun h => domAt s h 4 == n))).length (ints (nats ((List.range k).filter (fun h => domAt s h 4 == n)))))) (fun _ i _ => s.hosts.length - (intOf i).toNat)
  case atStart => exact ⟨0, Nat.zero_le _, rfl, Lib.hid (Below.refl _ _), Lib.hid (World.ownsRow_nil _ _ _ _)⟩
  case round =>
    obtain ⟨k, hk, rfl, hB, ho⟩ := hrel
    have hki : ((k : Nat) : Int).toNat = k := by omega
    by_cases hlt : k < s.hosts.length
    · have hkl : (k : Int) < (s.hosts.length : Int) := by omega
      have hln : (nats ((List.range k).filter (fun h => domAt s h 4 == n))).length ≤ 16 := by rw [nats_len]; exact Nat.le_trans (List.length_filter_le _ _) (by rw [List.length_range]; omega)
      obtain ⟨nn, hnn⟩ : ∃ m, m = (nats ((List.range k).filter (fun h => domAt s h 4 == n))).length := ⟨_, rfl⟩
      obtain ⟨x, hx⟩ : ∃ x, x = (feedAt s k) := ⟨_, rfl⟩
      rw [← hnn] at ho hln
      have HNN := Lib.hid hnn
      have HXX := Lib.hid (show domAt s k 4 = x from hx.symm)
      have HC1 := Lib.hid (show Calls Tryz.prog 155 #[.int .i64 (k : Int), .pointer (some ⟨bs, 0, none⟩), .pointer (some ⟨bt, 0, none⟩)] wr fun e w' => e = .returned (.int .i64 x) ∧ Below wr.heap.size wr w' from (HC.out k hlt wr (HB2.out.on hB.out (Nat.le_refl _)) (HA2.out.on hB.out (Nat.le_refl _)) (HR2.out.on hB.out (Nat.le_refl _)) HSOK.out).mono (fun e w' h => ⟨by rw [hx]; exact h.1, h.2⟩))
      obtain ⟨As, cs, rfl⟩ := own_shape ho.out
      have hz3' := hB.out.size
      clear hnn hx
      go_wp2_with (fail)
      go_at_call 155
      refine HC1.out.mono ?_
      rintro e wz ⟨rfl, bz⟩
      have HBz := Lib.hid (below_join hB.out bz hB.out.size)
      have HOz := Lib.hid (own_on ho.out bz (Nat.le_refl _))
      have hz4 := bz.size
      clear bz
      rcases hf : (x == n) with _ | _
      · have HO := Lib.hid (show wz.ownsRow w2.heap.size 3 1 (.slice As nn cs) (nats ((List.range (k + 1)).filter (fun h => domAt s h 4 == n))).length (ints (nats ((List.range (k + 1)).filter (fun h => domAt s h 4 == n)))) by
          rw [range_filter, show (domAt s k 4 == n) = false by rw [HXX.out]; exact hf]
          simp only [Bool.false_eq_true, if_false, List.append_nil]
          rw [← HNN.out]; exact HOz.out)
        go_wp2_with (fail)
        go_roundw
        case rel => exact ⟨k + 1, by omega, by go_num, HBz, HO⟩
        case measure => simp only [intOf]; omega
      · have HFF := Lib.hid hf
        go_wp2_with (at_builtin; refine wpList_append_lies _ rfl _ _ 91 rfl w2.heap.size 3 i1 (.int .i64 0) 1 8 Tryz.underlying91 hi1 hz1 hz2 hz3 rfl (by decide) (.slice As nn cs) nn _ rfl (HOz.out.alloc _) ⟨wz.heap.size, 0, none⟩ 1 1 [.int .i64 (k : Int)] rfl rfl (World.news_of_block (heap_alloc_new _ _)) (by simp [Value.oneCell']) (by decide) (by unfold maxLen; omega) (by omega) (by simp; omega) (wz.heap.size + 1) (by simp) ?_; intro g4 cap4 Z hown hgrow _ _; have HBZ := Lib.hid ((HBz.out.alloc HBz.out.size _).grown hgrow (by simp; omega) (fun k hk => (ownsRow_lt HOz.out hk).1)); have HOZ := Lib.hid hown; clear hown hgrow)
        have HO := Lib.hid (show Z.ownsRow w2.heap.size 3 1 (.slice (some ⟨g4, 0, none⟩) (nn + 1) cap4) (nats ((List.range (k + 1)).filter (fun h => domAt s h 4 == n))).length (ints (nats ((List.range (k + 1)).filter (fun h => domAt s h 4 == n)))) by
          rw [range_filter, show (domAt s k 4 == n) = true by rw [HXX.out]; exact HFF.out]
          simp only [if_true]
          rw [show nats (((List.range k).filter (fun h => domAt s h 4 == n)) ++ [k]) = (nats ((List.range k).filter (fun h => domAt s h 4 == n))) ++ [(k : Int)] by simp [nats], List.length_append, List.length_singleton, ← HNN.out, ints_snoc]
          exact HOZ.out)
        go_roundw
        case rel => exact ⟨k + 1, by omega, by go_num, HBZ, HO⟩
        case measure => simp only [intOf]; omega
    · obtain rfl : k = s.hosts.length := by omega
      go_wp2_with (fail)
      go_ret
      exact ⟨_, rfl, own_mono ho.out (Nat.le_trans HB0.out.size K2.out.size), below_join HB0.out (below_join K2.out hB.out K2.out.size) HB0.out.size⟩
set_option maxHeartbeats 16000000 in
theorem c_mem5 (p : SP) (s : SiteD) (hok : siteOk s = true) (n : Int) (hix : ixB n (s.loops.length : Int) = true) (w : World) (h : SiAt w p s) :
    Calls Tryz.prog 141 #[siV p s, .int .u8 5, .int .i64 n] w fun e w' => ∃ v, e = .returned v ∧ w'.ownsRow w.heap.size 3 1 v (nats ((List.range s.hosts.length).filter (fun h => domAt s h 5 == n))).length (ints (nats ((List.range s.hosts.length).filter (fun h => domAt s h 5 == n)))) ∧ Below w.heap.size w w' := by
  have hsok := siteOk_iff.1 hok
  have hnh := hsok.nhosts
  have HV := Lib.hid (fun (X : World) (hX : SiAt X p s) => c_doms5 p s hok X hX)
  have HSOK := Lib.hid hsok
  have HIX := Lib.hid hix
  unfold siV at HV
  clear hok hsok hix
  unfold siV
  obtain ⟨W, hW⟩ : ∃ W, W = w.alloc (.cells #[.slice p.a1 s.feeds.length p.c1, .slice p.a2 s.brks.length p.c2, .slice p.a3 s.loops.length p.c3, .slice p.a4 s.racks.length p.c4, .int .i64 s.sw, .slice p.a5 s.links.length p.c5, .slice p.a6 s.hosts.length p.c6] 29) := ⟨_, rfl⟩
  have B0 : Below w.heap.size w W := by subst hW; exact (Below.refl _ _).alloc (Nat.le_refl _) _
  have HB0 := Lib.hid B0
  have HX := Lib.hid (show SiBox W w.heap.size p s by subst hW; exact siBox_new _ _ _)
  have HA := Lib.hid (h.on B0 (Nat.le_refl _))
  have HF := Lib.hid (fun (X : World) (hX : Below W.heap.size W X) => (let z := HX.out.on hX (Nat.le_refl _); ⟨z.c0, z.c1, z.c2, z.c3, z.c4, z.c5, z.c6⟩ : X.cell? ⟨w.heap.size, 0, none⟩ = some (.slice p.a1 s.feeds.length p.c1) ∧ X.cell? ⟨w.heap.size, 1, none⟩ = some (.slice p.a2 s.brks.length p.c2) ∧ X.cell? ⟨w.heap.size, 2, none⟩ = some (.slice p.a3 s.loops.length p.c3) ∧ X.cell? ⟨w.heap.size, 3, none⟩ = some (.slice p.a4 s.racks.length p.c4) ∧ X.cell? ⟨w.heap.size, 4, none⟩ = some (.int .i64 s.sw) ∧ X.cell? ⟨w.heap.size, 5, none⟩ = some (.slice p.a5 s.links.length p.c5) ∧ X.cell? ⟨w.heap.size, 6, none⟩ = some (.slice p.a6 s.hosts.length p.c6)))
  have m1 := h.feeds.1; have m2 := h.brks.1; have m3 := h.loops.1; have m4 := h.racks.1; have m5 := h.links.1; have m6 := h.hosts.1
  have n1 := h.feeds.2.1; have n2 := h.brks.2.1; have n3 := h.loops.2.1; have n4 := h.racks.2.1; have n5 := h.links.2.1; have n6 := h.hosts.2.1
  unfold maxLen at n1 n2 n3 n4 n5 n6
  have KW := Lib.hid (Below.refl W.heap.size W)
  have hlw : w.heap.size < W.heap.size := HX.out.lt
  clear B0 h
  obtain ⟨f0, f1, f2, f3, f4, f5, f6⟩ := HF.out W KW.out
  rw [hW] at f0 f1 f2 f3 f4 f5 f6
  go_enter Tryz.func141, Tryz.ntmps141
  go_wp2_with (fail)
  rw [← hW]
  clear hW f0 f1 f2 f3 f4 f5 f6
  go_at_call 127
  refine (HV.out W HA.out).mono ?_
  rintro e w1 ⟨bs, bt, rfl, hb1, ha1, hr1, b1⟩
  have K1 := Lib.hid b1
  have HB1 := Lib.hid hb1
  have HA1 := Lib.hid ha1
  have HR1 := Lib.hid hr1
  clear b1 hb1 ha1 hr1
  go_wp2_with (fail)
  go_at_call 77
  refine (c_isIndex n (s.loops.length : Int) true HIX.out w1).mono ?_
  rintro e w2 ⟨rfl, b2⟩
  have K2 := Lib.hid (below_join K1.out b2 K1.out.size)
  have KK := Lib.hid b2
  clear b2
  have HB2 := Lib.hid (HB1.out.on KK.out (Nat.le_refl _))
  have HA2 := Lib.hid (HA1.out.on KK.out (Nat.le_refl _))
  have HR2 := Lib.hid (HR1.out.on KK.out (Nat.le_refl _))
  have HC := Lib.hid (fun (k : Nat) (hk : k < s.hosts.length) (X : World) (hb : SiBox X bs p s) (ha : SiAt X p s) (hr : RkBox X bt bs) (hsok : SiteOk s) => (show Calls Tryz.prog 156 #[.int .i64 (k : Int), .pointer (some ⟨bt, 0, none⟩)] X fun e w' => e = .returned (.int .i64 (rkAt s k).loop) ∧ Below X.heap.size X w' from c_dom6 bs bt p s hsok k hk X hb ha hr))
  obtain ⟨i1, hi1, hz1, hz2, hz3⟩ := info_parts int_info
  obtain ⟨f0, f1, f2, f3, f4, f5, f6⟩ := HF.out w2 K2.out
  go_wp2_with (fail)
  clear f0 f1 f2 f3 f4 f5 f6
  go_loopw [9, 24] (fun v i wr => ∃ k : Nat, k ≤ s.hosts.length ∧ i = .int .i64 (k : Int) ∧ Hid (Below w2.heap.size w2 wr) ∧ Hid (wr.ownsRow w2.heap.size 3 1 v (nats ((List.range k).filter (fun h => domAt s h 5 == n))).length (ints (nats ((List.range k).filter (fun h => domAt s h 5 == n)))))) (fun _ i _ => s.hosts.length - (intOf i).toNat)
  case atStart => exact ⟨0, Nat.zero_le _, rfl, Lib.hid (Below.refl _ _), Lib.hid (World.ownsRow_nil _ _ _ _)⟩
  case round =>
    obtain ⟨k, hk, rfl, hB, ho⟩ := hrel
    have hki : ((k : Nat) : Int).toNat = k := by omega
    by_cases hlt : k < s.hosts.length
    · have hkl : (k : Int) < (s.hosts.length : Int) := by omega
      have hln : (nats ((List.range k).filter (fun h => domAt s h 5 == n))).length ≤ 16 := by rw [nats_len]; exact Nat.le_trans (List.length_filter_le _ _) (by rw [List.length_range]; omega)
      obtain ⟨nn, hnn⟩ : ∃ m, m = (nats ((List.range k).filter (fun h => domAt s h 5 == n))).length := ⟨_, rfl⟩
      obtain ⟨x, hx⟩ : ∃ x, x = (rkAt s k).loop := ⟨_, rfl⟩
      rw [← hnn] at ho hln
      have HNN := Lib.hid hnn
      have HXX := Lib.hid (show domAt s k 5 = x from hx.symm)
      have HC1 := Lib.hid (show Calls Tryz.prog 156 #[.int .i64 (k : Int), .pointer (some ⟨bt, 0, none⟩)] wr fun e w' => e = .returned (.int .i64 x) ∧ Below wr.heap.size wr w' from (HC.out k hlt wr (HB2.out.on hB.out (Nat.le_refl _)) (HA2.out.on hB.out (Nat.le_refl _)) (HR2.out.on hB.out (Nat.le_refl _)) HSOK.out).mono (fun e w' h => ⟨by rw [hx]; exact h.1, h.2⟩))
      obtain ⟨As, cs, rfl⟩ := own_shape ho.out
      have hz3' := hB.out.size
      clear hnn hx
      go_wp2_with (fail)
      go_at_call 156
      refine HC1.out.mono ?_
      rintro e wz ⟨rfl, bz⟩
      have HBz := Lib.hid (below_join hB.out bz hB.out.size)
      have HOz := Lib.hid (own_on ho.out bz (Nat.le_refl _))
      have hz4 := bz.size
      clear bz
      rcases hf : (x == n) with _ | _
      · have HO := Lib.hid (show wz.ownsRow w2.heap.size 3 1 (.slice As nn cs) (nats ((List.range (k + 1)).filter (fun h => domAt s h 5 == n))).length (ints (nats ((List.range (k + 1)).filter (fun h => domAt s h 5 == n)))) by
          rw [range_filter, show (domAt s k 5 == n) = false by rw [HXX.out]; exact hf]
          simp only [Bool.false_eq_true, if_false, List.append_nil]
          rw [← HNN.out]; exact HOz.out)
        go_wp2_with (fail)
        go_roundw
        case rel => exact ⟨k + 1, by omega, by go_num, HBz, HO⟩
        case measure => simp only [intOf]; omega
      · have HFF := Lib.hid hf
        go_wp2_with (at_builtin; refine wpList_append_lies _ rfl _ _ 91 rfl w2.heap.size 3 i1 (.int .i64 0) 1 8 Tryz.underlying91 hi1 hz1 hz2 hz3 rfl (by decide) (.slice As nn cs) nn _ rfl (HOz.out.alloc _) ⟨wz.heap.size, 0, none⟩ 1 1 [.int .i64 (k : Int)] rfl rfl (World.news_of_block (heap_alloc_new _ _)) (by simp [Value.oneCell']) (by decide) (by unfold maxLen; omega) (by omega) (by simp; omega) (wz.heap.size + 1) (by simp) ?_; intro g4 cap4 Z hown hgrow _ _; have HBZ := Lib.hid ((HBz.out.alloc HBz.out.size _).grown hgrow (by simp; omega) (fun k hk => (ownsRow_lt HOz.out hk).1)); have HOZ := Lib.hid hown; clear hown hgrow)
        have HO := Lib.hid (show Z.ownsRow w2.heap.size 3 1 (.slice (some ⟨g4, 0, none⟩) (nn + 1) cap4) (nats ((List.range (k + 1)).filter (fun h => domAt s h 5 == n))).length (ints (nats ((List.range (k + 1)).filter (fun h => domAt s h 5 == n)))) by
          rw [range_filter, show (domAt s k 5 == n) = true by rw [HXX.out]; exact HFF.out]
          simp only [if_true]
          rw [show nats (((List.range k).filter (fun h => domAt s h 5 == n)) ++ [k]) = (nats ((List.range k).filter (fun h => domAt s h 5 == n))) ++ [(k : Int)] by simp [nats], List.length_append, List.length_singleton, ← HNN.out, ints_snoc]
          exact HOZ.out)
        go_roundw
        case rel => exact ⟨k + 1, by omega, by go_num, HBZ, HO⟩
        case measure => simp only [intOf]; omega
    · obtain rfl : k = s.hosts.length := by omega
      go_wp2_with (fail)
      go_ret
      exact ⟨_, rfl, own_mono ho.out (Nat.le_trans HB0.out.size K2.out.size), below_join HB0.out (below_join K2.out hB.out K2.out.size) HB0.out.size⟩
theorem c_Members (p : SP) (s : SiteD) (d : Nat) (hd : d < 256) (n : Int) (w : World) (h : SiAt w p s) :
    Calls Tryz.prog 141 #[siV p s, .int .u8 (d : Int), .int .i64 n] w fun e w' => ∃ v, e = .returned v ∧ w'.ownsRow w.heap.size 3 1 v (memD s d n).length (ints (memD s d n)) ∧ Below w.heap.size w w' := by
  rcases hix : ixB n (cntD s d) with _ | _
  · exact c_memNeg p s d n w h (fun X hX => c_doms p s d hd X hX) hix
  · have hm : memD s d n = nats ((List.range s.hosts.length).filter (fun h => domAt s h d == n)) := by unfold memD; rw [hix]; rfl
    rw [hm]
    rcases hok : siteOk s with _ | _
    · exfalso
      have := ixB_iff.1 hix
      unfold cntD at this
      rw [hok] at this
      simp at this
      omega
    · have hc : cntD s d = cntOf s d := by unfold cntD; rw [hok]; rfl
      rw [hc] at hix
      by_cases hno : 1 ≤ d ∧ d ≤ 5
      · rcases (by omega : d = 1 ∨ d = 2 ∨ d = 3 ∨ d = 4 ∨ d = 5) with rfl | rfl | rfl | rfl | rfl
        · exact c_mem1 p s hok n hix w h
        · exact c_mem2 p s hok n hix w h
        · exact c_mem3 p s hok n hix w h
        · exact c_mem4 p s hok n hix w h
        · exact c_mem5 p s hok n hix w h
      · exfalso
        have h0 : cntOf s d = 0 := by unfold cntOf; split <;> first | rfl | (exfalso; omega)
        rw [h0] at hix
        have := ixB_iff.1 hix
        omega
end Go.Proofs.YtbbadnlaelgmlaaGreat

namespace Go.Proofs.YtbbadnlaelgmlaaGreat
open Go.RowKit
set_option maxRecDepth 100000
set_option linter.unusedVariables false
set_option linter.unusedSimpArgs false

def wtV (z : Sn) (r0 : Bool) (x : Int) : Int := pwV z r0 (isHost x)
def heatV (z : Sn) (r0 : Bool) (k : Int) : Int := pwV z r0 (isLoop z.s k)
def hotS (z : Sn) (r0 : Bool) (k : Int) (j : Nat) : Int := (((memD z.s 5 k).take j).map (wtV z r0)).sum
theorem wtV_bd {z : Sn} {r0 : Bool} (hr0 : r0 = true ↔ z.Ok) (x : Int) : 0 ≤ wtV z r0 x ∧ wtV z r0 x ≤ 24160000 := by
  unfold wtV pwV
  cases r0
  · simp
  · rw [if_pos rfl]; exact load_bd (hr0.1 rfl) _
theorem hot_step {z : Sn} {r0 : Bool} {k x : Int} {j : Nat} (h : (memD z.s 5 k)[j]? = some x) : hotS z r0 k (j + 1) = hotS z r0 k j + wtV z r0 x := by
  unfold hotS
  rw [List.take_add_one, h]
  simp
theorem hot_false {z : Sn} {k : Int} (j : Nat) : hotS z false k j = 0 := by
  unfold hotS
  induction ((memD z.s 5 k).take j) with
  | nil => rfl
  | cons a l ih => rw [List.map_cons, List.sum_cons, ih]; rfl
theorem hot_is {z : Sn} {r0 : Bool} (hr0 : r0 = true ↔ z.Ok) (k : Int) : hotS z r0 k (memD z.s 5 k).length = heatV z r0 k := by
  cases r0
  · rw [hot_false]; rfl
  · unfold hotS
    rw [List.take_length]
    exact heat_mem (hr0.1 rfl) k
theorem sum_le16 {f : Int → Int} (hf : ∀ x, 0 ≤ f x ∧ f x ≤ 24160000) : ∀ l : List Int, 0 ≤ (l.map f).sum ∧ (l.map f).sum ≤ 24160000 * (l.length : Int) := by
  intro l
  induction l with
  | nil => simp
  | cons a l ih =>
    have := hf a
    rw [List.map_cons, List.sum_cons, List.length_cons]
    omega
theorem hot_bd {z : Sn} {r0 : Bool} (hr0 : r0 = true ↔ z.Ok) (k : Int) (j : Nat) : 0 ≤ hotS z r0 k j ∧ hotS z r0 k j ≤ 400000000 := by
  cases r0
  · rw [hot_false]; omega
  · have h := sum_le16 (wtV_bd hr0) ((memD z.s 5 k).take j)
    have h1 := mem_len z.s 5 k
    have h2 := (siteOk_iff.1 (hr0.1 rfl).1).nhosts
    have h3 : ((memD z.s 5 k).take j).length ≤ (memD z.s 5 k).length := by rw [List.length_take]; omega
    unfold hotS
    omega
theorem SnBx.but {w w' : World} {z : Sn} {b g : Nat} (h : SnBx w b z) (k : v6.But g w w') (h0 : b ≠ g) (h1 : b + 1 ≠ g) (h2 : b + 1 + 1 ≠ g) : SnBx w' b z := ⟨k.same _ _ h0 h.b1, k.same _ _ h1 h.b2, k.same _ _ h2 h.b3⟩
set_option maxHeartbeats 8000000 in
theorem c_heat1 (z : Sn) (r0 : Bool) (hr0 : r0 = true ↔ z.Ok) (g b : Nat) (x S : Int) (w : World) (hz : SnAt w z) (hx : SnBx w b z) (hg : w.heap[g]? = some (.cells #[.int .i64 S] 3 (0, 0))) (v : Int) (hv : pwV z r0 (isHost x) = v) (S2 : Int) (hS2 : IntKind.i64.wrap (S + v) = S2) :
    Calls Tryz.prog 139 #[.int .i64 x, .pointer (some ⟨g, 0, none⟩), .pointer (some ⟨b, 0, none⟩), .pointer (some ⟨b + 1, 0, none⟩), .pointer (some ⟨b + 1 + 1, 0, none⟩)] w fun e w' => e = .returned (.tuple #[]) ∧ v6.But g w w' ∧ w'.heap[g]? = some (.cells #[.int .i64 S2] 3 (0, 0)) := by
  have HC := Lib.hid (fun (X : World) (hX : SnAt X z) => c_pwWatts z r0 hr0 x X hX v hv)
  have HSS := Lib.hid (fun (X : World) (h : Below w.heap.size w X) => (by
    obtain ⟨f0, f1, f2, f3, f4, f5, f6, g0, g1, g2⟩ := (hx.on h (Nat.le_refl _)).cells
    exact ⟨f0, f1, f2, f3, f4, f5, f6, g0, g1, g2, cell_of (box_on hg h (Nat.le_refl _)) rfl⟩ : (fun (X : World) => X.cell? ⟨b, 0, none⟩ = some (.slice z.p.a1 z.s.feeds.length z.p.c1) ∧ X.cell? ⟨b, 1, none⟩ = some (.slice z.p.a2 z.s.brks.length z.p.c2) ∧ X.cell? ⟨b, 2, none⟩ = some (.slice z.p.a3 z.s.loops.length z.p.c3) ∧ X.cell? ⟨b, 3, none⟩ = some (.slice z.p.a4 z.s.racks.length z.p.c4) ∧ X.cell? ⟨b, 4, none⟩ = some (.int .i64 z.s.sw) ∧ X.cell? ⟨b, 5, none⟩ = some (.slice z.p.a5 z.s.links.length z.p.c5) ∧ X.cell? ⟨b, 6, none⟩ = some (.slice z.p.a6 z.s.hosts.length z.p.c6) ∧ X.cell? ⟨b + 1, 0, none⟩ = some (.slice z.A z.xs.length z.c) ∧ X.cell? ⟨b + 1 + 1, 0, none⟩ = some (.slice z.q.a1 z.d.hosts.length z.q.c1) ∧ X.cell? ⟨b + 1 + 1, 1, none⟩ = some (.slice z.q.a2 z.d.reps.length z.q.c2) ∧ X.cell? ⟨g, 0, none⟩ = some (.int .i64 S)) X))
  have HZ := Lib.hid (fun (X : World) (h : Below w.heap.size w X) => hz.on h (Nat.le_refl _))
  have HG := Lib.hid (fun (X : World) (h : Below w.heap.size w X) => box_on hg h (Nat.le_refl _))
  have HS2 := Lib.hid hS2
  have HKw := Lib.hid (Below.refl w.heap.size w)
  have hfm : Tryz.prog.follows Departure.mixedOrders = true := by kernel_rfl
  obtain ⟨n1, n2, n3, n4, n5, n6, n7, n8⟩ := hz.bounds
  clear hz hx hg hS2 hv hr0
  go_enter Tryz.func139, Tryz.ntmps139
  go_wp2_with (fail)
  refine v5.region_z 7 hfm (S := fun (X : World) => X.cell? ⟨b, 0, none⟩ = some (.slice z.p.a1 z.s.feeds.length z.p.c1) ∧ X.cell? ⟨b, 1, none⟩ = some (.slice z.p.a2 z.s.brks.length z.p.c2) ∧ X.cell? ⟨b, 2, none⟩ = some (.slice z.p.a3 z.s.loops.length z.p.c3) ∧ X.cell? ⟨b, 3, none⟩ = some (.slice z.p.a4 z.s.racks.length z.p.c4) ∧ X.cell? ⟨b, 4, none⟩ = some (.int .i64 z.s.sw) ∧ X.cell? ⟨b, 5, none⟩ = some (.slice z.p.a5 z.s.links.length z.p.c5) ∧ X.cell? ⟨b, 6, none⟩ = some (.slice z.p.a6 z.s.hosts.length z.p.c6) ∧ X.cell? ⟨b + 1, 0, none⟩ = some (.slice z.A z.xs.length z.c) ∧ X.cell? ⟨b + 1 + 1, 0, none⟩ = some (.slice z.q.a1 z.d.hosts.length z.q.c1) ∧ X.cell? ⟨b + 1 + 1, 1, none⟩ = some (.slice z.q.a2 z.d.reps.length z.q.c2) ∧ X.cell? ⟨g, 0, none⟩ = some (.int .i64 S)) (HSS.out w.drew HKw.out.drew) (fun hHeld => ?_)
  refine v5.takeZ 0 (some 6) (by kernel_rfl) rfl rfl (by kernel_rfl) (by kernel_rfl) (by kernel_rfl) (fun _ _ _ h => h) (by rfl) (by intro w ⟨g0, g1, g2, g3, g4, g5, g6, g7, g8, g9, g10⟩; go_simp; try with_reducible rfl) hHeld ?_
  simp only [Act.put, List.setIfInBounds_toArray, List.set_cons_zero, List.set_cons_succ]
  refine v5.takeZ 1 (some 7) (by kernel_rfl) rfl rfl (by kernel_rfl) (by kernel_rfl) (by kernel_rfl) (fun _ _ _ h => h) (by rfl) (by intro w ⟨g0, g1, g2, g3, g4, g5, g6, g7, g8, g9, g10⟩; go_simp; try with_reducible rfl) hHeld ?_
  simp only [Act.put, List.setIfInBounds_toArray, List.set_cons_zero, List.set_cons_succ]
  refine v5.takeZ 2 (some 8) (by kernel_rfl) rfl rfl (by kernel_rfl) (by kernel_rfl) (by kernel_rfl) (fun _ _ _ h => h) (by rfl) (by intro w ⟨g0, g1, g2, g3, g4, g5, g6, g7, g8, g9, g10⟩; go_simp; try with_reducible rfl) hHeld ?_
  simp only [Act.put, List.setIfInBounds_toArray, List.set_cons_zero, List.set_cons_succ]
  refine v5.takeZ 3 (some 9) (by kernel_rfl) rfl rfl (by kernel_rfl) (by kernel_rfl) (by kernel_rfl) (fun _ _ _ h => h) (by rfl) (by intro w ⟨g0, g1, g2, g3, g4, g5, g6, g7, g8, g9, g10⟩; go_simp; try with_reducible rfl) hHeld ?_
  simp only [Act.put, List.setIfInBounds_toArray, List.set_cons_zero, List.set_cons_succ]
  refine v5.takeZ 4 (some 10) (by kernel_rfl) rfl rfl (by kernel_rfl) (by kernel_rfl) (by kernel_rfl) (fun _ _ _ h => h) (by rfl) (by intro w ⟨g0, g1, g2, g3, g4, g5, g6, g7, g8, g9, g10⟩; go_simp; try with_reducible rfl) hHeld ?_
  simp only [Act.put, List.setIfInBounds_toArray, List.set_cons_zero, List.set_cons_succ]
  refine v5.oneZ 5 rfl (by kernel_rfl) (fun K hK => ?_)
  go_simp
  go_at_call 140
  refine (HC.out w.drew (HZ.out w.drew HKw.out.drew)).mono ?_
  rintro e v2 ⟨rfl, bb0⟩
  have bb := below_join (Below.refl w.heap.size w).drew bb0 (Nat.le_refl _)
  have HK2 := Lib.hid bb
  clear hHeld bb bb0
  have hHeld := HSS.out v2 HK2.out
  refine hK.out _ _ (.inr hHeld) ?_
  clear hK K
  try simp only [Act.put, List.setIfInBounds_toArray, List.set_cons_zero, List.set_cons_succ]
  refine v5.takeZ 6 (some 12) (by kernel_rfl) rfl rfl (by kernel_rfl) (by kernel_rfl) (by kernel_rfl) (fun _ _ _ h => h) (by rfl) (by intro w ⟨g0, g1, g2, g3, g4, g5, g6, g7, g8, g9, g10⟩; go_simp; try with_reducible rfl) hHeld ?_
  simp only [Act.put, List.setIfInBounds_toArray, List.set_cons_zero, List.set_cons_succ]
  rw [HS2.out]
  have fg : v2.cell? ⟨g, 0, none⟩ = some (.int .i64 S) := cell_of (HG.out v2 HK2.out) rfl
  have fz : v2.frozen? ⟨g, 0, none⟩ = false := frz (HG.out v2 HK2.out) 0
  clear hHeld
  refine v5.oneZ 7 rfl (by kernel_rfl) (fun K hK => ?_)
  go_simp
  refine hK.out _ _ (.inl rfl) ?_
  clear hK K
  refine v5.doneZ (by kernel_rfl) ?_ _
  go_wp2_with (fail)
  go_end0
  exact ⟨rfl, (v6.But.of_below HK2.out (Nat.le_refl _)).trans (v6.But.store _ _), set_field (HG.out v2 HK2.out) _⟩
end Go.Proofs.YtbbadnlaelgmlaaGreat
