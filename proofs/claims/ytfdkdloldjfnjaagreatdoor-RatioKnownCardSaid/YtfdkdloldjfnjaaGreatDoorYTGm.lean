/-
  DERIVED. Several texts in one.
-/
import Derived.Test.YtfdkdloldjfnjaaGreatDoorTF
import Derived.Test.YtfdkdloldjfnjaaGreatDoorYRAm
import Derived.Laws.IdiomStrings
import Derived.Lib.AppendIntMem
set_option linter.unusedVariables false
set_option linter.unusedSimpArgs false

/- DERIVED. number. -/
namespace Go.Proofs.YtfdkdloldjfnjaaGreatDoor
open Go.RowKit
set_option maxRecDepth 100000

/-- A string's bytes in a new block. -/
theorem bytes_conv (s : ByteArray) (w : World) : ∃ cp W1, (convert 9 91 (.string s)).run Tryz.prog w = .ok (.slice (some ⟨w.heap.size, 0, none⟩) s.size cp) W1 ∧ Below w.heap.size w W1 ∧ w.heap.size < W1.heap.size ∧ ∀ j, j < s.size → W1.cell? ⟨w.heap.size, j, none⟩ = some (.int .u8 (((s.data.toList.getD j 0).toNat : Nat) : Int)) := by
  refine ⟨_, _, run_bytes_of_string w _ _ 5 s Tryz.underlying9 Tryz.underlying91 Tryz.underlying5, ?_, by simp, fun j hj => ?_⟩
  · exact ((Below.refl w.heap.size w).drew).alloc (Nat.le_refl _) _
  · have h1 := World.cell?_alloc_mark w.drew (bytesRow s (grownCap w s.size 0 5)) 5 ((bytesRow s (grownCap w s.size 0 5)).size, (bytesRow s (grownCap w s.size 0 5)).size + 1) j
    have h2 := bytesRow_at s (grownCap w s.size 0 5) j hj
    refine (h1.trans h2).trans ?_
    have hj' : j < s.data.toList.length := by simpa using hj
    rw [List.getD_eq_getElem?_getD, List.getElem?_eq_getElem hj']
    simp
def NumPost (l : List UInt8) (w : World) (e : Ending) (w' : World) : Prop :=
  ∃ v b, e = .returned (.tuple #[v, .bool b]) ∧ Below w.heap.size w w' ∧ (numOk l = true → b = true ∧ Fs w.heap.size w' v (nvl l)) ∧ (numOk l = false → b = false ∧ v = .slice none 0 0)
theorem num_bad {l : List UInt8} (h : numOk l = false) {w w' : World} (hb : Below w.heap.size w w') : NumPost l w (.returned (.tuple #[.slice none 0 0, .bool false])) w' :=
  ⟨_, _, rfl, hb, fun h' => absurd (h.symm.trans h') (by decide), fun _ => ⟨rfl, rfl⟩⟩
/-- Between two rounds. -/
def NumRel (l : List UInt8) (base : Nat) (W1 : World) (n i : Value) (wr : World) : Prop :=
  ∃ k : Nat, k ≤ l.length ∧ i = .int .i64 (k : Int) ∧ (∀ c ∈ l.take k, isDg c = true) ∧ Fs base wr n (nvl (l.take k)) ∧ Below W1.heap.size W1 wr
theorem len309 {n k : Nat} (h : n < 10 ^ k) (hk : k ≤ 309) : (nat n).length ≤ 33 := by
  refine nat_len_le.2 (Nat.lt_of_lt_of_le h (Nat.le_trans (Nat.pow_le_pow_right (by decide) hk) ?_))
  decide +kernel
theorem c_ten (X : World) : Calls Tryz.prog 75 #[.int .u64 10] X (NewNat 10 X) := c_natural 10 (by omega) X

set_option maxHeartbeats 1000000 in
theorem c_number (s : ByteArray) (hs : s.size ≤ maxLen) (w : World) : Calls Tryz.prog 53 #[.string s] w (NumPost s.data.toList w) := by
  obtain ⟨l, hl⟩ : ∃ l, l = s.data.toList := ⟨_, rfl⟩
  have hlen : l.length = s.size := by rw [hl]; simp
  rw [← hl]
  unfold maxLen at hs
  by_cases h0 : s.size = 0
  · have hs0 : s = ⟨#[]⟩ := by
      cases s with
      | mk d => congr 1; exact Array.eq_empty_of_size_eq_zero h0
    have hbad : numOk l = false := by rw [hl, hs0]; rfl
    have HB := Lib.hid hbad
    clear hbad hl hlen h0
    subst hs0
    go_enter Tryz.func53, Tryz.ntmps53
    go_wp2_with (fail)
    go_ret2
    exact num_bad HB.out (Below.refl _ _)
  · have hse : s.toList.isEmpty = false := by
      rw [ByteArray.toList_eq, List.isEmpty_eq_false_iff]
      intro e
      have := congrArg List.length e
      simp at this
      exact h0 (by rw [this]; rfl)
    have hsn : ¬ s.toList = [] := fun e => by rw [e] at hse; cases hse
    by_cases h1 : 309 < s.size
    · have hbad : numOk l = false := by unfold numOk; simp [hlen, h1]
      have HB := Lib.hid hbad
      have h1' : (309 : Int) < (s.size : Int) := by omega
      clear hbad hl hlen h0 h1
      go_enter Tryz.func53, Tryz.ntmps53
      go_wp2_with (fail)
      go_ret2
      exact num_bad HB.out (Below.refl _ _)
    · have h1' : (s.size : Int) ≤ 309 := by omega
      have hpos : 0 < s.size := by omega
      have hs0 : s[0] = l.getD 0 0 := by
        rw [hl, List.getD_eq_getElem?_getD, List.getElem?_eq_getElem (by simpa using hpos)]
        rfl
      by_cases h2 : 1 < s.size ∧ s[0].toNat = 48
      · have hbad : numOk l = false := by
          unfold numOk
          have : l.head? = some 48 := by
            rw [List.head?_eq_getElem?, List.getElem?_eq_getElem (by omega)]
            have h3 := hs0
            rw [List.getD_eq_getElem?_getD, List.getElem?_eq_getElem (by omega)] at h3
            simp only [Option.getD_some] at h3
            rw [← h3, Option.some.injEq, ← UInt8.toNat_inj, h2.2]
            rfl
          simp [hlen, h2.1, this]
        have HB := Lib.hid hbad
        have h2' : (1 : Int) < (s.size : Int) := by omega
        have h3' : ((s[0].toNat : Int) == 48) = true := by rw [beq_iff_eq]; omega
        clear hbad hl hlen h0 h1 h2 hs0
        go_enter Tryz.func53, Tryz.ntmps53
        go_wp2_with (fail)
        go_ret2
        exact num_bad HB.out (Below.refl _ _)
      · have hgood : numOk l = l.all isDg := by
          unfold numOk
          have e1 : l.isEmpty = false := by rw [List.isEmpty_eq_false_iff]; intro e; rw [e] at hlen; simp at hlen; omega
          have e2 : (decide (1 < l.length) && l.head? == some 48) = false := by
            rw [Bool.and_eq_false_iff]
            by_cases h4 : 1 < l.length
            · right
              rw [beq_eq_false_iff_ne]
              intro e
              refine h2 ⟨by omega, ?_⟩
              rw [hs0, List.getD_eq_getElem?_getD, ← List.head?_eq_getElem?, e]
              rfl
            · left; simpa using h4
          rw [e1, e2]
          simp [hlen, h1]
        have HG := Lib.hid hgood
        obtain ⟨cp, W1, hrun, hb1, hlt1, hcell⟩ := bytes_conv s w
        rw [← hl] at hcell
        have HC := Lib.hid hcell
        have HB1 := Lib.hid hb1
        have HLEN := Lib.hid hlen
        have hll : l.length ≤ 309 := by omega
        clear hgood hl hb1 hcell
        by_cases h4 : 1 < s.size
        · have h4' : (1 : Int) < (s.size : Int) := by omega
          have h5 : ((s[0].toNat : Int) == 48) = false := by rw [beq_eq_false_iff_ne]; exact fun e => h2 ⟨h4, by omega⟩
          clear hlen h0 h1 h2 hs0
          go_enter Tryz.func53, Tryz.ntmps53
          go_wp2_with (fail)
          clear hrun
          go_loopw [4, 27] (fun n i wr => NumRel l w.heap.size W1 n i wr) (fun n i wr => s.size - (intOf i).toNat)
          case atStart => exact ⟨0, Nat.zero_le _, rfl, by simp, by rw [List.take_zero]; exact (show Fs w.heap.size W1 _ (nvl []) by unfold Fs; rw [show nvl [] = 0 from rfl, nat_zero]; exact NatSl.nil _ _), Below.refl _ _⟩
          case round =>
            obtain ⟨k, hk, rfl, hdg, hfs, hbel⟩ := hrel
            have HDG := Lib.hid hdg
            have HFS := Lib.hid hfs
            have HBEL := Lib.hid hbel
            clear hdg hfs hbel
            by_cases hlt : k < s.size
            · have hc : wr.cell? ⟨w.heap.size, k, none⟩ = some (.int .u8 (((l.getD k 0).toNat : Nat) : Int)) := (HBEL.out.cell (p := ⟨w.heap.size, k, none⟩) hlt1).trans (HC.out k hlt)
              have hlk : k < l.length := by rw [HLEN.out]; exact hlt
              have hts : l.take (k + 1) = l.take k ++ [l.getD k 0] := by rw [List.take_succ_eq_append_getElem hlk, List.getD_eq_getElem?_getD, List.getElem?_eq_getElem hlk]; rfl
              have hmem : l.getD k 0 ∈ l := by rw [List.getD_eq_getElem?_getD, List.getElem?_eq_getElem hlk]; exact List.getElem_mem hlk
              have HTS := Lib.hid hts
              have HMEM := Lib.hid hmem
              clear hts hmem hlk
              generalize l.getD k 0 = x at *
              obtain ⟨A1, c1, rfl⟩ := HFS.out.shape
              by_cases hx : isDg x = true
              · have hx' := hx
                unfold isDg at hx'
                simp only [Bool.and_eq_true, decide_eq_true_eq] at hx'
                obtain ⟨d, hd⟩ : ∃ d, x.toNat = d + 48 := ⟨x.toNat - 48, by omega⟩
                have HX := Lib.hid (And.intro hx hd)
                have hn1 := nvl_lt _ HDG.out
                rw [List.length_take] at hn1
                have hl1 := len309 hn1 (by omega)
                have HN1 := Lib.hid hl1
                rw [hd] at hc hx'
                clear hx hd hn1 hl1
                generalize hm : nvl (l.take k) = m at *
                have HM := Lib.hid hm
                clear hm
                have hd9 : d ≤ 9 := by omega
                clear hx'
                go_wp2_with (fail)
                refine (c_ten _).mono ?_
                rintro e w2 ⟨v2, rfl, g2, hb2⟩
                obtain ⟨A2, c2, rfl⟩ := g2.shape
                have HF2 := Lib.hid (HFS.out.on hb2)
                have HG2 := Lib.hid (natSl_any g2)
                have HB2 := Lib.hid (below_join HBEL.out hb2 HBEL.out.size)
                clear hb2 g2
                go_wp2_with (fail)
                refine (c_multiplyN m 10 (by have := HN1.out; omega) (by have := nat_len_u64 (n := 10) (by omega); omega) _ _ _ _ w2 HF2.out HG2.out (fun i hi => hi.2) (fun i hi => hi)).mono ?_
                rintro e w3 ⟨v3, rfl, g3, hb3⟩
                obtain ⟨A3, c3, rfl⟩ := g3.shape
                have HF3 := Lib.hid (show Fs w2.heap.size w3 _ (m * 10) from g3)
                have HB3 := Lib.hid (below_join HB2.out hb3 HB2.out.size)
                clear hb3 g3
                go_wp2_with (fail)
                refine (c_natural d (by omega) _).mono ?_
                rintro e w4 ⟨v4, rfl, g4, hb4⟩
                obtain ⟨A4, c4, rfl⟩ := g4.shape
                have HF4 := Lib.hid (HF3.out.on hb4)
                have HG4 := Lib.hid (show Fs w3.heap.size w4 _ d from g4)
                have HB4 := Lib.hid (below_join HB3.out hb4 HB3.out.size)
                clear hb4 g4
                go_wp2_with (fail)
                refine (c_addF HF4.out HG4.out (by have h1 := mul_len m 10; have h2 := HN1.out; have := nat_len_u64 (n := 10) (by omega); omega) (by have := nat_len_u64 (n := d) (by omega); omega)).mono ?_
                rintro e w5 ⟨v5, rfl, g5, hb5⟩
                obtain ⟨A5, c5, rfl⟩ := g5.shape
                have HF5 := Lib.hid g5
                have HB5 := Lib.hid (below_join HB4.out hb5 HB4.out.size)
                have hz5 : w.heap.size ≤ w4.heap.size := Nat.le_trans HB1.out.size HB4.out.size
                clear hb5 g5
                go_wp2_with (fail)
                go_roundw
                case rel =>
                  refine ⟨k + 1, by have := HLEN.out; omega, by go_num, ?_, ?_, HB5.out⟩
                  · rw [HTS.out]
                    intro c hc
                    rcases List.mem_append.1 hc with h | h
                    · exact HDG.out c h
                    · rw [List.mem_singleton.1 h]; exact HX.out.1
                  · rw [HTS.out, nvl_snoc, HM.out, HX.out.2, Nat.add_sub_cancel]
                    exact HF5.out.mono hz5
                case measure => simp [intOf]; omega
              · have hbad : numOk l = false := by
                  rw [HG.out]
                  rw [List.all_eq_false]
                  exact ⟨x, HMEM.out, by simpa using hx⟩
                have HB := Lib.hid hbad
                have HB9 := Lib.hid (show Below w.heap.size w wr from below_join HB1.out HBEL.out HB1.out.size)
                have hx' : (x.toNat : Int) < 48 ∨ (57 : Int) < (x.toNat : Int) := by
                  unfold isDg at hx
                  simp only [Bool.and_eq_true, decide_eq_true_eq] at hx
                  omega
                clear hbad hx
                generalize x.toNat = y at *
                rcases hx' with hx' | hx'
                · go_wp2_with (fail)
                  go_ret2
                  exact num_bad HB.out HB9.out
                · have hx2 : (48 : Int) ≤ (y : Int) := by omega
                  go_wp2_with (fail)
                  go_ret2
                  exact num_bad HB.out HB9.out
            · obtain rfl : k = s.size := by have := HLEN.out; omega
              have HB9 := Lib.hid (show Below w.heap.size w wr from below_join HB1.out HBEL.out HB1.out.size)
              have hgood : numOk l = true := by
                rw [HG.out, List.all_eq_true]
                have := HDG.out
                rwa [List.take_of_length_le (by rw [HLEN.out]; exact Nat.le_refl _)] at this
              have hfl := HFS.out
              rw [List.take_of_length_le (by rw [HLEN.out]; exact Nat.le_refl _)] at hfl
              have HFL := Lib.hid hfl
              have HGD := Lib.hid hgood
              obtain ⟨A1, c1, rfl⟩ := HFS.out.shape
              clear hgood hfl
              go_wp2_with (fail)
              refine bodyPost_ret (by simp [results, go_sem]) rfl ⟨_, _, rfl, HB9.out, fun _ => ⟨rfl, HFL.out⟩, fun h => absurd (HGD.out.symm.trans h) (by decide)⟩
        · have h4' : (s.size : Int) ≤ 1 := by omega
          clear hlen h0 h1 h2 hs0
          go_enter Tryz.func53, Tryz.ntmps53
          go_wp2_with (fail)
          clear hrun
          go_loopw [4, 27] (fun n i wr => NumRel l w.heap.size W1 n i wr) (fun n i wr => s.size - (intOf i).toNat)
          case atStart => exact ⟨0, Nat.zero_le _, rfl, by simp, by rw [List.take_zero]; exact (show Fs w.heap.size W1 _ (nvl []) by unfold Fs; rw [show nvl [] = 0 from rfl, nat_zero]; exact NatSl.nil _ _), Below.refl _ _⟩
          case round =>
            obtain ⟨k, hk, rfl, hdg, hfs, hbel⟩ := hrel
            have HDG := Lib.hid hdg
            have HFS := Lib.hid hfs
            have HBEL := Lib.hid hbel
            clear hdg hfs hbel
            by_cases hlt : k < s.size
            · have hc : wr.cell? ⟨w.heap.size, k, none⟩ = some (.int .u8 (((l.getD k 0).toNat : Nat) : Int)) := (HBEL.out.cell (p := ⟨w.heap.size, k, none⟩) hlt1).trans (HC.out k hlt)
              have hlk : k < l.length := by rw [HLEN.out]; exact hlt
              have hts : l.take (k + 1) = l.take k ++ [l.getD k 0] := by rw [List.take_succ_eq_append_getElem hlk, List.getD_eq_getElem?_getD, List.getElem?_eq_getElem hlk]; rfl
              have hmem : l.getD k 0 ∈ l := by rw [List.getD_eq_getElem?_getD, List.getElem?_eq_getElem hlk]; exact List.getElem_mem hlk
              have HTS := Lib.hid hts
              have HMEM := Lib.hid hmem
              clear hts hmem hlk
              generalize l.getD k 0 = x at *
              obtain ⟨A1, c1, rfl⟩ := HFS.out.shape
              by_cases hx : isDg x = true
              · have hx' := hx
                unfold isDg at hx'
                simp only [Bool.and_eq_true, decide_eq_true_eq] at hx'
                obtain ⟨d, hd⟩ : ∃ d, x.toNat = d + 48 := ⟨x.toNat - 48, by omega⟩
                have HX := Lib.hid (And.intro hx hd)
                have hn1 := nvl_lt _ HDG.out
                rw [List.length_take] at hn1
                have hl1 := len309 hn1 (by omega)
                have HN1 := Lib.hid hl1
                rw [hd] at hc hx'
                clear hx hd hn1 hl1
                generalize hm : nvl (l.take k) = m at *
                have HM := Lib.hid hm
                clear hm
                have hd9 : d ≤ 9 := by omega
                clear hx'
                go_wp2_with (fail)
                refine (c_ten _).mono ?_
                rintro e w2 ⟨v2, rfl, g2, hb2⟩
                obtain ⟨A2, c2, rfl⟩ := g2.shape
                have HF2 := Lib.hid (HFS.out.on hb2)
                have HG2 := Lib.hid (natSl_any g2)
                have HB2 := Lib.hid (below_join HBEL.out hb2 HBEL.out.size)
                clear hb2 g2
                go_wp2_with (fail)
                refine (c_multiplyN m 10 (by have := HN1.out; omega) (by have := nat_len_u64 (n := 10) (by omega); omega) _ _ _ _ w2 HF2.out HG2.out (fun i hi => hi.2) (fun i hi => hi)).mono ?_
                rintro e w3 ⟨v3, rfl, g3, hb3⟩
                obtain ⟨A3, c3, rfl⟩ := g3.shape
                have HF3 := Lib.hid (show Fs w2.heap.size w3 _ (m * 10) from g3)
                have HB3 := Lib.hid (below_join HB2.out hb3 HB2.out.size)
                clear hb3 g3
                go_wp2_with (fail)
                refine (c_natural d (by omega) _).mono ?_
                rintro e w4 ⟨v4, rfl, g4, hb4⟩
                obtain ⟨A4, c4, rfl⟩ := g4.shape
                have HF4 := Lib.hid (HF3.out.on hb4)
                have HG4 := Lib.hid (show Fs w3.heap.size w4 _ d from g4)
                have HB4 := Lib.hid (below_join HB3.out hb4 HB3.out.size)
                clear hb4 g4
                go_wp2_with (fail)
                refine (c_addF HF4.out HG4.out (by have h1 := mul_len m 10; have h2 := HN1.out; have := nat_len_u64 (n := 10) (by omega); omega) (by have := nat_len_u64 (n := d) (by omega); omega)).mono ?_
                rintro e w5 ⟨v5, rfl, g5, hb5⟩
                obtain ⟨A5, c5, rfl⟩ := g5.shape
                have HF5 := Lib.hid g5
                have HB5 := Lib.hid (below_join HB4.out hb5 HB4.out.size)
                have hz5 : w.heap.size ≤ w4.heap.size := Nat.le_trans HB1.out.size HB4.out.size
                clear hb5 g5
                go_wp2_with (fail)
                go_roundw
                case rel =>
                  refine ⟨k + 1, by have := HLEN.out; omega, by go_num, ?_, ?_, HB5.out⟩
                  · rw [HTS.out]
                    intro c hc
                    rcases List.mem_append.1 hc with h | h
                    · exact HDG.out c h
                    · rw [List.mem_singleton.1 h]; exact HX.out.1
                  · rw [HTS.out, nvl_snoc, HM.out, HX.out.2, Nat.add_sub_cancel]
                    exact HF5.out.mono hz5
                case measure => simp [intOf]; omega
              · have hbad : numOk l = false := by
                  rw [HG.out]
                  rw [List.all_eq_false]
                  exact ⟨x, HMEM.out, by simpa using hx⟩
                have HB := Lib.hid hbad
                have HB9 := Lib.hid (show Below w.heap.size w wr from below_join HB1.out HBEL.out HB1.out.size)
                have hx' : (x.toNat : Int) < 48 ∨ (57 : Int) < (x.toNat : Int) := by
                  unfold isDg at hx
                  simp only [Bool.and_eq_true, decide_eq_true_eq] at hx
                  omega
                clear hbad hx
                generalize x.toNat = y at *
                rcases hx' with hx' | hx'
                · go_wp2_with (fail)
                  go_ret2
                  exact num_bad HB.out HB9.out
                · have hx2 : (48 : Int) ≤ (y : Int) := by omega
                  go_wp2_with (fail)
                  go_ret2
                  exact num_bad HB.out HB9.out
            · obtain rfl : k = s.size := by have := HLEN.out; omega
              have HB9 := Lib.hid (show Below w.heap.size w wr from below_join HB1.out HBEL.out HB1.out.size)
              have hgood : numOk l = true := by
                rw [HG.out, List.all_eq_true]
                have := HDG.out
                rwa [List.take_of_length_le (by rw [HLEN.out]; exact Nat.le_refl _)] at this
              have hfl := HFS.out
              rw [List.take_of_length_le (by rw [HLEN.out]; exact Nat.le_refl _)] at hfl
              have HFL := Lib.hid hfl
              have HGD := Lib.hid hgood
              obtain ⟨A1, c1, rfl⟩ := HFS.out.shape
              clear hgood hfl
              go_wp2_with (fail)
              refine bodyPost_ret (by simp [results, go_sem]) rfl ⟨_, _, rfl, HB9.out, fun _ => ⟨rfl, HFL.out⟩, fun h => absurd (HGD.out.symm.trans h) (by decide)⟩
end Go.Proofs.YtfdkdloldjfnjaaGreatDoor

/- DERIVED. decimal. -/
namespace Go.Proofs.YtfdkdloldjfnjaaGreatDoor
open Go.RowKit
set_option maxRecDepth 100000

/-- The table that strconv.Itoa reads is as it was laid, whatever is done behind. -/
def Tab (w : World) : Prop := ∃ B, B ≤ w.heap.size ∧ Lib.TabBelow Tryz.prog B w "internal/strconv.uint64pow10" .u64 Lib.pow10Tab
theorem Tab.on {w w' : World} (h : Tab w) (hb : Below w.heap.size w w') : Tab w' := by
  obtain ⟨B, h1, h2⟩ := h
  exact ⟨B, Nat.le_trans h1 hb.size, h2.on (hb.mono h1)⟩
theorem Tab.alloc {w : World} (h : Tab w) (o : Obj) : Tab (w.alloc o) := h.on ((Below.refl _ _).alloc (Nat.le_refl _) _)
theorem Tab.of {w : World} (h : Lib.TabIs Tryz.prog w "internal/strconv.uint64pow10" .u64 Lib.pow10Tab) : Tab w := ⟨_, Nat.le_refl _, Lib.tabBelow_of_tabIs h⟩
theorem below_grow (w : World) (k : Nat) (os : Array Obj) : Below w.heap.size w (Sort.grow (w.drewN k) os) := by
  refine ⟨rfl, rfl, rfl, ?_, fun i hi => ?_⟩
  · show w.heap.size ≤ (w.heap ++ os).size
    simp
  · show (w.heap ++ os)[i]? = w.heap[i]?
    rw [Array.getElem?_append_left hi]
/-- The string of some bytes. -/
def str (l : List UInt8) : ByteArray := ⟨l.toArray⟩
theorem str_size (l : List UInt8) : (str l).size = l.length := by simp [str, ByteArray.size]
theorem str_append (a b : List UInt8) : str a ++ str b = str (a ++ b) := by
  unfold str
  apply ByteArray.ext
  simp
theorem str_data (l : List UInt8) : (str l).data.toList = l := by simp [str]
theorem str_list (l : List UInt8) : (str l).toList = l := by rw [ByteArray.toList_eq]; simp [str]
theorem str_cons (l : List UInt8) (c : UInt8) : (str (c :: l)).extract 1 (l.length + 1) = str l := by
  apply ByteArray.ext
  simp [str]
theorem c_group (r : Nat) (h : r < 1000000000) (w : World) (ht : Tab w) :
    Calls Tryz.prog 100 #[.int .i64 (1000000000 + (r : Int))] w fun e w' => e = .returned (.string (str (49 :: pad 9 r))) ∧ Below w.heap.size w w' := by
  obtain ⟨B, h2, h3⟩ := ht
  refine (Tryz.strconv_Itoa (1000000000 + (r : Int)) (by omega) (by omega) w h3.here).mono ?_
  rintro e w' ⟨rfl, k, os, rfl⟩
  rw [itoa_group r h]
  exact ⟨rfl, below_grow _ _ _⟩
theorem slVal_fs {X : World} {ok : Nat → Prop} {v : Value} {n : Nat} (h : NatSl X ok v (nat n)) : slVal X v = n := by
  by_cases hl : 0 < (nat n).length
  · rw [slVal_eq h hl, val_nat]
  · obtain ⟨A, c, rfl⟩ := h.shape
    have h0 : n = 0 := by have := mt (nat_len_pos (n := n)).2 hl; omega
    have e0 : (nat n).length = 0 := by omega
    rw [e0, h0]
    unfold slVal
    cases A with
    | none => rfl
    | some a => rfl
theorem slice_from1 (l : List UInt8) (c : UInt8) (W : World) : (Instr.slice 9 (.string (str (c :: l))) (some (.int .i64 1)) none none).run Tryz.prog W = .ok (.string (str l)) W := by
  rw [run_slice_string_from_if W 9 (str (c :: l)) .i64 1 Tryz.underlying9]
  have hs : (str (c :: l)).size = l.length + 1 := by rw [str_size]; rfl
  rw [if_pos (by rw [hs]; omega)]
  have := str_cons l c
  rw [hs]
  simpa using this
def DecRel (n0 : Nat) (w : World) (v s : Value) (wr : World) : Prop :=
  ∃ (t : Nat) (S : List UInt8), s = .string (str S) ∧ grp n0 = grp t ++ S ∧ t ≤ n0 ∧ NatSl wr (fun i => i < wr.heap.size) v (nat t) ∧ Below w.heap.size w wr
theorem limb_low {r : Nat} (h : r < BB) : (nat r).getD 0 0 = r := by
  rcases Nat.eq_zero_or_pos r with h0 | h0
  · subst h0; rw [nat_zero]; rfl
  · rw [nat_pos h0, List.getD_cons_zero, Nat.mod_eq_of_lt h]
theorem c_billion (X : World) : Calls Tryz.prog 75 #[.int .u64 1000000000] X (NewNat 1000000000 X) := c_natural 1000000000 (by omega) X
theorem c_trim0 (S : List UInt8) (w : World) : Calls Tryz.prog 101 #[.string (str S), .string ⟨#[48]⟩] w fun e w' => e = .returned (.string (str (S.dropWhile (· == 48)))) ∧ w = w' := by
  refine (Tryz.strings_TrimLeft_one (str S) 48 (by decide) w).mono ?_
  rintro e w' ⟨rfl, rfl⟩
  rw [str_data]
  exact ⟨rfl, rfl⟩

set_option maxHeartbeats 1000000 in
theorem c_decimal (n : Nat) (hn : n < 10 ^ (9 * 40)) (hl : (nat n).length ≤ 1000) (v : Value) (w : World) (ht : Tab w) (h : NatSl w (fun i => i < w.heap.size) v (nat n)) :
    Calls Tryz.prog 61 #[v] w fun e w' => e = .returned (.string (str (Lib.decDigits n))) ∧ Below w.heap.size w w' := by
  obtain ⟨A, c, rfl⟩ := h.shape
  have hg := grp_len 40 n hn
  have HG := Lib.hid hg
  have HH := Lib.hid h
  have HT := Lib.hid ht
  have HL := Lib.hid hl
  clear hg h ht hn hl
  go_enter Tryz.func61, Tryz.ntmps61
  go_wp2_with (fail)
  go_loopw [0, 3] (fun v s wr => DecRel n w v s wr) (fun v s wr => slVal wr v)
  case atStart => exact ⟨n, [], rfl, by simp, Nat.le_refl _, HH.out, Below.refl _ _⟩
  case round =>
    obtain ⟨t, S, rfl, hgr, htn, hsl, hbel⟩ := hrel
    have HGR := Lib.hid hgr
    have HSL := Lib.hid hsl
    have HB := Lib.hid hbel
    have hsz : S.length ≤ 360 := by have := congrArg List.length hgr; rw [List.length_append] at this; have := HG.out; omega
    obtain ⟨A1, c1, rfl⟩ := hsl.shape
    clear hgr hsl hbel
    by_cases ht0 : 0 < t
    · have hlen := nat_len_pos.2 ht0
      have hlen' : (0 : Int) < ((nat t).length : Int) := by omega
      have hlt : (nat t).length ≤ 1000 := len_le_of_le htn HL.out
      have hr9 : t % 1000000000 < 1000000000 := Nat.mod_lt _ (by decide)
      have HLT := Lib.hid hlt
      have HT0 := Lib.hid ht0
      have HTN := Lib.hid htn
      have hS : (str S).size = S.length := str_size S
      have hP : (str (pad 9 (t % 1000000000))).size = 9 := by rw [str_size, pad_len]
      have hdv := Lib.hid (Nat.div_lt_self ht0 (show 1 < 1000000000 by decide))
      clear hlt ht0 htn hlen
      go_wp2_with (fail)
      refine (c_billion _).mono ?_
      rintro e w1 ⟨v1, rfl, g1, hb1⟩
      obtain ⟨A2, c2, rfl⟩ := g1.shape
      have HSL1 := Lib.hid (HSL.out.below (ok' := fun i => i < w1.heap.size) hb1 (fun i hi => ⟨hi, Nat.lt_of_lt_of_le hi hb1.size⟩))
      have HG1 := Lib.hid (natSl_any g1)
      have HB1 := Lib.hid (below_join HB.out hb1 HB.out.size)
      clear g1 hb1
      go_wp2_with (fail)
      refine (c_divideN t 1000000000 (by omega) (by have := HLT.out; omega) (by have := nat_len_u64 (n := 1000000000) (by omega); omega) _ _ w1 HSL1.out HG1.out).mono ?_
      rintro e w2 ⟨q, r, rfl, gq, gr, hb2⟩
      obtain ⟨A3, c3, rfl⟩ := gq.shape
      obtain ⟨A4, c4, rfl⟩ := gr.shape
      have HQ := Lib.hid gq
      have HR := Lib.hid gr
      have HB2 := Lib.hid (below_join HB1.out hb2 HB1.out.size)
      clear gq gr hb2
      go_wp2_with (fail)
      refine (limb_at (limb_low (show t % 1000000000 < BB by unfold BB; omega)) (c_limb (nat (t % 1000000000)) _ _ w2 HR.out 0 (by omega))).mono ?_
      rintro e w2' ⟨rfl, rfl⟩
      have HSF := Lib.hid (slice_from1 (pad 9 (t % 1000000000)) 49)
      have HDG := Lib.hid (show grp t = grp (t / 1000000000) ++ pad 9 (t % 1000000000) from grp_pos HT0.out)
      generalize t % 1000000000 = x at *
      go_wp2_with (fail)
      refine (c_group x hr9 _ (HT.out.on HB2.out)).mono ?_
      rintro e w3 ⟨rfl, hb3⟩
      have HQ3 := Lib.hid (HQ.out.on hb3)
      have HB3 := Lib.hid (below_join HB2.out hb3 HB2.out.size)
      have hsf := HSF.out
      clear hb3
      go_wp2_with (fail)
      clear hsf
      rw [str_append]
      go_roundw
      case rel =>
        refine ⟨t / 1000000000, pad 9 x ++ S, rfl, ?_, Nat.le_trans (Nat.le_of_lt hdv.out) HTN.out, natSl_any HQ3.out, HB3.out⟩
        rw [HGR.out, HDG.out, List.append_assoc]
      case measure =>
        rw [slVal_fs HQ3.out, slVal_fs HSL.out]
        exact hdv.out
    · obtain rfl : t = 0 := by omega
      have hz : (nat 0).length = 0 := by rw [nat_zero]; rfl
      have hlen' : ¬ (0 : Int) < ((nat 0).length : Int) := by omega
      have hS : S = grp n := by have := HGR.out; rw [grp_zero, List.nil_append] at this; exact this.symm
      have HS := Lib.hid hS
      have HZ := Lib.hid hz
      clear ht0 hz hS
      go_wp2_with (fail)
      refine (c_trim0 S wr).mono ?_
      rw [HS.out, drop_grp]
      rintro e w1 ⟨rfl, rfl⟩
      by_cases hn0 : n = 0
      · have HN := Lib.hid hn0
        have e0 : dig0 n = [] := by rw [hn0]; rfl
        rw [e0]
        have h1 : (str []).toList = [] := str_list []
        have h2 : (str []).toList.isEmpty = true := by rw [h1]; rfl
        have hfin : Ending.returned (.string ⟨#[48]⟩) = .returned (.string (str (Lib.decDigits n))) := by rw [hn0, Lib.decDigits, dif_pos (by decide)]; rfl
        have HFIN := Lib.hid hfin
        clear hn0 e0 hfin
        go_wp2_with (fail)
        go_ret
        exact ⟨HFIN.out, HB.out⟩
      · have e0 : dig0 n = Lib.decDigits n := if_neg hn0
        have hne := dig0_ne (n := n) (by omega)
        rw [e0] at hne ⊢
        have h1 : ¬ (str (Lib.decDigits n)).toList = [] := by rw [str_list]; exact hne
        have h2 : (str (Lib.decDigits n)).toList.isEmpty = false := by rw [List.isEmpty_eq_false_iff]; exact h1
        clear hn0 e0 hne
        go_wp2_with (fail)
        go_ret
        first | exact ⟨rfl, HB.out⟩ | exact ⟨trivial, HB.out⟩
end Go.Proofs.YtfdkdloldjfnjaaGreatDoor
