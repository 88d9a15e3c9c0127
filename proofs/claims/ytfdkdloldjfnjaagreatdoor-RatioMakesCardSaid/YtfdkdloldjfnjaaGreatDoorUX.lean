/-
  DERIVED. The reference's digits.
-/
import Derived.Test.YtfdkdloldjfnjaaGreatDoorUN
import Derived.Test.YtfdkdloldjfnjaaGreatDoorYUIm
import Derived.Test.YtfdkdloldjfnjaaGreatDoorUO
import Derived.Test.YtfdkdloldjfnjaaGreatDoorYRJm
set_option linter.unusedVariables false
set_option linter.unusedSimpArgs false
namespace Go.Proofs.YtfdkdloldjfnjaaGreatDoor
open Go.RowKit
set_option maxRecDepth 100000

def dgOk (l : List UInt8) : Prop := (∀ c ∈ l, isDg c = true) ∧ ∀ j, j < l.length → (nat (nvl (l.take j))).length ≤ 32
def DgPost (l : List UInt8) (w : World) (e : Ending) (w' : World) : Prop :=
  ∃ v b, e = .returned (.tuple #[v, .bool b]) ∧ Below w.heap.size w w' ∧ (b = true → dgOk l ∧ Ls w' v (nat (nvl l))) ∧ (b = false → ¬ dgOk l ∧ v = .slice none 0 0)
def DgRel (w : World) (l : List UInt8) (m i : Value) (wr : World) : Prop :=
  ∃ k : Nat, k ≤ l.length ∧ i = .int .i64 (k : Int) ∧ (∀ c ∈ l.take k, isDg c = true) ∧ (∀ j, j < k → (nat (nvl (l.take j))).length ≤ 32) ∧ Ls wr m (nat (nvl (l.take k))) ∧ Below w.heap.size w wr
theorem dg_bad {l : List UInt8} (h : ¬ dgOk l) {w w' : World} (hb : Below w.heap.size w w') : DgPost l w (.returned (.tuple #[.slice none 0 0, .bool false])) w' :=
  ⟨_, _, rfl, hb, fun h => by simp at h, fun _ => ⟨h, rfl⟩⟩
theorem ls_ten (w : World) : Ls (w.alloc (.cells #[.int .u32 10] 51)) (.slice (some ⟨w.heap.size, 0, none⟩) 1 1) (nat 10) := by
  have e : nat 10 = [10] := by
    rw [nat_pos (by omega), show 10 / BB = 0 from rfl, nat_zero]
    rfl
  rw [e]
  have hr : Row (w.alloc (.cells #[.int .u32 10] 51)) w.heap.size [10] := ⟨_, heap_alloc_new w _, rfl⟩
  exact ⟨(row_whole (n := 1) hr rfl (by omega)).mono (fun i hi => by subst hi; exact hr.lt), lb_cons.2 ⟨by unfold BB; omega, lb_nil⟩⟩
theorem take_snoc {l : List UInt8} {k : Nat} (h : k < l.length) : l.take (k + 1) = l.take k ++ [l.getD k 0] ∧ l.getD k 0 ∈ l := by
  constructor
  · rw [List.take_succ_eq_append_getElem h, List.getD_eq_getElem?_getD, List.getElem?_eq_getElem h]; rfl
  · rw [List.getD_eq_getElem?_getD, List.getElem?_eq_getElem h]; exact List.getElem_mem h
theorem prod_ten {m : Nat} {v : Value} {w : World} (hm : (nat m).length ≤ 32) (h : Ls w v (nat m)) :
    Calls Tryz.prog 69 #[v, .slice (some ⟨w.heap.size, 0, none⟩) 1 1] (w.alloc (.cells #[.int .u32 10] 51)).drew (NewNat (m * 10) (w.alloc (.cells #[.int .u32 10] 51)).drew) := by
  have h10 := nat_len_u64 (n := 10) (by omega)
  have := c_eProduct (nat m) (nat 10) (by omega) (by omega) v _ _ (h.on ((Below.refl w.heap.size w).alloc (Nat.le_refl _) (.cells #[.int .u32 10] 51)).drew) ((ls_ten w).on (Below.refl _ _).drew)
  rwa [val_nat, val_nat] at this
theorem dg_from {y d : Nat} (hd : d ≤ 9) (h : y = d + 48) (X : World) : Calls Tryz.prog 49 #[.int .u64 (IntKind.u64.wrap (IntKind.u8.wrap ((y : Int) - 48)))] X (NewNat d X) := by
  have e : IntKind.u64.wrap (IntKind.u8.wrap ((y : Int) - 48)) = (d : Int) := by
    rw [show ((y : Int) - 48) = ((d : Nat) : Int) by omega]
    have e2 : IntKind.u8.wrap ((d : Nat) : Int) = ((d : Nat) : Int) := by
      match d, hd with
      | 0, _ | 1, _ | 2, _ | 3, _ | 4, _ | 5, _ | 6, _ | 7, _ | 8, _ | 9, _ => rfl
    rw [e2, u64w (by omega)]
  rw [e]
  exact c_eFrom d (by omega) X
theorem dg_sum {m d : Nat} {va vb : Value} {w : World} (hd : d ≤ 9) (hm : (nat m).length ≤ 32) (h : Ls w va (nat (m * 10))) (k : Ls w vb (nat d)) : Calls Tryz.prog 77 #[va, vb] w (NewNat (m * 10 + d) w) := by
  have h1 := mul_len m 10
  have h2 := nat_len_u64 (n := 10) (by omega)
  have h3 := nat_len_u64 (n := d) (by omega)
  exact c_eSumN _ _ (by omega) (by omega) _ _ _ h k
set_option maxHeartbeats 4000000 in
theorem c_eDigits (l : List UInt8) (s : ByteArray) (hl : s.data.toList = l) (hs : s.size ≤ maxLen) (w : World) : Calls Tryz.prog 54 #[.string s] w (DgPost l w) := by
  have hlen : l.length = s.size := by rw [← hl]; simp
  have hget : ∀ k (h : k < s.size), s[k] = l.getD k 0 := fun k h => by
    rw [← hl, List.getD_eq_getElem?_getD, List.getElem?_eq_getElem (by simpa using h)]
    rfl
  have HLEN := Lib.hid hlen
  have HGET := Lib.hid hget
  unfold maxLen at hs
  clear hl hlen hget
  go_enter Tryz.func54, Tryz.ntmps54
  go_wp2_with (fail)
  go_loopw [4, 5] (fun m i wr => DgRel w l m i wr) (fun m i wr => s.size - (intOf i).toNat)
  case atStart => exact ⟨0, Nat.zero_le _, rfl, by simp, fun j h => by omega, by rw [List.take_zero]; exact (show Ls w _ (nat (nvl [])) by rw [show nvl [] = 0 from rfl, nat_zero]; exact ⟨NatSl.nil _ _, lb_nil⟩), Below.refl _ _⟩
  case round =>
    obtain ⟨k, hk, rfl, hdg, hsh, hls, hbel⟩ := hrel
    have HDG := Lib.hid hdg
    have HSH := Lib.hid hsh
    have HLS := Lib.hid hls
    have HB := Lib.hid hbel
    clear hdg hsh hls hbel
    by_cases hlt : k < s.size
    · have hin : (k : Int) < (s.size : Nat) := by omega
      have hkk : ((k : Nat) : Int).toNat = k := by omega
      have hk0 : (0 : Int) ≤ (k : Int) := by omega
      have hx := HGET.out k hlt
      have HT := Lib.hid (take_snoc (l := l) (k := k) (by have := HLEN.out; omega))
      generalize l.getD k 0 = x at *
      obtain ⟨A1, c1, rfl⟩ := HLS.out.1.shape
      by_cases hd : isDg x = true
      · obtain ⟨n1, n2⟩ := isDg_nat hd
        have HD := Lib.hid hd
        have g1 : s[k].toNat = x.toNat := by rw [hx]
        have HY := Lib.hid (show ∃ d, d ≤ 9 ∧ x.toNat = d + 48 ∧ x.toNat - 48 = d from ⟨x.toNat - 48, by omega, by omega, rfl⟩)
        have y1 : (48 : Int) ≤ (x.toNat : Int) := by omega
        have y2 : (x.toNat : Int) ≤ 57 := by omega
        clear hd hx n1 n2
        have HXY := Lib.hid (rfl : x.toNat = x.toNat)
        generalize hy : x.toNat = y at g1 HY y1 y2
        have HYX := Lib.hid hy
        clear hy HXY
        by_cases h32 : (nat (nvl (l.take k))).length ≤ 32
        · have h32' : ((nat (nvl (l.take k))).length : Int) ≤ 32 := by omega
          generalize hm : nvl (l.take k) = m at *
          have HM := Lib.hid hm
          clear hm
          obtain ⟨d, hd9, hyd, hdd⟩ := HY.out
          have HDD := Lib.hid hdd
          have HF := Lib.hid (fun (X : World) => dg_from hd9 hyd X)
          clear hyd hdd
          have hz := HB.out.size
          have HB0 := Lib.hid (below_join HB.out ((Below.refl wr.heap.size wr).alloc (Nat.le_refl _) (.cells #[.int .u32 10] 51)).drew hz)
          have HP := Lib.hid (prod_ten (by omega) HLS.out)
          go_wp2_with (fail)
          go_region_held3 (fun _ => True) (trivial)
            (first
              | (go_at_call 69; (with_reducible refine HP.out.mono ?_); rintro e wa ha0; obtain ⟨va, rfl, ha, hba⟩ := NewNat.ls ha0; obtain ⟨A2, c2, rfl⟩ := ha.1.shape; have HPa := Lib.hid ha; have HBa := Lib.hid (below_join HB0.out hba HB0.out.size); clear ha0 ha hba)
              | (go_at_call 49; (with_reducible refine (HF.out wa).mono ?_); rintro e wb hb0; obtain ⟨vb, rfl, hb, hbb⟩ := NewNat.ls hb0; obtain ⟨A3, c3, rfl⟩ := hb.1.shape; have HPb := Lib.hid (HPa.out.on hbb); have HSb := Lib.hid hb; have HBb := Lib.hid (below_join HBa.out hbb HBa.out.size); clear hb0 hb hbb)
              | (go_at_call 77; (with_reducible refine (dg_sum hd9 h32 HPb.out HSb.out).mono ?_); rintro e wd hd0; obtain ⟨vd, rfl, hd, hbd⟩ := NewNat.ls hd0; obtain ⟨A4, c4, rfl⟩ := hd.1.shape; have HSd := Lib.hid hd; have HBd := Lib.hid (below_join HBb.out hbd HBb.out.size); clear hd0 hd hbd)
              | fail)
          all_goals (
            go_wp2_with (fail)
            refine ⟨⟨k + 1, by have := HLEN.out; omega, by go_num, ?_, ?_, ?_, HBd.out⟩, by simp [intOf]; omega⟩
            · rw [HT.out.1]
              intro c hc
              rcases List.mem_append.1 hc with h | h
              · exact HDG.out c h
              · rw [List.mem_singleton.1 h]; exact HD.out
            · intro j hj
              rcases Nat.lt_or_ge j k with h | h
              · exact HSH.out j h
              · rw [show j = k by omega, HM.out]; exact h32
            · rw [HT.out.1, nvl_snoc, HM.out, HYX.out, HDD.out]
              exact HSd.out)
        · have h32' : (32 : Int) < ((nat (nvl (l.take k))).length : Int) := by omega
          have HBAD := Lib.hid (show ¬ dgOk l from fun h => h32 (h.2 k (by have := HLEN.out; omega)))
          go_wp2_with (fail)
          go_ret2
          exact dg_bad HBAD.out HB.out
      · have HBAD := Lib.hid (show ¬ dgOk l from fun h => hd (h.1 x HT.out.2))
        have hx' : (x.toNat : Int) < 48 ∨ (57 : Int) < (x.toNat : Int) := by
          unfold isDg at hd
          simp only [Bool.and_eq_true, decide_eq_true_eq] at hd
          omega
        have g1 : s[k].toNat = x.toNat := by rw [hx]
        clear hd hx
        generalize x.toNat = y at *
        rcases hx' with hx' | hx'
        · go_wp2_with (fail)
          go_ret2
          exact dg_bad HBAD.out HB.out
        · have hx2 : (48 : Int) ≤ (y : Int) := by omega
          go_wp2_with (fail)
          go_ret2
          exact dg_bad HBAD.out HB.out
    · have hin : ¬ (k : Int) < (s.size : Nat) := by omega
      obtain rfl : k = l.length := by have := HLEN.out; omega
      have HTK := Lib.hid (show l.take l.length = l from List.take_of_length_le (Nat.le_refl _))
      go_wp2_with (fail)
      go_ret2
      have hls := HLS.out
      have hdg := HDG.out
      rw [HTK.out] at hls hdg
      exact ⟨_, _, rfl, HB.out, fun _ => ⟨⟨hdg, HSH.out⟩, hls⟩, fun h => by simp at h⟩
end Go.Proofs.YtfdkdloldjfnjaaGreatDoor
