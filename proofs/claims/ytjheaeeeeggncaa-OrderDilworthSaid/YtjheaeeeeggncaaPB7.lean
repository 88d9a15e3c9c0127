/-
  DERIVED. Several texts in one.
-/
import Derived.Test.YtjheaeeeeggncaaPB6
import Derived.Test.YtjheaeeeeggncaaPB3
import Derived.Lib.SliceRun
import Derived.Test.YtjheaeeeeggncaaRows
import Derived.Handed
import Derived.OpenShut
import Derived.Deep.Fields
import Derived.Deep.Slices
import Derived.ChangeSame
import Derived.ChangeSlices
set_option linter.unusedVariables false
set_option linter.unusedSimpArgs false

namespace Go.Proofs.Ytjheaeeeeggncaa
open Go.RowKit Go.Shelf
attribute [local go_sem] Oper.semAt_some
set_option maxRecDepth 100000
set_option linter.unusedVariables false
set_option linter.unusedSimpArgs false

def u8V (x : Nat) (_ : Nat) : Value := .int .u8 (x : Int)
theorem u8_at {w : World} {b o c : Nat} {l : List Nat} (h : Rv 1 u8V w (some ⟨b, o, none⟩) c l) {j : Nat} {x : Nat} (hj : l[j]? = some x) : w.cell? ⟨b, o + j, none⟩ = some (.int .u8 (x : Int)) := by
  obtain ⟨b', o', e, -, h0⟩ := h.at_ hj
  injection e with e
  injection e with e1 e2
  subst e1 e2
  have := h0 0 (by omega)
  rwa [Nat.mul_one, Nat.add_zero] at this
theorem mk_lists (n : Nat) (h0 : n ≤ 100) : ∀ w : World, (Instr.makeSlice 22 (.int .i64 (n : Int)) (.int .i64 (n : Int))).run Try.prog w = .ok (.slice (some ⟨w.heap.size, 0, none⟩) n n) (w.alloc (.cells (slV n fun _ => .slice none 0 0).toArray 33)) := by
  obtain ⟨i0, hi0, hz0, hz1, hz2⟩ := info_parts li_info
  intro w
  have h := run_make (P := Try.prog) w 22 33 i0 (.slice none 0 0) Try.underlying22 hi0 hz0 .i64 .i64 (n : Int) (n : Int) (by omega) (by omega) (by rw [hz2]; omega) (by omega)
  rw [hz1] at h
  have e : (slV n fun _ => .slice none 0 0).toArray = madeCells (Value.slice none 0 0).cells n := by
    apply Array.toList_inj.1
    rw [show (Value.slice none 0 0).cells = #[.slice none 0 0] from rfl, toList_madeCells_one]
    apply List.ext_getElem?
    intro j
    by_cases hj : j < n
    · show (slV n fun _ => .slice none 0 0)[j]? = _
      rw [slV_at _ hj]; simp [hj]
    · show (slV n fun _ => .slice none 0 0)[j]? = _
      rw [List.getElem?_eq_none (by rw [slV_len]; omega)]; simp; omega
  rw [e]
  simpa using h
theorem own_addr {X : World} {base n k : Nat} {T : TypeId} {v : Value} {xs : List Value} (h : X.ownsRow base T k v n xs) (hn : 0 < n) : ∃ g cap, v = .slice (some ⟨g, 0, none⟩) n cap ∧ n ≤ cap ∧ base ≤ g ∧ cap ≤ maxLen := by
  obtain ⟨-, ⟨-, e⟩ | ⟨g, cap, cur, rfl, k3, k4, k5, k6, -⟩⟩ := h
  · omega
  · exact ⟨g, cap, rfl, k5, k3, k6⟩
theorem range_elV (i : Nat) : elV (List.range (i + 1)) = elV (List.range i) ++ [.int .i64 (i : Int)] := by rw [List.range_succ]; exact elV_snoc _ _
def vA : Value → Option Addr
  | .slice A _ _ => A
  | _ => none
def vC : Value → Nat
  | .slice _ _ c => c
  | _ => 0
def yLs (vs : Nat → Value) (ls : Nat → List Nat) (q : Nat) : LsV := ⟨vA (vs q), vC (vs q), intsN (ls q)⟩
def ysM (k : Nat) (vs : Nat → Value) (ls : Nat → List Nat) : List LsV := (List.range k).map (yLs vs ls)
theorem ysM_len (k : Nat) (vs : Nat → Value) (ls : Nat → List Nat) : (ysM k vs ls).length = k := by simp [ysM]
theorem ysM_at {k : Nat} {vs : Nat → Value} {ls : Nat → List Nat} {q : Nat} {x : LsV} (h : (ysM k vs ls)[q]? = some x) : x.l = intsN (ls q) := by
  unfold ysM at h
  rw [List.getElem?_map] at h
  obtain ⟨y, h1, rfl⟩ := Option.map_eq_some_iff.1 h
  rw [List.getElem?_eq_some_iff] at h1
  obtain ⟨h2, h3⟩ := h1
  rw [List.getElem_range] at h3
  subst h3
  rfl
theorem cellsV_lsO {l : List LsV} : cellsV 1 lsV l = l.map fun x => lsV x 0 := by
  unfold cellsV
  induction l with
  | nil => rfl
  | cons x l ih => simp [List.flatMap_cons] at ih ⊢; exact ih
theorem MdS.out {w X : World} {ga k : Nat} {nv : Value} {nm : List Nat} {vs : Nat → Value} {ls : Nat → List Nat} (h : MdS w X ga k nv nm vs ls) (hk : k ≤ 9) : OutL w.heap.size X (.slice (some ⟨ga, 0, none⟩) k k) (ysM k vs ls) := by
  have hv : ∀ q, q < k → vs q = .slice (vA (vs q)) (ls q).length (vC (vs q)) := fun q hq => by
    obtain ⟨A, c, e⟩ := own_shape (h.row q hq)
    rw [e]; rfl
  have e : cellsV 1 lsV (ysM k vs ls) = slV k vs := by
    rw [cellsV_lsO]
    unfold ysM slV
    rw [List.map_map]
    apply List.map_congr_left
    intro q hq
    show Value.slice (vA (vs q)) (intsN (ls q)).length (vC (vs q)) = vs q
    rw [intsN_len]
    exact (hv q (List.mem_range.1 hq)).symm
  refine ⟨?_, fun y hy => ?_⟩
  · rw [e, ysM_len]
    refine ⟨by rw [slV_len]; omega, .inr ⟨ga, k, (slV k vs).toArray, rfl, h.gle, h.blk, Nat.le_refl _, by unfold maxLen; omega, by rw [List.size_toArray, slV_len]; omega, ?_⟩⟩
    show (slV k vs).take (k * 1) = _
    exact List.take_of_length_le (by rw [slV_len]; omega)
  · unfold ysM at hy
    obtain ⟨q, hq, rfl⟩ := List.mem_map.1 hy
    have hq := List.mem_range.1 hq
    show X.ownsRow w.heap.size 3 1 (.slice (vA (vs q)) (intsN (ls q)).length (vC (vs q))) (intsN (ls q)).length (cellsV 1 inV (intsN (ls q)))
    rw [intsN_len, ← elV_ints, ← hv q hq]
    exact h.row q hq
theorem MdP.perm {nm : List Nat} {i j u : Nat} {ls : Nat → List Nat} {m : List Nat} (h : MdP nm i j ls) (hp : m.Perm (ls u)) : MdP nm i j (putL ls u m) := fun q x hx => by
  unfold putL at hx
  split at hx
  · rename_i e
    subst e
    exact h q x (hp.mem_iff.1 hx)
  · exact h q x hx
set_option maxHeartbeats 16000000 in
theorem c_made (n : Nat) (hn : n < 256) (B : Option Addr) (d : Nat) (tn : List Nat) (htn : ∀ x ∈ tn, x < 256) (pr : Int) (hpr : 0 ≤ pr) (w : World) (h : Rv 1 u8V w B d tn) :
    Calls Try.prog 41 #[.int .u8 (n : Int), .slice B tn.length d, .int .u64 pr] w fun e w' => ∃ v ys, e = .returned v ∧ OutL w.heap.size w' v ys ∧ ys.length ≤ 9 ∧ rdN ys = 0 ∧ Below w.heap.size w w' := by
  have HTN := Lib.hid h
  have HTB := Lib.hid htn
  obtain ⟨k, hk⟩ : ∃ k, n % 10 = k := ⟨_, rfl⟩
  have hk9 : k ≤ 9 := by omega
  have hkr : (n : Int) % 10 = (k : Int) := by omega
  have hkt : (n : Int).tmod 10 = (k : Int) := by rw [Int.tmod_eq_emod_of_nonneg (by omega)]; exact hkr
  have hmk := mk_lists k (by omega)
  have hfm : Try.prog.follows Departure.mixedOrders = true := by kernel_rfl
  obtain ⟨i1, hi1, hz1, hz2, hz3⟩ := info_parts int_info
  have HZ1 := Lib.hid hz1
  have ht1 := h.1; have ht2 := h.2.1
  unfold maxLen at ht2
  clear h htn hk
  go_enter Try.func41, Try.ntmps41
  go_wp2_with (fail)
  have H0 := Lib.hid (show w.ownsRow w.heap.size 3 1 (.slice none 0 0) 0 (elV (List.range 0)) from World.ownsRow_nil _ _ _ _)
  go_loopw [8, 21] (fun v z wr => ∃ i : Nat, i ≤ k ∧ z = .int .i64 (i : Int) ∧ Hid (Below w.heap.size w wr) ∧ Hid (wr.ownsRow w.heap.size 3 1 v i (elV (List.range i)))) (fun _ z _ => k - (intOf z).toNat)
  case atStart => exact ⟨0, Nat.zero_le _, rfl, Lib.hid (Below.refl _ _), H0⟩
  case round =>
    obtain ⟨i, hi, rfl, hB, ho⟩ := hrel
    have hii : ((i : Nat) : Int).toNat = i := by omega
    obtain ⟨As, cs, rfl⟩ := own_shape ho.out
    by_cases hlt : i < k
    · have hil : (i : Int) < (k : Int) := by omega
      have hz4 := hB.out.size
      go_wp2_with (at_builtin; refine wpList_append_lies _ rfl _ _ 33 rfl w.heap.size 3 i1 (.int .i64 0) 1 8 Try.underlying33 hi1 hz1 hz2 hz3 rfl (by decide) (.slice As i cs) i _ rfl (ho.out.alloc _) ⟨wr.heap.size, 0, none⟩ 1 1 [.int .i64 (i : Int)] rfl rfl (World.news_of_block (heap_alloc_new _ _)) (by simp [Value.oneCell']) (by decide) (by unfold maxLen; omega) (by omega) (by simp; omega) (wr.heap.size + 1) (by simp) ?_; intro g4 cap4 Z hown hgrow _ _; have HBZ := Lib.hid ((hB.out.alloc hB.out.size _).grown hgrow (by simp; omega) (fun k hk => (ownsRow_lt ho.out hk).1)); have HOZ := Lib.hid hown; clear hown hgrow)
      go_roundw
      case rel => exact ⟨i + 1, by omega, by go_num, HBZ, by rw [range_elV]; exact HOZ⟩
      case measure => simp only [intOf]; omega
    · obtain rfl : i = k := by omega
      obtain ⟨wA, hwA⟩ : ∃ z, z = wr := ⟨_, rfl⟩
      subst hwA
      have HKA := hB
      have HOA := Lib.hid (show ∃ m : List Nat, m.length = i ∧ m.Perm (List.range i) ∧ wA.ownsRow w.heap.size 3 1 (.slice As i cs) i (elV m) from ⟨List.range i, List.length_range, List.Perm.refl _, ho.out⟩)
      clear hlt hi hii
      go_wp2_with (fail)
      go_loopw [31] (fun z wr => ∃ t : Nat, t ≤ i ∧ z = .int .i64 (t : Int) ∧ Hid (Below w.heap.size w wr) ∧ Hid (∃ m : List Nat, m.length = i ∧ m.Perm (List.range i) ∧ wr.ownsRow w.heap.size 3 1 (.slice As i cs) i (elV m))) (fun z _ => i - (intOf z).toNat)
      case atStart => exact ⟨0, Nat.zero_le _, rfl, HKA, HOA⟩
      case round =>
        obtain ⟨t, ht, rfl, hB, hO⟩ := hrel
        have hti : ((t : Nat) : Int).toNat = t := by omega
        by_cases hlt : t < i
        · have htl : (t : Int) < (i : Int) := by omega
          obtain ⟨m, hml, hmp, hmo⟩ := hO.out
          obtain ⟨g, cap, e0, hgc, hgb, hgm⟩ := own_addr hmo (by omega)
          injection e0 with e0 _ e1
          subst e0 e1
          unfold maxLen at hgm
          by_cases htn : t < tn.length
          · have htl2 : (t : Int) < (tn.length : Int) := by omega
            obtain ⟨q, hq⟩ : ∃ q, tn[t]? = some q := ⟨_, List.getElem?_eq_getElem htn⟩
            have hq6 := HTB.out q (List.mem_of_getElem? hq)
            obtain ⟨pb, po, hpe, -, -⟩ := HTN.out.at_ hq
            have y0 := HTN.out.on hB.out (Nat.le_refl _)
            rw [hpe] at y0
            have y1 := u8_at y0 hq
            obtain ⟨r, hr⟩ : ∃ r, q % (i - t) = r := ⟨_, rfl⟩
            have hri : r < i - t := by rw [← hr]; exact Nat.mod_lt _ (by omega)
            obtain ⟨j, hj⟩ : ∃ j, j = t + r := ⟨_, rfl⟩
            have hji : j < i := by omega
            have hji2 : (j : Int) < (i : Int) := by omega
            have hjj : ((j : Nat) : Int).toNat = j := by omega
            have hd1 : IntKind.i64.wrap ((i : Int) - (t : Int)) = ((i - t : Nat) : Int) := by rw [show (i : Int) - (t : Int) = ((i - t : Nat) : Int) by omega]; exact wrap_in (by omega) (by omega)
            obtain ⟨df, hdf⟩ : ∃ z, i - t = z := ⟨_, rfl⟩
            rw [hdf] at hd1 hr hri
            have hd0 : 0 < df := by omega
            have hm1 : (q : Int).tmod (df : Int) = (r : Int) := by rw [Int.tmod_eq_emod_of_nonneg (by omega), ← hr]; simp
            have hm2 : (q : Int) % (df : Int) = (r : Int) := by rw [← hr]; simp
            have hs1 : IntKind.i64.wrap ((t : Int) + (r : Int)) = (j : Int) := by rw [show (t : Int) + (r : Int) = (j : Int) by omega]; exact wrap_in (by omega) (by omega)
            have hs2 : (t : Int) + (r : Int) = (j : Int) := by omega
            rw [hpe]
            have HDF := Lib.hid hdf
            have HJ := Lib.hid hj
            obtain ⟨x, hx⟩ : ∃ x, m[t]? = some x := ⟨_, List.getElem?_eq_getElem (by rw [hml]; exact hlt)⟩
            obtain ⟨y, hy⟩ : ∃ y, m[j]? = some y := ⟨_, List.getElem?_eq_getElem (by rw [hml]; exact hji)⟩
            have hm0 : wr.ownsRow w.heap.size 3 1 (.slice (some ⟨g, 0, none⟩) m.length cs) m.length (elV m) := by rw [hml]; exact hmo
            have x0 := own_atN hm0 hx
            have x1 := own_atN hm0 hy
            have f0 := own_frzN hmo t
            have f1 := own_frzN hmo j
            have hm3 : ((wr.setCell ⟨g, t, none⟩ (.int .i64 (y : Int))).setCell ⟨g, j, none⟩ (.int .i64 (x : Int))).ownsRow w.heap.size 3 1 (.slice (some ⟨g, 0, none⟩) i cs) i (elV ((m.set t y).set j x)) := by
              have h4 := own_setN (v := y) hm0 (show t < m.length by rw [hml]; exact hlt)
              have h5 := own_setN (l := m.set t y) (v := x) (i := j) (by rw [List.length_set]; exact h4) (by rw [List.length_set, hml]; exact hji)
              rw [List.length_set, hml] at h5
              exact h5
            have HM3 := Lib.hid hm3
            have HP3 := Lib.hid ((swap_perm (by rw [hml]; exact hlt) (by rw [hml]; exact hji) hy hx).trans hmp)
            have HL3 := Lib.hid (show ((m.set t y).set j x).length = i by rw [List.length_set, List.length_set]; exact hml)
            have HB3 := Lib.hid ((hB.out.setCell (p := ⟨g, t, none⟩) hgb (.int .i64 (y : Int))).setCell (p := ⟨g, j, none⟩) hgb (.int .i64 (x : Int)))
            by_cases hjt : t = j
            · subst hjt
              obtain rfl : x = y := by rw [hx] at hy; injection hy
              clear hr y0 hdf hj hx hy hm0 hmo hm3 hml hmp hs2 x1 f1 hji hji2 hjj
              go_wp2_with (fail)
              go_region
              go_wp2_with (fail)
              go_roundw
              case rel => exact ⟨t + 1, by omega, by go_num, Lib.hid HB3.out.drew, Lib.hid ⟨_, HL3.out, HP3.out, own_on HM3.out (Below.refl _ _).drew (Nat.le_refl _)⟩⟩
              case measure => simp only [intOf]; omega
            · have hjt2 : ¬ j = t := fun e => hjt e.symm
              clear hr y0 hdf hj hx hy hm0 hmo hm3 hml hmp hs2
              go_wp2_with (fail)
              go_region
              go_wp2_with (fail)
              go_roundw
              case rel => exact ⟨t + 1, by omega, by go_num, Lib.hid HB3.out.drew, Lib.hid ⟨_, HL3.out, HP3.out, own_on HM3.out (Below.refl _ _).drew (Nat.le_refl _)⟩⟩
              case measure => simp only [intOf]; omega
          · have htl2 : (tn.length : Int) ≤ (t : Int) := by omega
            clear hml hmp hmo
            go_wp2_with (fail)
            go_roundw
            case rel => exact ⟨t + 1, by omega, by go_num, hB, hO⟩
            case measure => simp only [intOf]; omega
        · obtain rfl : t = i := by omega
          obtain ⟨wB, hwB⟩ : ∃ z, z = wr := ⟨_, rfl⟩
          subst hwB
          have HKB := hB
          obtain ⟨nm, hnl, hnp, hno⟩ := hO.out
          have HNL := Lib.hid hnl
          have HNP := Lib.hid hnp
          have HNO := Lib.hid hno
          clear hlt ht hti hnl hnp hno
          obtain ⟨W0, hW0⟩ : ∃ z, z = wB.alloc (.cells (slV t fun _ => .slice none 0 0).toArray 33) := ⟨_, rfl⟩
          have HW0 := Lib.hid hW0
          have bW0 : Below wB.heap.size wB W0 := by rw [hW0]; exact (Below.refl _ _).alloc (Nat.le_refl _) _
          have HS0 := Lib.hid (show MdS w W0 wB.heap.size t (.slice As t cs) nm (fun _ => .slice none 0 0) (fun _ => []) from by
            have hn1 := own_on HNO.out bW0 (Nat.le_refl _)
            refine ⟨below_join HKB.out bW0 HKB.out.size, HKB.out.size, ?_, fun q hq => World.ownsRow_nil _ _ _ _, fun q r g hq hr hne hg => (by cases hg), ?_, fun q g hq hg => (by cases hg)⟩
            · rw [hW0]; exact heap_alloc_new _ _
            · rw [HNL.out]; exact hn1)
          have HMP0 := Lib.hid (MdP.start nm)
          have HND0 := Lib.hid (show ∀ q : Nat, q < t → (([] : List Nat)).Nodup from fun _ _ => List.nodup_nil)
          have hmk0 := hmk wB
          rw [← hW0] at hmk0
          obtain ⟨ga, hga⟩ : ∃ z, wB.heap.size = z := ⟨_, rfl⟩
          rw [hga] at HS0 hmk0
          clear hmk hga hW0 bW0
          go_wp2_with (fail)
          go_loopw [13, 67] (fun zat z wr => ∃ i a : Nat, ∃ vs ls, i ≤ t ∧ z = .int .i64 (i : Int) ∧ zat = .int .i64 (a : Int) ∧ a ≤ 10 * i ∧ Hid (MdS w wr ga t (.slice As t cs) nm vs ls) ∧ Hid (MdP nm i 0 ls) ∧ Hid (∀ q, q < t → (ls q).Nodup)) (fun _ z _ => t - (intOf z).toNat)
          case atStart => exact ⟨0, 0, _, _, Nat.zero_le _, rfl, rfl, Nat.le_refl _, HS0, HMP0, HND0⟩
          case round =>
            obtain ⟨i, a, vs, ls, hi, rfl, rfl, ha, hS, hM, hN⟩ := hrel
            have hii : ((i : Nat) : Int).toNat = i := by omega
            by_cases hlt : i < t
            · have hil : (i : Int) < (t : Int) := by omega
              have HM0 := Lib.hid (show MdP nm i 0 ls from hM.out)
              go_wp2_with (fail)
              rename World => wo
              go_loopw [13, 71] (fun zat z wr => ∃ j a : Nat, ∃ vs ls, j ≤ i ∧ z = .int .i64 (j : Int) ∧ zat = .int .i64 (a : Int) ∧ a ≤ 10 * i + j ∧ Hid (MdS w wr ga t (.slice As t cs) nm vs ls) ∧ Hid (MdP nm i j ls) ∧ Hid (∀ q, q < t → (ls q).Nodup)) (fun _ z _ => i - (intOf z).toNat)
              case atStart => exact ⟨0, a, vs, ls, Nat.zero_le _, rfl, rfl, by omega, hS, HM0, hN⟩
              case round =>
                clear hS hM hN HM0
                obtain ⟨j, b, v2, l2, hj, rfl, rfl, hb, hS, hM, hN⟩ := hrel
                have hjj : ((j : Nat) : Int).toNat = j := by omega
                have hbb : ((b : Nat) : Int).toNat = b := by omega
                by_cases hlt3 : j < i
                · have hjl : (j : Int) < (i : Int) := by omega
                  obtain ⟨bt, hbt⟩ : ∃ c, (bits .and .u64 (pr / 2 ^ min b 64) 1 == 1) = c := ⟨_, rfl⟩
                  cases bt
                  · go_wp2_with (fail)
                    go_roundw
                    case rel => exact ⟨j + 1, b + 1, v2, l2, by omega, by go_num, by go_num, by omega, hS, Lib.hid hM.out.skip, hN⟩
                    case measure => simp only [intOf]; omega
                  · go_wp2_with (fail)
                    --R24a
                    obtain ⟨u, hu⟩ : ∃ u, nm[i]? = some u := ⟨_, List.getElem?_eq_getElem (by rw [HNL.out]; exact hlt)⟩
                    obtain ⟨x, hx⟩ : ∃ x, nm[j]? = some x := ⟨_, List.getElem?_eq_getElem (by rw [HNL.out]; omega)⟩
                    have hut : u < t := List.mem_range.1 (HNP.out.mem_iff.1 (List.mem_of_getElem? hu))
                    have hut2 : (u : Int) < (t : Int) := by omega
                    have huu : ((u : Nat) : Int).toNat = u := by omega
                    have hxt : x < t := List.mem_range.1 (HNP.out.mem_iff.1 (List.mem_of_getElem? hx))
                    have hjt : (j : Int) < (t : Int) := by omega
                    have hNM : wr.ownsRow w.heap.size 3 1 (.slice As nm.length cs) nm.length (elV nm) := by have h := hS.out.names; rwa [show t = nm.length from HNL.out.symm] at h
                    obtain ⟨gn, cap, e0, hgc, hgb, hgm⟩ := own_addr hNM (by rw [HNL.out]; omega)
                    injection e0 with e0 _ e1
                    subst e0 e1
                    have x0 := own_atN hNM hu
                    have x1 := own_atN hNM hx
                    have x2 : wr.cell? ⟨ga, u, none⟩ = some (v2 u) := cell_of hS.out.blk (by rw [List.getElem?_toArray]; exact slV_at _ hut)
                    obtain ⟨Au, cu, hvu⟩ := own_shape (hS.out.row u hut)
                    have HVU := Lib.hid hvu
                    obtain ⟨lu, hlu⟩ : ∃ z, (l2 u).length = z := ⟨_, rfl⟩
                    have HLU := Lib.hid hlu
                    have hl9 : lu ≤ 9 := by
                      rw [← hlu]
                      refine Nat.le_trans (nodup_le t _ (hN.out u hut) fun y hy => ?_) hk9
                      obtain ⟨t1, s1, q1, q2, -, -⟩ := hM.out u y hy
                      exact List.mem_range.1 (HNP.out.mem_iff.1 (List.mem_of_getElem? q2))
                    rw [hlu] at hvu
                    rw [hvu] at x2
                    have HMA := Lib.hid (hM.out.add hlt3 hu hx)
                    have HNX := Lib.hid (hM.out.new (HNP.out.nodup_iff.2 List.nodup_range) hu hx)
                    have hNM2 : wr.frozen? ⟨ga, u, none⟩ = false := frz hS.out.blk u
                    obtain ⟨cur, z1⟩ := own_obj hNM rfl
                    have hgl := at_lt z1
                    have hbl := at_lt hS.out.blk
                    have HSG := Lib.hid (fun (X : World) (h1 : X.heap[gn]? = wr.heap[gn]?) (h2 : X.heap[ga]? = wr.heap[ga]?) => (show X.cell? ⟨gn, i, none⟩ = some (.int .i64 (u : Int)) ∧ X.cell? ⟨gn, j, none⟩ = some (.int .i64 (x : Int)) ∧ X.cell? ⟨ga, u, none⟩ = some (.slice Au lu cu) from by
                      refine ⟨?_, ?_, ?_⟩
                      · rw [← x0]; unfold World.cell?; simp only [h1]
                      · rw [← x1]; unfold World.cell?; simp only [h1]
                      · rw [← x2]; unfold World.cell?; simp only [h2]))
                    have HSW := Lib.hid (fun (X : World) (hX : Below wr.heap.size wr X) => HSG.out X (hX.block _ hgl) (hX.block _ hbl))
                    have HAP := Lib.hid (fun e : some gn = (Value.slice Au lu cu).ownBlock => hS.out.apart u gn hut (by rw [hvu]; exact e.symm) rfl)
                    have HAG := Lib.hid (fun e : some ga = (Value.slice Au lu cu).ownBlock => hS.out.not_ga (hS.out.row u hut) (by rw [hvu]; exact e.symm))
                    have HROW := Lib.hid (show wr.ownsRow w.heap.size 3 1 (.slice Au lu cu) lu (elV (l2 u)) by have h := hS.out.row u hut; rw [HLU.out, hvu] at h; exact h)
                    have hwz := hS.out.bel.size
                    clear z1 hu hx hNM x0 x1 x2 hlu hNM2 hvu
                    refine region_zs (fun i => i == 19) (S := fun X => X.cell? ⟨gn, i, none⟩ = some (.int .i64 (u : Int)) ∧ X.cell? ⟨gn, j, none⟩ = some (.int .i64 (x : Int)) ∧ X.cell? ⟨ga, u, none⟩ = some (.slice Au lu cu)) hfm (HSW.out _ (Below.refl _ _).drew) (fun hHeld => ?_)
                    refine takeZs 0 (some 79) (by kernel_rfl) rfl rfl rfl (by kernel_rfl) (by kernel_rfl) (by kernel_rfl) (by kernel_rfl) (fun _ _ _ h => h) (by rfl) (by intro w ⟨g1, g2, g3⟩; go_simp; try with_reducible rfl) hHeld ?_
                    simp only [Act.put, List.setIfInBounds_toArray, List.set_cons_zero, List.set_cons_succ]
                    refine takeZs 1 (some 80) (by kernel_rfl) rfl rfl rfl (by kernel_rfl) (by kernel_rfl) (by kernel_rfl) (by kernel_rfl) (fun _ _ _ h => h) (by rfl) (by intro w ⟨g1, g2, g3⟩; go_simp; try with_reducible rfl) hHeld ?_
                    simp only [Act.put, List.setIfInBounds_toArray, List.set_cons_zero, List.set_cons_succ]
                    refine takeZs 2 (some 81) (by kernel_rfl) rfl rfl rfl (by kernel_rfl) (by kernel_rfl) (by kernel_rfl) (by kernel_rfl) (fun _ _ _ h => h) (by rfl) (by intro w ⟨g1, g2, g3⟩; go_simp; try with_reducible rfl) hHeld ?_
                    simp only [Act.put, List.setIfInBounds_toArray, List.set_cons_zero, List.set_cons_succ]
                    refine takeZs 3 (some 82) (by kernel_rfl) rfl rfl rfl (by kernel_rfl) (by kernel_rfl) (by kernel_rfl) (by kernel_rfl) (fun _ _ _ h => h) (by rfl) (by intro w ⟨g1, g2, g3⟩; go_simp; try with_reducible rfl) hHeld ?_
                    simp only [Act.put, List.setIfInBounds_toArray, List.set_cons_zero, List.set_cons_succ]
                    refine takeZs 4 (some 83) (by kernel_rfl) rfl rfl rfl (by kernel_rfl) (by kernel_rfl) (by kernel_rfl) (by kernel_rfl) (fun _ _ _ h => h) (by rfl) (by intro w ⟨g1, g2, g3⟩; go_simp; try with_reducible rfl) hHeld ?_
                    simp only [Act.put, List.setIfInBounds_toArray, List.set_cons_zero, List.set_cons_succ]
                    refine takeZs 5 (some 84) (by kernel_rfl) rfl rfl rfl (by kernel_rfl) (by kernel_rfl) (by kernel_rfl) (by kernel_rfl) (fun _ _ _ h => h) (by rfl) (by intro w ⟨g1, g2, g3⟩; go_simp; try with_reducible rfl) hHeld ?_
                    simp only [Act.put, List.setIfInBounds_toArray, List.set_cons_zero, List.set_cons_succ]
                    refine takeZs 6 (some 85) (by kernel_rfl) rfl rfl rfl (by kernel_rfl) (by kernel_rfl) (by kernel_rfl) (by kernel_rfl) (fun _ _ _ h => h) (by rfl) (by intro w ⟨g1, g2, g3⟩; go_simp; try with_reducible rfl) hHeld ?_
                    simp only [Act.put, List.setIfInBounds_toArray, List.set_cons_zero, List.set_cons_succ]
                    refine takeZs 7 (some 86) (by kernel_rfl) rfl rfl rfl (by kernel_rfl) (by kernel_rfl) (by kernel_rfl) (by kernel_rfl) (fun _ _ _ h => h) (by rfl) (by intro w ⟨g1, g2, g3⟩; go_simp; try with_reducible rfl) hHeld ?_
                    simp only [Act.put, List.setIfInBounds_toArray, List.set_cons_zero, List.set_cons_succ]
                    refine takeZs 8 (some 87) (by kernel_rfl) rfl rfl rfl (by kernel_rfl) (by kernel_rfl) (by kernel_rfl) (by kernel_rfl) (fun _ _ _ h => h) (by rfl) (by intro w ⟨g1, g2, g3⟩; go_simp; try with_reducible rfl) hHeld ?_
                    simp only [Act.put, List.setIfInBounds_toArray, List.set_cons_zero, List.set_cons_succ]
                    refine takeZs 9 (some 88) (by kernel_rfl) rfl rfl rfl (by kernel_rfl) (by kernel_rfl) (by kernel_rfl) (by kernel_rfl) (fun _ _ _ h => h) (by rfl) (by intro w ⟨g1, g2, g3⟩; go_simp; try with_reducible rfl) hHeld ?_
                    simp only [Act.put, List.setIfInBounds_toArray, List.set_cons_zero, List.set_cons_succ]
                    refine takeZs 10 (some 89) (by kernel_rfl) rfl rfl rfl (by kernel_rfl) (by kernel_rfl) (by kernel_rfl) (by kernel_rfl) (fun _ _ _ h => h) (by rfl) (by intro w ⟨g1, g2, g3⟩; go_simp; try with_reducible rfl) hHeld ?_
                    simp only [Act.put, List.setIfInBounds_toArray, List.set_cons_zero, List.set_cons_succ]
                    refine takeZs 11 (some 90) (by kernel_rfl) rfl rfl rfl (by kernel_rfl) (by kernel_rfl) (by kernel_rfl) (by kernel_rfl) (fun _ _ _ h => h) (by rfl) (by intro w ⟨g1, g2, g3⟩; go_simp; try with_reducible rfl) hHeld ?_
                    simp only [Act.put, List.setIfInBounds_toArray, List.set_cons_zero, List.set_cons_succ]
                    refine takeZs 12 (some 91) (by kernel_rfl) rfl rfl rfl (by kernel_rfl) (by kernel_rfl) (by kernel_rfl) (by kernel_rfl) (fun _ _ _ h => h) (by rfl) (by intro w ⟨g1, g2, g3⟩; go_simp; try with_reducible rfl) hHeld ?_
                    simp only [Act.put, List.setIfInBounds_toArray, List.set_cons_zero, List.set_cons_succ]
                    refine takeZs 13 (some 92) (by kernel_rfl) rfl rfl rfl (by kernel_rfl) (by kernel_rfl) (by kernel_rfl) (by kernel_rfl) (fun _ _ _ h => h) (by rfl) (by intro w ⟨g1, g2, g3⟩; go_simp; try with_reducible rfl) hHeld ?_
                    simp only [Act.put, List.setIfInBounds_toArray, List.set_cons_zero, List.set_cons_succ]
                    refine takeZs 14 (some 93) (by kernel_rfl) rfl rfl rfl (by kernel_rfl) (by kernel_rfl) (by kernel_rfl) (by kernel_rfl) (fun _ _ _ h => h) (by rfl) (by intro w ⟨g1, g2, g3⟩; go_simp; try with_reducible rfl) hHeld ?_
                    simp only [Act.put, List.setIfInBounds_toArray, List.set_cons_zero, List.set_cons_succ]
                    refine takeZs 15 (some 94) (by kernel_rfl) rfl rfl rfl (by kernel_rfl) (by kernel_rfl) (by kernel_rfl) (by kernel_rfl) (fun _ _ _ h => h) (by rfl) (by intro w ⟨g1, g2, g3⟩; go_simp; try with_reducible rfl) hHeld ?_
                    simp only [Act.put, List.setIfInBounds_toArray, List.set_cons_zero, List.set_cons_succ]
                    obtain ⟨X1, hX1⟩ : ∃ X, X = wr.alloc (.cells #[.int .i64 (x : Int)] 3) := ⟨_, rfl⟩
                    have HX1 := Lib.hid hX1
                    have bX1 : Below wr.heap.size wr X1 := by rw [hX1]; exact (Below.refl _ _).alloc (Nat.le_refl _) _
                    have hz1 : X1.heap.size = wr.heap.size + 1 := by rw [hX1, World.size_alloc]
                    have HN1 := Lib.hid (show X1.heap[wr.heap.size]? = some (.cells #[.int .i64 (x : Int)] 3 (0, 0)) by rw [hX1]; exact heap_alloc_new _ _)
                    have HR1 := Lib.hid (own_on HROW.out bX1 (Nat.le_refl _))
                    refine oneZs 16 rfl (by kernel_rfl) (fun K hK => ?_)
                    go_simp
                    rw [← hX1]
                    refine hK.out _ _ (.inr (HSW.out X1.drew bX1.drew)) ?_
                    clear hK K hHeld
                    try simp only [Act.put, List.setIfInBounds_toArray, List.set_cons_zero, List.set_cons_succ]
                    refine oneZs 17 rfl (by kernel_rfl) (fun K hK => ?_)
                    refine step_append_lies _ rfl (.tmp 90) (.tmp 95) 33 rfl w.heap.size 3 i1 (.int .i64 0) 1 8 Try.underlying33 hi1 HZ1.out hz2 hz3 rfl (by decide) (.slice Au lu cu) lu (elV (l2 u)) (by simp [Act.eval, Act.put]) (show World.ownsRow X1.drew _ _ _ _ _ _ from HR1.out) ⟨wr.heap.size, 0, none⟩ 1 1 [.int .i64 (x : Int)] (by simp [Act.eval, Act.put]) rfl (show ∀ j u, _ → World.cell? X1.drew _ = _ from World.news_of_block (w := X1.drew) HN1.out) (by simp [Value.oneCell']) (by decide) (by unfold maxLen; omega) (by omega) (show w.heap.size ≤ X1.drew.heap.size from Nat.le_trans hwz bX1.size) (wr.heap.size + 1) (show X1.drew.heap.size = _ from hz1) ?_
                    intro g4 cap4 Y4 hown hgrow0 hat hlt5
                    have hgrow : X1.grownBy Y4 (Value.slice Au lu cu).ownBlock := ⟨hgrow0.os, hgrow0.tape, hgrow0.output, hgrow0.size, hgrow0.block⟩
                    clear hgrow0
                    have hadd := MdS.add hS.out hut (x := x) (o := .cells #[.int .i64 (x : Int)] 3) (Z := Y4) (g := g4) (cap := cap4) (by rw [HVU.out, HLU.out, ← HX1.out]; exact hgrow) (by rw [HVU.out, HLU.out]; exact hat) (by rw [List.length_append, HLU.out, elV_snoc]; exact hown)
                    rw [List.length_append, HLU.out] at hadd
                    obtain ⟨hb4, hs4⟩ := hadd
                    have HS4 := Lib.hid hs4
                    have HND4 := Lib.hid (show ∀ q, q < t → (putL l2 u (l2 u ++ [x]) q).Nodup from fun q hq => by
                      unfold putL
                      by_cases e : q = u
                      · rw [if_pos e]
                        refine List.nodup_append.2 ⟨hN.out u hut, by simp, fun p hp r hr e2 => ?_⟩
                        simp at hr
                        subst e2 hr
                        exact HNX.out hp
                      · rw [if_neg e]; exact hN.out q hq)
                    have y5 : Y4.cell? ⟨ga, u, none⟩ = some (v2 u) := cell_of hb4 (by rw [List.getElem?_toArray]; exact slV_at _ hut)
                    have y6 : Y4.frozen? ⟨ga, u, none⟩ = false := frz hb4 u
                    rw [HVU.out] at y5
                    have hHeld := HSG.out Y4 ((hgrow.block gn (by exact Nat.lt_of_lt_of_le hgl bX1.size) HAP.out).trans (bX1.block _ hgl)) ((hgrow.block ga (by exact Nat.lt_of_lt_of_le hbl bX1.size) HAG.out).trans (bX1.block _ hbl))
                    refine hK.out _ _ (.inr hHeld) ?_
                    clear hK K hown hgrow hat hs4 hb4
                    try simp only [Act.put, List.setIfInBounds_toArray, List.set_cons_zero, List.set_cons_succ]
                    refine takeZs 18 (some 97) (by kernel_rfl) rfl rfl rfl (by kernel_rfl) (by kernel_rfl) (by kernel_rfl) (by kernel_rfl) (fun _ _ _ h => h) (by rfl) (by intro w ⟨g1, g2, g3⟩; go_simp; try with_reducible rfl) hHeld ?_
                    simp only [Act.put, List.setIfInBounds_toArray, List.set_cons_zero, List.set_cons_succ]
                    clear hHeld
                    refine oneZs 19 rfl (by kernel_rfl) (fun K hK => ?_)
                    go_simp
                    refine hK.out _ _ (.inl rfl) ?_
                    clear hK K y5 y6
                    refine doneZs (by kernel_rfl) ?_ _
                    go_wp2_with (fail)
                    go_roundw
                    case rel => exact ⟨j + 1, b + 1, _, _, by omega, by go_num, by go_num, by omega, HS4, HMA, HND4⟩
                    case measure => simp only [intOf]; omega
                    --R24b
                · obtain rfl : j = i := by omega
                  go_wp2_with (fail)
                  go_roundw
                  case rel => exact ⟨j + 1, b, v2, l2, by omega, by go_num, rfl, by omega, hS, Lib.hid hM.out.row, hN⟩
                  case measure => simp only [intOf]; omega
            · obtain rfl : i = t := by omega
              go_wp2_with (fail)
              have hnd9 : ∀ q, q < i → (ls q).length ≤ 9 := fun q hq => by
                refine Nat.le_trans (nodup_le i _ (hN.out q hq) fun y hy => ?_) hk9
                obtain ⟨t1, s1, q1, q2, -, -⟩ := hM.out q y hy
                exact List.mem_range.1 (HNP.out.mem_iff.1 (List.mem_of_getElem? q2))
              have HN9 := Lib.hid hnd9
              clear hnd9
              go_loopw [104] (fun z X => ∃ p : Nat, ∃ l2, p ≤ i ∧ z = .int .i64 (p : Int) ∧ Hid (MdS w X ga i (.slice As i cs) nm vs l2) ∧ Hid (MdP nm i 0 l2) ∧ Hid (∀ q, q < i → (l2 q).Nodup) ∧ Hid (∀ q, q < i → (l2 q).length ≤ 9) ∧ Hid (∀ q, q < p → SrtTo (l2 q) (l2 q).length)) (fun z _ => i - (intOf z).toNat)
              case atStart => exact ⟨0, ls, Nat.zero_le _, rfl, hS, hM, hN, HN9, Lib.hid (fun q hq => by omega)⟩
              case round =>
                clear hS hM hN HN9
                obtain ⟨p, l2, hp, rfl, hS, hM, hN, H9, hT⟩ := hrel
                have hpp : ((p : Nat) : Int).toNat = p := by omega
                by_cases hlt3 : p < i
                · have hpl : (p : Int) < (i : Int) := by omega
                  have x2 : wr.cell? ⟨ga, p, none⟩ = some (vs p) := cell_of hS.out.blk (by rw [List.getElem?_toArray]; exact slV_at _ hlt3)
                  have hrow := hS.out.row p hlt3
                  obtain ⟨-, ⟨e0, e1⟩ | ⟨g, cu, cur, e0, -⟩⟩ := id hrow
                  · rw [e0] at x2
                    have hnil : l2 p = [] := List.length_eq_zero_iff.1 e1
                    have HT2 := Lib.hid (show ∀ q, q < p + 1 → SrtTo (l2 q) (l2 q).length from fun q hq => by
                      by_cases e : q = p
                      · subst e; rw [hnil]; intro a1 b1 x1 y1 _ _ h1; simp at h1
                      · exact hT.out q (by omega))
                    clear hrow e0 e1 hnil
                    go_wp2_with (fail)
                    go_at_call 69
                    refine (c_SortNil wr).mono ?_
                    rintro e w5 ⟨rfl, rfl⟩
                    go_wp2_with (fail)
                    go_roundw
                    case rel => exact ⟨p + 1, l2, by omega, by go_num, hS, hM, hN, H9, HT2⟩
                    case measure => simp only [intOf]; omega
                  · rw [e0] at x2 hrow
                    have HE0 := Lib.hid e0
                    have hl9 := H9.out p hlt3
                    obtain ⟨lu, hlu⟩ : ∃ z, (l2 p).length = z := ⟨_, rfl⟩
                    have HC := Lib.hid (c_Sort w.heap.size g cu (l2 p) (by omega) wr hrow)
                    have HLU := Lib.hid hlu
                    rw [hlu] at x2 HC hl9
                    clear hrow e0 hlu
                    go_wp2_with (fail)
                    go_at_call 69
                    refine HC.out.mono ?_
                    rintro e w5 ⟨rfl, m, hml, hmp, hms, hmo, hmb⟩
                    have HS5 := Lib.hid (hS.out.sort hlt3 HE0.out hml hmo hmb)
                    have HM5 := Lib.hid (hM.out.perm hmp)
                    have HN5 := Lib.hid (show ∀ q, q < i → (putL l2 p m q).Nodup from fun q hq => by
                      unfold putL
                      by_cases e : q = p
                      · rw [if_pos e]; exact hmp.nodup_iff.2 (hN.out p hlt3)
                      · rw [if_neg e]; exact hN.out q hq)
                    have H95 := Lib.hid (show ∀ q, q < i → (putL l2 p m q).length ≤ 9 from fun q hq => by
                      unfold putL
                      by_cases e : q = p
                      · rw [if_pos e, hml]; exact H9.out p hlt3
                      · rw [if_neg e]; exact H9.out q hq)
                    have HT5 := Lib.hid (show ∀ q, q < p + 1 → SrtTo (putL l2 p m q) (putL l2 p m q).length from fun q hq => by
                      unfold putL
                      by_cases e : q = p
                      · rw [if_pos e, hml]; exact hms
                      · rw [if_neg e]; exact hT.out q (by omega))
                    clear hml hmp hms hmo hmb
                    go_wp2_with (fail)
                    go_roundw
                    case rel => exact ⟨p + 1, _, by omega, by go_num, HS5, HM5, HN5, H95, HT5⟩
                    case measure => simp only [intOf]; omega
                · obtain rfl : p = i := by omega
                  go_wp2_with (fail)
                  go_ret
                  refine ⟨_, ysM p vs l2, rfl, hS.out.out hk9, by rw [ysM_len]; exact hk9, ?_, hS.out.bel⟩
                  exact made_rd (nm := nm) (ls := l2) (i := p) (by rw [ysM_len]; omega) (by rw [ysM_len]; exact HNP.out) (fun q x h => ysM_at h) hM.out (fun q hq => hT.out q (by rw [ysM_len] at hq; exact hq)) (fun q hq => hN.out q (by rw [ysM_len] at hq; exact hq))
end Go.Proofs.Ytjheaeeeeggncaa

namespace Go.Proofs.Ytjheaeeeeggncaa
open Go.RowKit
attribute [local go_sem] Oper.semAt_some
set_option maxRecDepth 100000
set_option linter.unusedVariables false
set_option linter.unusedSimpArgs false

def boV (x : Bool) (_ : Nat) : Value := .bool x
theorem boV_at {w : World} {b o c : Nat} {l : List Bool} (h : Rv 1 boV w (some ⟨b, o, none⟩) c l) {j : Nat} {x : Bool} (hj : l[j]? = some x) : w.cell? ⟨b, o + j, none⟩ = some (.bool x) := by
  obtain ⟨b', o', e, -, h0⟩ := h.at_ hj
  injection e with e
  injection e with e1 e2
  subst e1 e2
  have := h0 0 (by omega)
  rwa [Nat.mul_one, Nat.add_zero] at this
set_option maxHeartbeats 4000000 in
theorem c_IndexB (A : Option Addr) (c : Nat) (l : List Bool) (x : Bool) (w : World) (h : Rv 1 boV w A c l) :
    Calls Try.prog 71 #[.slice A l.length c, .bool x] w fun e w' => (∃ r : Int, e = .returned (.int .i64 r) ∧ (0 ≤ r ↔ x ∈ l) ∧ -1 ≤ r ∧ r < 9223372036854775807) ∧ w' = w := by
  have H := Lib.hid h
  have k1 := h.1; have k2 := h.2.1
  unfold maxLen at k2
  clear h
  go_enter Try.func71, Try.ntmps71
  go_wp2_with (fail)
  go_loopw [8] (fun i wr => ∃ t : Nat, t ≤ l.length ∧ i = .int .i64 (t : Int) ∧ w = wr ∧ Hid (x ∉ l.take t)) (fun i _ => l.length - (intOf i).toNat)
  case atStart => exact ⟨0, Nat.zero_le _, rfl, rfl, Lib.hid (by simp)⟩
  case round =>
    obtain ⟨t, ht, rfl, rfl, hno⟩ := hrel
    have hti : ((t : Nat) : Int).toNat = t := by omega
    by_cases hlt : t < l.length
    · have htl : (t : Int) < ((l.length : Nat) : Int) := by omega
      obtain ⟨z, hz⟩ : ∃ z, l[t]? = some z := ⟨_, List.getElem?_eq_getElem hlt⟩
      obtain ⟨pb, o, rfl, -, -⟩ := H.out.at_ hz
      have y0 := boV_at H.out hz
      have HZ := Lib.hid hz
      rcases hd : (x == z) with _ | _
      · have HNN := Lib.hid (show x ∉ l.take (t + 1) by
          rw [take_snoc HZ.out, List.mem_append, List.mem_singleton]
          rintro (h | h)
          · exact hno.out h
          · rw [beq_eq_false_iff_ne] at hd; exact hd h)
        clear hz
        go_wp2_with (fail)
        go_roundw
        case rel => exact ⟨t + 1, by omega, by go_num, trivial, HNN⟩
        case measure => simp only [intOf]; omega
      · have HM := Lib.hid (show x ∈ l by rw [beq_iff_eq] at hd; rw [hd]; exact List.mem_of_getElem? HZ.out)
        clear hz
        go_wp2_with (fail)
        go_ret
        exact ⟨⟨_, rfl, ⟨fun _ => HM.out, fun _ => by omega⟩, by omega, by omega⟩, rfl⟩
    · obtain rfl : t = l.length := by omega
      have HM := Lib.hid (show x ∉ l by have := hno.out; rwa [List.take_length] at this)
      go_wp2_with (fail)
      go_ret
      exact ⟨⟨-1, rfl, ⟨fun h => absurd h (by decide), fun h => absurd h HM.out⟩, by decide, by decide⟩, rfl⟩
set_option maxHeartbeats 4000000 in
theorem c_ContainsB (A : Option Addr) (c : Nat) (l : List Bool) (x : Bool) (r : Bool) (hr : r = true ↔ x ∈ l) (w : World) (h : Rv 1 boV w A c l) :
    Calls Try.prog 46 #[.slice A l.length c, .bool x] w fun e w' => e = .returned (.bool r) ∧ w' = w := by
  have HR := Lib.hid hr
  have HC := Lib.hid (c_IndexB A c l x w h)
  clear hr h
  go_enter Try.func46, Try.ntmps46
  go_wp2_with (fail)
  go_at_call 71
  refine HC.out.mono ?_
  rintro e w1 ⟨⟨q, rfl, hq, h1, h2⟩, hw1⟩
  rw [hw1]
  clear hw1 w1
  have HD := Lib.hid (show decide (0 ≤ q) = r by rw [Bool.eq_iff_iff, decide_eq_true_iff, hq]; exact HR.out.symm)
  obtain ⟨d, hd⟩ : ∃ d, decide (0 ≤ q) = d := ⟨_, rfl⟩
  have HDR := Lib.hid (show d = r by rw [← hd]; exact HD.out)
  clear hq
  cases d
  · go_wp2_with (fail)
    go_ret
    exact ⟨by rw [← HDR.out]; rfl, rfl⟩
  · go_wp2_with (fail)
    go_ret
    exact ⟨by rw [← HDR.out]; rfl, rfl⟩
end Go.Proofs.Ytjheaeeeeggncaa

namespace Go.Proofs.Ytjheaeeeeggncaa
open Go.ChangeShapes Go.WideShapes Go.Deep Go.RowKit
set_option maxRecDepth 100000
set_option linter.unusedSimpArgs false
set_option linter.unusedVariables false

theorem cell_lt3 {w : World} {b o : Nat} {v : Value} (h : w.cell? ⟨b, o, none⟩ = some v) : b < w.heap.size := by
  unfold World.cell? at h
  cases hb : w.heap[b]? with
  | none => simp [hb] at h
  | some ob => exact (Array.getElem?_eq_some_iff.1 hb).1
theorem plain_add (b o j : Nat) : (⟨b, o, none⟩ : Addr).add j = ⟨b, o + j, none⟩ := by unfold Addr.add; split <;> simp_all
theorem add_spot {w : World} {a : Addr} {v : Value} (h : w.cell? (a.add 0) = some v) : ∃ b o, a = ⟨b, o, none⟩ ∧ b < w.heap.size := by
  obtain ⟨b, off, spot⟩ := a
  have hsp : spot = none := by simpa [Addr.add] using World.cell?_spot h
  subst hsp
  rw [plain_add] at h
  exact ⟨b, off, rfl, cell_lt3 h⟩
section
variable {H : Type} {enc : TypeId × Value → H} {W : World} {base : Nat} {spare : Nat → Bool} {held : Bool} {r : Go.Reach} {b0 : Nat} {v : Value} {d : DataW H} {p : List MemPlace}
end
end Go.Proofs.Ytjheaeeeeggncaa

namespace Go.Proofs.Ytjheaeeeeggncaa
open Go.ChangeShapes Go.WideShapes Go.Deep Go.RowKit
set_option maxRecDepth 100000
set_option linter.unusedSimpArgs false
set_option linter.unusedVariables false

theorem u8_wf {n : Int} (h : (Lit.int .u8 n).wf = true) : ∃ m : Nat, n = (m : Int) ∧ m < 256 := by
  have h2 : (decide ((0 : Int) ≤ n) && decide (n ≤ 255)) = true := h
  simp only [Bool.and_eq_true, decide_eq_true_eq] at h2
  exact ⟨n.toNat, by omega, by omega⟩
theorem u16_wf {n : Int} (h : (Lit.int .u16 n).wf = true) : ∃ m : Nat, n = (m : Int) ∧ m < 65536 := by
  have h2 : (decide ((0 : Int) ≤ n) && decide (n ≤ 65535)) = true := h
  simp only [Bool.and_eq_true, decide_eq_true_eq] at h2
  exact ⟨n.toNat, by omega, by omega⟩
theorem u64_wf {n : Int} (h : (Lit.int .u64 n).wf = true) : 0 ≤ n := by
  have h2 : (decide ((0 : Int) ≤ n) && decide (n ≤ 18446744073709551615)) = true := h
  simp only [Bool.and_eq_true, decide_eq_true_eq] at h2
  exact h2.1
theorem cells_u8 : Try.prog.cellsOf 5 = 1 := by kernel_rfl
section
variable {H : Type} {enc : TypeId × Value → H} {W : World} {base : Nat} {spare : Nat → Bool} {held : Bool} {r : Go.Reach} {b0 : Nat} {v : Value} {d : DataW H} {p : List MemPlace}
theorem open_u8 (h : DataW.Trod enc Try.prog W base spare held 5 v d p) (hv : Value.okWide Try.prog W r b0 5 v) : ∃ n : Nat, v = .int .u8 (n : Int) ∧ n < 256 := by
  obtain ⟨m, rfl⟩ := okWide_int Try.underlying5 hv
  obtain ⟨fuel, hf⟩ := h
  obtain ⟨n, g, -, hw⟩ := DataW.trod_int Try.underlying5 (by simpa [Value.cells] using hf)
  simp at g
  subst g
  obtain ⟨a, rfl, ha⟩ := u8_wf hw
  exact ⟨a, rfl, ha⟩
theorem open_u16 (h : DataW.Trod enc Try.prog W base spare held 55 v d p) (hv : Value.okWide Try.prog W r b0 55 v) : ∃ n : Nat, v = .int .u16 (n : Int) ∧ n < 65536 := by
  obtain ⟨m, rfl⟩ := okWide_int Try.underlying55 hv
  obtain ⟨fuel, hf⟩ := h
  obtain ⟨n, g, -, hw⟩ := DataW.trod_int Try.underlying55 (by simpa [Value.cells] using hf)
  simp at g
  subst g
  obtain ⟨a, rfl, ha⟩ := u16_wf hw
  exact ⟨a, rfl, ha⟩
theorem open_u64 (h : DataW.Trod enc Try.prog W base spare held 45 v d p) (hv : Value.okWide Try.prog W r b0 45 v) : ∃ n : Int, v = .int .u64 n ∧ 0 ≤ n := by
  obtain ⟨m, rfl⟩ := okWide_int Try.underlying45 hv
  obtain ⟨fuel, hf⟩ := h
  obtain ⟨n, g, -, hw⟩ := DataW.trod_int Try.underlying45 (by simpa [Value.cells] using hf)
  simp at g
  subst g
  exact ⟨_, rfl, u64_wf hw⟩
theorem open_one8 {fuel : Nat} {x : DataW H × List MemPlace} {u : Value} (hf : DataW.trod enc Try.prog W base spare held fuel 5 [u] = some x) : ∃ n : Nat, u = .int .u8 (n : Int) ∧ n < 256 := by
  obtain ⟨n, g, -, hw⟩ := DataW.trod_int Try.underlying5 hf
  simp at g
  subst g
  obtain ⟨a, rfl, ha⟩ := u8_wf hw
  exact ⟨a, rfl, ha⟩
theorem open_s8 {fuel : Nat} {x : DataW H × List MemPlace} (hf : DataW.trod enc Try.prog W base spare held fuel 44 [v] = some x) : ∃ (A : Option Addr) (c : Nat) (l : List Nat), v = .slice A l.length c ∧ Rv 1 u8V W A c l ∧ ∀ x ∈ l, x < 256 := by
  rcases open_slice Try.underlying44 hf with ⟨h0, _⟩ | ⟨a, len, cap, m, n, D, Pl, hcs, hb, hl, hm, hmm, hx, hi⟩
  · simp at h0
    subst h0
    exact ⟨none, 0, [], rfl, Rv.nil _, fun x hx => by cases hx⟩
  · simp at hcs
    subst hcs
    have hel : ∀ i, i < len → ∃ y : Nat, W.cell? (a.add (i * 1)) = some (.int .u8 (y : Int)) ∧ y < 256 := by
      intro i him
      obtain ⟨cs', hc, ht'⟩ := hi i (by rw [hmm]; split <;> omega)
      rw [cells_u8] at hc
      obtain ⟨_, hcl, hat⟩ := World.cells?_some hc
      match cs', hcl with
      | [c0], _ =>
        obtain ⟨p0, rfl, hp0⟩ := open_one8 (u := c0) ht'
        have e0 := hat 0 (by omega)
        rw [Go.Deep.add_add] at e0
        exact ⟨p0, by simpa using e0, hp0⟩
    obtain ⟨G, hG⟩ := choose_lt hel
    refine ⟨some a, cap, (List.range len).map G, by simp, ⟨by simpa using hl, hm, (by intro h; cases h), fun h0 => ?_⟩, fun x hx => ?_⟩
    · have h0' : 0 < len := by simpa using h0
      obtain ⟨b, off, rfl, hlt⟩ := add_spot (by simpa using (hG 0 h0').1)
      refine ⟨b, off, rfl, hlt, fun j q hj i hi2 => ?_⟩
      have hjl : j < len := by have := (List.getElem?_eq_some_iff.1 hj).1; simpa using this
      rw [List.getElem?_map, List.getElem?_range hjl] at hj
      injection hj with hj
      subst hj
      obtain rfl : i = 0 := by omega
      have e := (hG j hjl).1
      rw [plain_add] at e
      exact e
    · obtain ⟨j, hj, rfl⟩ := List.mem_map.1 hx
      exact (hG j (List.mem_range.1 hj)).2
theorem open_u8s (h : DataW.Trod enc Try.prog W base spare held 44 v d p) (hv : Value.okWide Try.prog W r b0 44 v) : ∃ (A : Option Addr) (c : Nat) (l : List Nat), v = .slice A l.length c ∧ Rv 1 u8V W A c l ∧ ∀ x ∈ l, x < 256 := by
  obtain ⟨a0, len0, cap0, rfl⟩ := okWide_slice Try.underlying44 hv
  obtain ⟨fuel, hf⟩ := h
  exact open_s8 (by simpa [Value.cells] using hf)
end
end Go.Proofs.Ytjheaeeeeggncaa
