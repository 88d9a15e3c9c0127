/-
  DERIVED. Several texts in one.
-/
import Derived.Test.YtplnnpkohdmiaaaGreatDoorYWAm
set_option linter.unusedVariables false
set_option linter.unusedSimpArgs false

/- DERIVED. The landed printer's item: spread. -/
namespace Go.Proofs.YtplnnpkohdmiaaaGreatDoor
open Go.RowKit
set_option maxRecDepth 100000

theorem strs_two {wb b : Nat} {w : World} {s t : ByteArray} (hb : w.heap[b]? = some (.cells #[.string s, .string t] 9 (0, 0))) (hn : b ≠ wb) : ∀ W, PK wb w W → StrSl W (fun _ => True) (.slice (some ⟨b, 0, none⟩) 2 2) [s, t] := fun W h => by
  have hr := h.row hb (by decide) hn
  exact ⟨_, 2, rfl, Nat.le_refl _, by decide, fun _ => ⟨b, 0, rfl, trivial, fun j u hj => by
    rcases j with _ | _ | j <;> simp at hj
    · subst hj; simp [World.cell?, hr]
    · subst hj; simp [World.cell?, hr]⟩⟩

set_option maxHeartbeats 8000000 in
theorem c_item9 (c : Cl) (hk : c.kind = 9) (ha : I64 c.a) (vn vi : Value) (wb : Nat) (v : Value) (l : List Tok) (hl : l.length ≤ 49000) (w : World) (ht : TabW wb w) (h : WSt w wb v l) (hvn : ∃ A m p, vn = .slice A m p) (hvi : ∃ A m p, vi = .slice A m p) :
    Calls Tryz.prog 34 #[.pointer (some ⟨wb, 0, none⟩), .agg #[.int .u8 c.kind, vn, .int .u8 c.dom, .int .i64 c.idx, .int .i64 c.a, .int .i64 c.b, vi, .int .i64 c.off]] w fun e w' => e = .returned (.tuple #[]) ∧ (∃ v', WSt w' wb v' (l ++ [nameT ⟨#[115, 112, 114, 101, 97, 100]⟩, numT c.a, nameT ⟨#[112, 101, 114]⟩, nameT (scB c.dom), signT ⟨#[59]⟩])) ∧ PK wb w w' := by
  obtain ⟨A1, m1, p1, rfl⟩ := hvn
  obtain ⟨A2, m2, p2, rfl⟩ := hvi
  rw [hk]
  have hwb : wb < w.heap.size := (Array.getElem?_eq_some_iff.1 h.1).1
  obtain ⟨w1, hw1⟩ : ∃ w1, w1 = w.alloc (.cells #[.int .u8 9, .slice A1 m1 p1, .int .u8 c.dom, .int .i64 c.idx, .int .i64 c.a, .int .i64 c.b, .slice A2 m2 p2, .int .i64 c.off] 36) := ⟨_, rfl⟩
  have b1 : Below w.heap.size w w1 := by rw [hw1]; exact (Below.refl _ _).alloc (Nat.le_refl _) _
  have hr : w1.heap[w.heap.size]? = some (.cells #[.int .u8 9, .slice A1 m1 p1, .int .u8 c.dom, .int .i64 c.idx, .int .i64 c.a, .int .i64 c.b, .slice A2 m2 p2, .int .i64 c.off] 36 (0, 0)) := by rw [hw1]; exact row_new _ _ _ rfl
  have hsz : w1.heap.size = w.heap.size + 1 := by rw [hw1]; simp
  have hT1 : TabW wb w1 := ht.on (b1.mono (by omega))
  have hA1 : ∀ X B, Below w1.heap.size w1 X → B ≠ wb → X.heap[B]? = some (.cells #[.string ⟨#[115, 112, 114, 101, 97, 100]⟩] 9 (0, 0)) → Calls Tryz.prog 32 #[.pointer (some ⟨wb, 0, none⟩), .slice (some ⟨B, 0, none⟩) 1 1] X fun e w' => e = .returned (.pointer (some ⟨wb, 0, none⟩)) ∧ (∃ v', WSt w' wb v' (l ++ [nameT ⟨#[115, 112, 114, 101, 97, 100]⟩])) ∧ PK wb w1 w' :=
    fun X B hb hB hrow => (c_names [⟨#[115, 112, 114, 101, 97, 100]⟩] _ (fun _ => True) wb v l (by simp; omega) X ((h.below b1).below hb) (strs_one hrow hB)).mono fun e w' ⟨h1, h2, h3⟩ => ⟨h1, h2, (PK.of_below hb (Nat.le_refl _)).trans h3⟩
  have hA2 : ∀ X v', WSt X wb v' (l ++ [nameT ⟨#[115, 112, 114, 101, 97, 100]⟩]) → PK wb w1 X → Calls Tryz.prog 36 #[.pointer (some ⟨wb, 0, none⟩), .int .i64 c.a] X fun e w' => e = .returned (.pointer (some ⟨wb, 0, none⟩)) ∧ (∃ v', WSt w' wb v' ((l ++ [nameT ⟨#[115, 112, 114, 101, 97, 100]⟩]) ++ [numT c.a])) ∧ PK wb w1 w' :=
    fun X v' hX hP => (c_wnumber c.a ha.1 ha.2 wb v' _ (by simp; omega) X ((hT1.pk hP (by omega)).tab (by have := hP.size; omega)) hX).mono fun e w' ⟨h1, h2, h3⟩ => ⟨h1, h2, hP.trans h3⟩
  have hA3 : ∀ Y X v' B, WSt Y wb v' ((l ++ [nameT ⟨#[115, 112, 114, 101, 97, 100]⟩]) ++ [numT c.a]) → PK wb w1 Y → Below Y.heap.size Y X → B ≠ wb → X.heap[B]? = some (.cells #[.string ⟨#[112, 101, 114]⟩, .string (scB c.dom)] 9 (0, 0)) → Calls Tryz.prog 32 #[.pointer (some ⟨wb, 0, none⟩), .slice (some ⟨B, 0, none⟩) 2 2] X fun e w' => e = .returned (.pointer (some ⟨wb, 0, none⟩)) ∧ (∃ v', WSt w' wb v' (((l ++ [nameT ⟨#[115, 112, 114, 101, 97, 100]⟩]) ++ [numT c.a]) ++ [nameT ⟨#[112, 101, 114]⟩, nameT (scB c.dom)])) ∧ PK wb w1 w' :=
    fun Y X v' B hY hP hb hB hrow => (c_names [⟨#[112, 101, 114]⟩, scB c.dom] _ (fun _ => True) wb v' _ (by simp; omega) X (hY.below hb) (strs_two hrow hB)).mono fun e w' ⟨h1, h2, h3⟩ => ⟨h1, h2, (hP.trans (PK.of_below hb (Nat.le_refl _))).trans h3⟩
  have HA3 := Lib.hid hA3
  have HA2 := Lib.hid hA2
  have HA1 := Lib.hid hA1
  have Hr := Lib.hid hr
  have HB1 := Lib.hid b1
  obtain ⟨x0, x1, x2, x3, x4, x5, x6, x7⟩ := eight_cells hr
  have hfm : Tryz.prog.follows Departure.mixedOrders = true := by kernel_rfl
  clear hA1 hA2 hA3 hr ht h hT1
  go_enter Tryz.func34, Tryz.ntmps34
  go_wp2_with (fail)
  rw [← hw1]
  clear hw1
  go_region_law (first
    | (go_simp; go_at_call 32; refine (HA3.out _ _ _ _ HW3.out HP3.out (by repeat (first | with_reducible exact Below.refl _ _ | with_reducible refine Below.alloc ?_ (by (try simp) <;> omega) _ | with_reducible refine Below.drew ?_)) (by omega) (by first | exact row_new _ _ _ (by first | (simp; done) | omega) | exact row_drew (row_new _ _ _ (by first | (simp; done) | omega)))).mono ?_; rintro e w5 ⟨rfl, ⟨v5, hW5⟩, hP5⟩; have HW5 := Lib.hid hW5; have HP5 := Lib.hid hP5; clear hW5 hP5)
    | (go_simp; go_at_call 32; refine (HA1.out _ _ (by repeat (first | with_reducible exact Below.refl _ _ | with_reducible refine Below.alloc ?_ (by (try simp) <;> omega) _ | with_reducible refine Below.drew ?_)) (by omega) (by first | exact row_new _ _ _ (by first | (simp; done) | omega) | exact row_drew (row_new _ _ _ (by first | (simp; done) | omega)))).mono ?_; rintro e w2 ⟨rfl, ⟨v2, hW2⟩, hP2⟩; have hr2 := hP2.row Hr.out (by decide) (by omega); obtain ⟨y0, y1, y2, y3, y4, y5, y6, y7⟩ := eight_cells hr2; have HW2 := Lib.hid hW2; have HP2 := Lib.hid hP2; clear hW2 hP2 hr2)
    | (go_simp; go_at_call 36; refine (HA2.out _ _ HW2.out HP2.out).mono ?_; rintro e w3 ⟨rfl, ⟨v3, hW3⟩, hP3⟩; have hr3 := hP3.row Hr.out (by decide) (by omega); have z3 := hP3.size; obtain ⟨y0, y1, y2, y3, y4, y5, y6, y7⟩ := eight_cells hr3; have HW3 := Lib.hid hW3; have HP3 := Lib.hid hP3; clear hW3 hP3 hr3)
    | (go_simp; go_at_call 35; refine (c_scopeOf _ _).mono ?_; rintro e w4 ⟨rfl, rfl⟩))
  all_goals go_wp2_with (go_at_call 33; refine (c_sign ⟨#[59]⟩ wb _ _ (by simp; omega) _ HW5.out).mono ?_; rintro e w6 ⟨rfl, ⟨v6, hW6⟩, hP6⟩; have HW6 := Lib.hid hW6; have HP6 := Lib.hid hP6; clear hW6 hP6)
  all_goals go_end0
  all_goals exact ⟨rfl, ⟨v6, by simpa [List.append_assoc] using HW6.out⟩, (PK.of_below HB1.out (Nat.le_refl _)).trans (HP5.out.trans HP6.out)⟩
end Go.Proofs.YtplnnpkohdmiaaaGreatDoor

/- DERIVED. The landed printer's item: apart. -/
namespace Go.Proofs.YtplnnpkohdmiaaaGreatDoor
open Go.RowKit
set_option maxRecDepth 100000

def sepToks (ns : List ByteArray) : List Tok := ns.flatMap fun n => [signT ⟨#[44]⟩, nameT n]
theorem sepToks_cons (n : ByteArray) (ns : List ByteArray) : sepToks (n :: ns) = signT ⟨#[44]⟩ :: nameT n :: sepToks ns := rfl
theorem sepToks_len : ∀ ns : List ByteArray, (sepToks ns).length = 2 * ns.length
  | [] => rfl
  | n :: ns => by rw [sepToks_cons, List.length_cons, List.length_cons, List.length_cons, sepToks_len ns]; omega
theorem sepToks_take (ns : List ByteArray) (k : Nat) (h : k < ns.length) : sepToks (ns.take (k + 1)) = sepToks (ns.take k) ++ [signT ⟨#[44]⟩, nameT ns[k]] := by
  rw [List.take_add_one, List.getElem?_eq_getElem h]
  simp only [sepToks, Option.toList_some, List.flatMap_append, List.flatMap_cons, List.flatMap_nil, List.append_nil]
theorem StrSl.pk {w W : World} {ok : Nat → Prop} {v : Value} {l : List ByteArray} {wb : Nat} (h : StrSl w ok v l) (hok : ∀ b, ok b → b < wb) (hwb : wb ≤ w.heap.size) (hp : PK wb w W) : StrSl W ok v l :=
  h.stand fun b hb => ⟨hb, hp.low b (hok b hb) (by have := hok b hb; omega)⟩
theorem WSt.lt {w : World} {wb : Nat} {v : Value} {l : List Tok} (h : WSt w wb v l) : wb < w.heap.size := (Array.getElem?_eq_some_iff.1 h.1).1

/-- Between two rounds of apart's loop. -/
def WaRel (ns : List ByteArray) (l : List Tok) (wb : Nat) (w1 : World) (i : Value) (wr : World) : Prop :=
  ∃ (k : Nat) (v : Value), k ≤ ns.length ∧ i = .int .i64 k ∧ WSt wr wb v (l ++ sepToks (ns.take k)) ∧ PK wb w1 wr

set_option maxHeartbeats 8000000 in
theorem c_item10 (c : Cl) (hk : c.kind = 10) (vn vi : Value) (wb : Nat) (v : Value) (l : List Tok) (w : World) (h : WSt w wb v l) (ok : Nat → Prop) (hok : ∀ b, ok b → b < wb) (n0 : ByteArray) (ns : List ByteArray) (hl : l.length + 2 * ns.length ≤ 49000) (hns : c.names = n0 :: ns) (hvn : StrSl w ok vn c.names) (hvi : ∃ A m p, vi = .slice A m p) :
    Calls Tryz.prog 34 #[.pointer (some ⟨wb, 0, none⟩), .agg #[.int .u8 c.kind, vn, .int .u8 c.dom, .int .i64 c.idx, .int .i64 c.a, .int .i64 c.b, vi, .int .i64 c.off]] w fun e w' => e = .returned (.tuple #[]) ∧ (∃ v', WSt w' wb v' (l ++ (nameT ⟨#[97, 112, 97, 114, 116]⟩ :: nameT n0 :: (sepToks ns ++ [signT ⟨#[59]⟩])))) ∧ PK wb w w' := by
  rw [hns] at hvn
  have hwb := h.lt
  have hS := fun W (hp : PK wb w W) => hvn.pk hok (by omega) hp
  obtain ⟨A0, p1, rfl, g1, g2, g3⟩ := hvn
  obtain ⟨bn, on, rfl, hbn, g4⟩ := g3 (by simp)
  have q' := g4 0 n0 rfl
  have hblt := hok bn hbn
  have hlen : (n0 :: ns).length = ns.length + 1 := rfl
  rw [hlen] at g1
  have hm0 : 0 < ns.length + 1 := by omega
  unfold maxLen at g2
  have hQ : ∀ W, PK wb w W → ∀ k s, ns[k]? = some s → W.cell? ⟨bn, on + 1 + k, none⟩ = some (.string s) := fun W hp k s hs => by
    obtain ⟨A', p', e, -, -, x⟩ := hS W hp
    injection e with e1 _ _
    obtain ⟨b', o', e', -, x⟩ := x (by simp)
    rw [← e1] at e'
    injection e' with e'
    injection e' with e2 e3
    subst e2 e3
    have := x (k + 1) s hs
    rwa [show on + (k + 1) = on + 1 + k from by omega] at this
  rw [hlen]
  clear g3 g4 hlen hS
  obtain ⟨A2, m2, p2, rfl⟩ := hvi
  rw [hk]
  have hsz : wb < w.heap.size + 1 := by omega
  have ltq : bn < w.heap.size := cell_lt' q'
  have q0 : ∀ o, (w.alloc o).cell? ⟨bn, on, none⟩ = some (.string n0) := fun o => by
    have e := row_alloc_eq w o ltq
    simpa [World.cell?, e] using q'
  have H := Lib.hid h
  have HQ := Lib.hid hQ
  clear h hQ q'
  by_cases hp1 : p1 = 1
  · obtain rfl : ns = [] := List.eq_nil_of_length_eq_zero (by omega)
    subst hp1
    go_enter Tryz.func34, Tryz.ntmps34
    go_wp2_with (fail)
    go_at_call 32
    refine (c_names [⟨#[97, 112, 97, 114, 116]⟩, n0] _ (fun _ => True) wb v l (by simp at hl ⊢; omega) _ (by exact H.out.below (((Below.refl _ _).alloc (Nat.le_refl _) _).alloc (by simp) _)) (by exact strs_two (row_new _ _ _ (by simp)) (by omega))).mono ?_
    rintro e w2 ⟨rfl, ⟨v2, hW2⟩, hP2⟩
    have hP3 := (PK.of_below (wb := wb) (((Below.refl w.heap.size w).alloc (Nat.le_refl _) _).alloc (by simp) _) (Nat.le_refl _)).trans hP2
    have hr2 := hP2.row (row_alloc (row_new w _ w.heap.size rfl) _) (by decide) (by omega)
    obtain ⟨y0, y1, y2, y3, y4, y5, y6, y7⟩ := eight_cells hr2
    have HW2 := Lib.hid hW2
    have HP3 := Lib.hid hP3
    clear hW2 hP2 hr2 hP3
    go_wp2_with (fail)
    go_loopw [58] (fun i wr => i = .int .i64 0 ∧ wr = w2) (fun _ _ => 0)
    case atStart => exact ⟨rfl, rfl⟩
    case round =>
      obtain ⟨rfl, rfl⟩ := hrel
      go_wp2_with (go_at_call 33; refine (c_sign ⟨#[59]⟩ wb _ _ (by simp at hl ⊢; omega) _ HW2.out).mono ?_; rintro e w3 ⟨rfl, ⟨v3, hW3⟩, hP4⟩; have HW3 := Lib.hid hW3; have HP4 := Lib.hid hP4; clear hW3 hP4)
      go_end0
      exact ⟨rfl, ⟨v3, by simpa [List.append_assoc, sepToks] using HW3.out⟩, HP3.out.trans HP4.out⟩
  · go_enter Tryz.func34, Tryz.ntmps34
    go_wp2_with (fail)
    go_at_call 32
    refine (c_names [⟨#[97, 112, 97, 114, 116]⟩, n0] _ (fun _ => True) wb v l (by simp at hl ⊢; omega) _ (by exact H.out.below (((Below.refl _ _).alloc (Nat.le_refl _) _).alloc (by simp) _)) (by exact strs_two (row_new _ _ _ (by simp)) (by omega))).mono ?_
    rintro e w2 ⟨rfl, ⟨v2, hW2⟩, hP2⟩
    have hP3 := (PK.of_below (wb := wb) (((Below.refl w.heap.size w).alloc (Nat.le_refl _) _).alloc (by simp) _) (Nat.le_refl _)).trans hP2
    have hr2 := hP2.row (row_alloc (row_new w _ w.heap.size rfl) _) (by decide) (by omega)
    obtain ⟨y0, y1, y2, y3, y4, y5, y6, y7⟩ := eight_cells hr2
    have HW2 := Lib.hid hW2
    have HP3 := Lib.hid hP3
    clear hW2 hP2 hr2 hP3
    go_wp2_with (fail)
    go_loopw [58] (fun i wr => WaRel ns (l ++ List.map nameT [⟨#[97, 112, 97, 114, 116]⟩, n0]) wb w i wr) (fun i wr => ns.length - (intOf i).toNat)
    case atStart => exact ⟨0, v2, Nat.zero_le _, rfl, by simpa [sepToks] using HW2.out, HP3.out⟩
    case round =>
      obtain ⟨k, vk, hk2, rfl, hWk, hPk⟩ := hrel
      by_cases hlt : k < ns.length
      · have q1 := HQ.out wr hPk k ns[k] (List.getElem?_eq_getElem hlt)
        have Htk := Lib.hid (sepToks_take ns k hlt)
        have hlk : (l ++ List.map nameT [⟨#[97, 112, 97, 114, 116]⟩, n0] ++ sepToks (ns.take k)).length ≤ 49500 := by
          simp only [List.length_append, List.length_map, List.length_cons, List.length_nil, sepToks_len, List.length_take]; omega
        have Hlk := Lib.hid hlk
        have lt2 := cell_lt' q1
        have ltw := hWk.lt
        have HWk := Lib.hid hWk
        have HPk := Lib.hid hPk
        clear hWk hPk hlk
        generalize ns[k] = s at q1 Htk
        go_wp2_with (first | (go_at_call 33; refine (c_sign ⟨#[44]⟩ wb _ _ (by have := Hlk.out; omega) _ HWk.out).mono ?_; rintro e w3 ⟨rfl, ⟨v3, hW3⟩, hP4⟩; have lt3 := hW3.lt; have HW3 := Lib.hid hW3; have HP4 := Lib.hid hP4; clear hW3 hP4) | (go_at_call 32; refine (c_names [s] _ (fun _ => True) wb v3 (l ++ List.map nameT [⟨#[97, 112, 97, 114, 116]⟩, n0] ++ sepToks (ns.take k) ++ [signT ⟨#[44]⟩]) (by have := Hlk.out; simp only [List.length_append, List.length_cons, List.length_nil] at this ⊢; omega) _ (by exact HW3.out.below ((Below.refl _ _).alloc (Nat.le_refl _) _)) (by exact strs_one (row_new _ _ _ rfl) (by omega))).mono ?_; rintro e w4 ⟨rfl, ⟨v4, hW4⟩, hP5⟩; have HW4 := Lib.hid hW4; have HP5 := Lib.hid hP5; clear hW4 hP5))
        refine ⟨⟨k + 1, v4, by omega, by go_num, ?_, HPk.out.trans (HP4.out.trans ((PK.of_below ((Below.refl w3.heap.size w3).alloc (Nat.le_refl _) _) (Nat.le_refl _)).trans HP5.out))⟩, by simp [intOf]; omega⟩
        rw [Htk.out]
        simpa [List.append_assoc] using HW4.out
      · have hkl : ns.take k = ns := List.take_of_length_le (by omega)
        rw [hkl] at hWk
        have HWk := Lib.hid hWk
        have HPk := Lib.hid hPk
        have hlk : (l ++ List.map nameT [⟨#[97, 112, 97, 114, 116]⟩, n0] ++ sepToks ns).length ≤ 49500 := by
          simp only [List.length_append, List.length_map, List.length_cons, List.length_nil, sepToks_len]; omega
        have Hlk := Lib.hid hlk
        clear hWk hPk hkl hlk
        go_wp2_with (go_at_call 33; refine (c_sign ⟨#[59]⟩ wb _ _ (by have := Hlk.out; omega) _ HWk.out).mono ?_; rintro e w3 ⟨rfl, ⟨v3, hW3⟩, hP4⟩; have HW3 := Lib.hid hW3; have HP4 := Lib.hid hP4; clear hW3 hP4)
        go_end0
        exact ⟨rfl, ⟨v3, by simpa [List.append_assoc] using HW3.out⟩, HPk.out.trans HP4.out⟩
end Go.Proofs.YtplnnpkohdmiaaaGreatDoor

/- DERIVED. The landed printer's item: replicas, least, firmware (genWD, of WC). -/
namespace Go.Proofs.YtplnnpkohdmiaaaGreatDoor
open Go.RowKit
set_option maxRecDepth 100000

set_option maxHeartbeats 8000000 in
theorem c_item7 (c : Cl) (hk : c.kind = 7) (ha : I64 c.a) (vn vi : Value) (wb : Nat) (v : Value) (l : List Tok) (hl : l.length ≤ 49000) (w : World) (ht : TabW wb w) (h : WSt w wb v l) (hvn : ∃ A m p, vn = .slice A m p) (hvi : ∃ A m p, vi = .slice A m p) :
    Calls Tryz.prog 34 #[.pointer (some ⟨wb, 0, none⟩), .agg #[.int .u8 c.kind, vn, .int .u8 c.dom, .int .i64 c.idx, .int .i64 c.a, .int .i64 c.b, vi, .int .i64 c.off]] w fun e w' => e = .returned (.tuple #[]) ∧ (∃ v', WSt w' wb v' (l ++ [nameT ⟨#[114, 101, 112, 108, 105, 99, 97, 115]⟩, numT c.a, signT ⟨#[59]⟩])) ∧ PK wb w w' := by
  obtain ⟨A1, m1, p1, rfl⟩ := hvn
  obtain ⟨A2, m2, p2, rfl⟩ := hvi
  rw [hk]
  have hwb : wb < w.heap.size := (Array.getElem?_eq_some_iff.1 h.1).1
  obtain ⟨w1, hw1⟩ : ∃ w1, w1 = w.alloc (.cells #[.int .u8 7, .slice A1 m1 p1, .int .u8 c.dom, .int .i64 c.idx, .int .i64 c.a, .int .i64 c.b, .slice A2 m2 p2, .int .i64 c.off] 36) := ⟨_, rfl⟩
  have b1 : Below w.heap.size w w1 := by rw [hw1]; exact (Below.refl _ _).alloc (Nat.le_refl _) _
  have hr : w1.heap[w.heap.size]? = some (.cells #[.int .u8 7, .slice A1 m1 p1, .int .u8 c.dom, .int .i64 c.idx, .int .i64 c.a, .int .i64 c.b, .slice A2 m2 p2, .int .i64 c.off] 36 (0, 0)) := by rw [hw1]; exact row_new _ _ _ rfl
  have hsz : w1.heap.size = w.heap.size + 1 := by rw [hw1]; simp
  have hT1 : TabW wb w1 := ht.on (b1.mono (by omega))
  have hA1 : ∀ X B, Below w1.heap.size w1 X → B ≠ wb → X.heap[B]? = some (.cells #[.string ⟨#[114, 101, 112, 108, 105, 99, 97, 115]⟩] 9 (0, 0)) → Calls Tryz.prog 32 #[.pointer (some ⟨wb, 0, none⟩), .slice (some ⟨B, 0, none⟩) 1 1] X fun e w' => e = .returned (.pointer (some ⟨wb, 0, none⟩)) ∧ (∃ v', WSt w' wb v' (l ++ [nameT ⟨#[114, 101, 112, 108, 105, 99, 97, 115]⟩])) ∧ PK wb w1 w' :=
    fun X B hb hB hrow => (c_names [⟨#[114, 101, 112, 108, 105, 99, 97, 115]⟩] _ (fun _ => True) wb v l (by simp; omega) X ((h.below b1).below hb) (strs_one hrow hB)).mono fun e w' ⟨h1, h2, h3⟩ => ⟨h1, h2, (PK.of_below hb (Nat.le_refl _)).trans h3⟩
  have hA2 : ∀ X v', WSt X wb v' (l ++ [nameT ⟨#[114, 101, 112, 108, 105, 99, 97, 115]⟩]) → PK wb w1 X → Calls Tryz.prog 36 #[.pointer (some ⟨wb, 0, none⟩), .int .i64 c.a] X fun e w' => e = .returned (.pointer (some ⟨wb, 0, none⟩)) ∧ (∃ v', WSt w' wb v' ((l ++ [nameT ⟨#[114, 101, 112, 108, 105, 99, 97, 115]⟩]) ++ [numT c.a])) ∧ PK wb w1 w' :=
    fun X v' hX hP => (c_wnumber c.a ha.1 ha.2 wb v' _ (by simp; omega) X ((hT1.pk hP (by omega)).tab (by have := hP.size; omega)) hX).mono fun e w' ⟨h1, h2, h3⟩ => ⟨h1, h2, hP.trans h3⟩
  have HA2 := Lib.hid hA2
  have HA1 := Lib.hid hA1
  have Hr := Lib.hid hr
  have HB1 := Lib.hid b1
  obtain ⟨x0, x1, x2, x3, x4, x5, x6, x7⟩ := eight_cells hr
  have hfm : Tryz.prog.follows Departure.mixedOrders = true := by kernel_rfl
  clear hA1 hA2 hr ht h hT1
  go_enter Tryz.func34, Tryz.ntmps34
  go_wp2_with (fail)
  rw [← hw1]
  clear hw1
  go_region_law (first
    | (go_simp; go_at_call 32; refine (HA1.out _ _ (by repeat (first | with_reducible exact Below.refl _ _ | with_reducible refine Below.alloc ?_ (by (try simp) <;> omega) _ | with_reducible refine Below.drew ?_)) (by omega) (by first | exact row_new _ _ _ (by first | (simp; done) | omega) | exact row_drew (row_new _ _ _ (by first | (simp; done) | omega)))).mono ?_; rintro e w2 ⟨rfl, ⟨v2, hW2⟩, hP2⟩; have hr2 := hP2.row Hr.out (by decide) (by omega); obtain ⟨y0, y1, y2, y3, y4, y5, y6, y7⟩ := eight_cells hr2; have HW2 := Lib.hid hW2; have HP2 := Lib.hid hP2; clear hW2 hP2 hr2)
    | (go_simp; go_at_call 36; refine (HA2.out _ _ HW2.out HP2.out).mono ?_; rintro e w3 ⟨rfl, ⟨v3, hW3⟩, hP3⟩; have HW3 := Lib.hid hW3; have HP3 := Lib.hid hP3; clear hW3 hP3))
  all_goals go_wp2_with (go_at_call 33; refine (c_sign ⟨#[59]⟩ wb _ _ (by simp; omega) _ HW3.out).mono ?_; rintro e w4 ⟨rfl, ⟨v4, hW4⟩, hP4⟩; have HW4 := Lib.hid hW4; have HP4 := Lib.hid hP4; clear hW4 hP4)
  all_goals go_end0
  all_goals exact ⟨rfl, ⟨v4, by simpa [List.append_assoc] using HW4.out⟩, (PK.of_below HB1.out (Nat.le_refl _)).trans (HP3.out.trans HP4.out)⟩
set_option maxHeartbeats 8000000 in
theorem c_item8 (c : Cl) (hk : c.kind = 8) (ha : I64 c.a) (vn vi : Value) (wb : Nat) (v : Value) (l : List Tok) (hl : l.length ≤ 49000) (w : World) (ht : TabW wb w) (h : WSt w wb v l) (hvn : ∃ A m p, vn = .slice A m p) (hvi : ∃ A m p, vi = .slice A m p) :
    Calls Tryz.prog 34 #[.pointer (some ⟨wb, 0, none⟩), .agg #[.int .u8 c.kind, vn, .int .u8 c.dom, .int .i64 c.idx, .int .i64 c.a, .int .i64 c.b, vi, .int .i64 c.off]] w fun e w' => e = .returned (.tuple #[]) ∧ (∃ v', WSt w' wb v' (l ++ [nameT ⟨#[108, 101, 97, 115, 116]⟩, numT c.a, signT ⟨#[59]⟩])) ∧ PK wb w w' := by
  obtain ⟨A1, m1, p1, rfl⟩ := hvn
  obtain ⟨A2, m2, p2, rfl⟩ := hvi
  rw [hk]
  have hwb : wb < w.heap.size := (Array.getElem?_eq_some_iff.1 h.1).1
  obtain ⟨w1, hw1⟩ : ∃ w1, w1 = w.alloc (.cells #[.int .u8 8, .slice A1 m1 p1, .int .u8 c.dom, .int .i64 c.idx, .int .i64 c.a, .int .i64 c.b, .slice A2 m2 p2, .int .i64 c.off] 36) := ⟨_, rfl⟩
  have b1 : Below w.heap.size w w1 := by rw [hw1]; exact (Below.refl _ _).alloc (Nat.le_refl _) _
  have hr : w1.heap[w.heap.size]? = some (.cells #[.int .u8 8, .slice A1 m1 p1, .int .u8 c.dom, .int .i64 c.idx, .int .i64 c.a, .int .i64 c.b, .slice A2 m2 p2, .int .i64 c.off] 36 (0, 0)) := by rw [hw1]; exact row_new _ _ _ rfl
  have hsz : w1.heap.size = w.heap.size + 1 := by rw [hw1]; simp
  have hT1 : TabW wb w1 := ht.on (b1.mono (by omega))
  have hA1 : ∀ X B, Below w1.heap.size w1 X → B ≠ wb → X.heap[B]? = some (.cells #[.string ⟨#[108, 101, 97, 115, 116]⟩] 9 (0, 0)) → Calls Tryz.prog 32 #[.pointer (some ⟨wb, 0, none⟩), .slice (some ⟨B, 0, none⟩) 1 1] X fun e w' => e = .returned (.pointer (some ⟨wb, 0, none⟩)) ∧ (∃ v', WSt w' wb v' (l ++ [nameT ⟨#[108, 101, 97, 115, 116]⟩])) ∧ PK wb w1 w' :=
    fun X B hb hB hrow => (c_names [⟨#[108, 101, 97, 115, 116]⟩] _ (fun _ => True) wb v l (by simp; omega) X ((h.below b1).below hb) (strs_one hrow hB)).mono fun e w' ⟨h1, h2, h3⟩ => ⟨h1, h2, (PK.of_below hb (Nat.le_refl _)).trans h3⟩
  have hA2 : ∀ X v', WSt X wb v' (l ++ [nameT ⟨#[108, 101, 97, 115, 116]⟩]) → PK wb w1 X → Calls Tryz.prog 36 #[.pointer (some ⟨wb, 0, none⟩), .int .i64 c.a] X fun e w' => e = .returned (.pointer (some ⟨wb, 0, none⟩)) ∧ (∃ v', WSt w' wb v' ((l ++ [nameT ⟨#[108, 101, 97, 115, 116]⟩]) ++ [numT c.a])) ∧ PK wb w1 w' :=
    fun X v' hX hP => (c_wnumber c.a ha.1 ha.2 wb v' _ (by simp; omega) X ((hT1.pk hP (by omega)).tab (by have := hP.size; omega)) hX).mono fun e w' ⟨h1, h2, h3⟩ => ⟨h1, h2, hP.trans h3⟩
  have HA2 := Lib.hid hA2
  have HA1 := Lib.hid hA1
  have Hr := Lib.hid hr
  have HB1 := Lib.hid b1
  obtain ⟨x0, x1, x2, x3, x4, x5, x6, x7⟩ := eight_cells hr
  have hfm : Tryz.prog.follows Departure.mixedOrders = true := by kernel_rfl
  clear hA1 hA2 hr ht h hT1
  go_enter Tryz.func34, Tryz.ntmps34
  go_wp2_with (fail)
  rw [← hw1]
  clear hw1
  go_region_law (first
    | (go_simp; go_at_call 32; refine (HA1.out _ _ (by repeat (first | with_reducible exact Below.refl _ _ | with_reducible refine Below.alloc ?_ (by (try simp) <;> omega) _ | with_reducible refine Below.drew ?_)) (by omega) (by first | exact row_new _ _ _ (by first | (simp; done) | omega) | exact row_drew (row_new _ _ _ (by first | (simp; done) | omega)))).mono ?_; rintro e w2 ⟨rfl, ⟨v2, hW2⟩, hP2⟩; have hr2 := hP2.row Hr.out (by decide) (by omega); obtain ⟨y0, y1, y2, y3, y4, y5, y6, y7⟩ := eight_cells hr2; have HW2 := Lib.hid hW2; have HP2 := Lib.hid hP2; clear hW2 hP2 hr2)
    | (go_simp; go_at_call 36; refine (HA2.out _ _ HW2.out HP2.out).mono ?_; rintro e w3 ⟨rfl, ⟨v3, hW3⟩, hP3⟩; have HW3 := Lib.hid hW3; have HP3 := Lib.hid hP3; clear hW3 hP3))
  all_goals go_wp2_with (go_at_call 33; refine (c_sign ⟨#[59]⟩ wb _ _ (by simp; omega) _ HW3.out).mono ?_; rintro e w4 ⟨rfl, ⟨v4, hW4⟩, hP4⟩; have HW4 := Lib.hid hW4; have HP4 := Lib.hid hP4; clear hW4 hP4)
  all_goals go_end0
  all_goals exact ⟨rfl, ⟨v4, by simpa [List.append_assoc] using HW4.out⟩, (PK.of_below HB1.out (Nat.le_refl _)).trans (HP3.out.trans HP4.out)⟩
set_option maxHeartbeats 8000000 in
theorem c_item12 (c : Cl) (hk : c.kind = 12) (ha : I64 c.a) (vn vi : Value) (wb : Nat) (v : Value) (l : List Tok) (hl : l.length ≤ 49000) (w : World) (ht : TabW wb w) (h : WSt w wb v l) (hvn : ∃ A m p, vn = .slice A m p) (hvi : ∃ A m p, vi = .slice A m p) :
    Calls Tryz.prog 34 #[.pointer (some ⟨wb, 0, none⟩), .agg #[.int .u8 c.kind, vn, .int .u8 c.dom, .int .i64 c.idx, .int .i64 c.a, .int .i64 c.b, vi, .int .i64 c.off]] w fun e w' => e = .returned (.tuple #[]) ∧ (∃ v', WSt w' wb v' (l ++ [nameT ⟨#[102, 105, 114, 109, 119, 97, 114, 101]⟩, numT c.a, signT ⟨#[59]⟩])) ∧ PK wb w w' := by
  obtain ⟨A1, m1, p1, rfl⟩ := hvn
  obtain ⟨A2, m2, p2, rfl⟩ := hvi
  rw [hk]
  have hwb : wb < w.heap.size := (Array.getElem?_eq_some_iff.1 h.1).1
  obtain ⟨w1, hw1⟩ : ∃ w1, w1 = w.alloc (.cells #[.int .u8 12, .slice A1 m1 p1, .int .u8 c.dom, .int .i64 c.idx, .int .i64 c.a, .int .i64 c.b, .slice A2 m2 p2, .int .i64 c.off] 36) := ⟨_, rfl⟩
  have b1 : Below w.heap.size w w1 := by rw [hw1]; exact (Below.refl _ _).alloc (Nat.le_refl _) _
  have hr : w1.heap[w.heap.size]? = some (.cells #[.int .u8 12, .slice A1 m1 p1, .int .u8 c.dom, .int .i64 c.idx, .int .i64 c.a, .int .i64 c.b, .slice A2 m2 p2, .int .i64 c.off] 36 (0, 0)) := by rw [hw1]; exact row_new _ _ _ rfl
  have hsz : w1.heap.size = w.heap.size + 1 := by rw [hw1]; simp
  have hT1 : TabW wb w1 := ht.on (b1.mono (by omega))
  have hA1 : ∀ X B, Below w1.heap.size w1 X → B ≠ wb → X.heap[B]? = some (.cells #[.string ⟨#[102, 105, 114, 109, 119, 97, 114, 101]⟩] 9 (0, 0)) → Calls Tryz.prog 32 #[.pointer (some ⟨wb, 0, none⟩), .slice (some ⟨B, 0, none⟩) 1 1] X fun e w' => e = .returned (.pointer (some ⟨wb, 0, none⟩)) ∧ (∃ v', WSt w' wb v' (l ++ [nameT ⟨#[102, 105, 114, 109, 119, 97, 114, 101]⟩])) ∧ PK wb w1 w' :=
    fun X B hb hB hrow => (c_names [⟨#[102, 105, 114, 109, 119, 97, 114, 101]⟩] _ (fun _ => True) wb v l (by simp; omega) X ((h.below b1).below hb) (strs_one hrow hB)).mono fun e w' ⟨h1, h2, h3⟩ => ⟨h1, h2, (PK.of_below hb (Nat.le_refl _)).trans h3⟩
  have hA2 : ∀ X v', WSt X wb v' (l ++ [nameT ⟨#[102, 105, 114, 109, 119, 97, 114, 101]⟩]) → PK wb w1 X → Calls Tryz.prog 36 #[.pointer (some ⟨wb, 0, none⟩), .int .i64 c.a] X fun e w' => e = .returned (.pointer (some ⟨wb, 0, none⟩)) ∧ (∃ v', WSt w' wb v' ((l ++ [nameT ⟨#[102, 105, 114, 109, 119, 97, 114, 101]⟩]) ++ [numT c.a])) ∧ PK wb w1 w' :=
    fun X v' hX hP => (c_wnumber c.a ha.1 ha.2 wb v' _ (by simp; omega) X ((hT1.pk hP (by omega)).tab (by have := hP.size; omega)) hX).mono fun e w' ⟨h1, h2, h3⟩ => ⟨h1, h2, hP.trans h3⟩
  have HA2 := Lib.hid hA2
  have HA1 := Lib.hid hA1
  have Hr := Lib.hid hr
  have HB1 := Lib.hid b1
  obtain ⟨x0, x1, x2, x3, x4, x5, x6, x7⟩ := eight_cells hr
  have hfm : Tryz.prog.follows Departure.mixedOrders = true := by kernel_rfl
  clear hA1 hA2 hr ht h hT1
  go_enter Tryz.func34, Tryz.ntmps34
  go_wp2_with (fail)
  rw [← hw1]
  clear hw1
  go_region_law (first
    | (go_simp; go_at_call 32; refine (HA1.out _ _ (by repeat (first | with_reducible exact Below.refl _ _ | with_reducible refine Below.alloc ?_ (by (try simp) <;> omega) _ | with_reducible refine Below.drew ?_)) (by omega) (by first | exact row_new _ _ _ (by first | (simp; done) | omega) | exact row_drew (row_new _ _ _ (by first | (simp; done) | omega)))).mono ?_; rintro e w2 ⟨rfl, ⟨v2, hW2⟩, hP2⟩; have hr2 := hP2.row Hr.out (by decide) (by omega); obtain ⟨y0, y1, y2, y3, y4, y5, y6, y7⟩ := eight_cells hr2; have HW2 := Lib.hid hW2; have HP2 := Lib.hid hP2; clear hW2 hP2 hr2)
    | (go_simp; go_at_call 36; refine (HA2.out _ _ HW2.out HP2.out).mono ?_; rintro e w3 ⟨rfl, ⟨v3, hW3⟩, hP3⟩; have HW3 := Lib.hid hW3; have HP3 := Lib.hid hP3; clear hW3 hP3))
  all_goals go_wp2_with (go_at_call 33; refine (c_sign ⟨#[59]⟩ wb _ _ (by simp; omega) _ HW3.out).mono ?_; rintro e w4 ⟨rfl, ⟨v4, hW4⟩, hP4⟩; have HW4 := Lib.hid hW4; have HP4 := Lib.hid hP4; clear hW4 hP4)
  all_goals go_end0
  all_goals exact ⟨rfl, ⟨v4, by simpa [List.append_assoc] using HW4.out⟩, (PK.of_below HB1.out (Nat.le_refl _)).trans (HP3.out.trans HP4.out)⟩
end Go.Proofs.YtplnnpkohdmiaaaGreatDoor

/- DERIVED. The landed printer's item: near. -/
namespace Go.Proofs.YtplnnpkohdmiaaaGreatDoor
open Go.RowKit
set_option maxRecDepth 100000

theorem strs_three {wb b : Nat} {w : World} {s t u : ByteArray} (hb : w.heap[b]? = some (.cells #[.string s, .string t, .string u] 9 (0, 0))) (hn : b ≠ wb) : ∀ W, PK wb w W → StrSl W (fun _ => True) (.slice (some ⟨b, 0, none⟩) 3 3) [s, t, u] := fun W h => by
  have hr := h.row hb (by decide) hn
  exact ⟨_, 3, rfl, Nat.le_refl _, by decide, fun _ => ⟨b, 0, rfl, trivial, fun j u hj => by
    rcases j with _ | _ | _ | j <;> simp at hj
    · subst hj; simp [World.cell?, hr]
    · subst hj; simp [World.cell?, hr]
    · subst hj; simp [World.cell?, hr]⟩⟩

set_option maxHeartbeats 8000000 in
theorem c_item11 (c : Cl) (hk : c.kind = 11) (ha : I64 c.a) (vn vi : Value) (wb : Nat) (v : Value) (l : List Tok) (hl : l.length ≤ 49000) (w : World) (ht : TabW wb w) (h : WSt w wb v l) (ok : Nat → Prop) (n0 : ByteArray) (ns : List ByteArray) (hns : c.names = n0 :: ns) (hvn : StrSl w ok vn c.names) (hvi : ∃ A m p, vi = .slice A m p) :
    Calls Tryz.prog 34 #[.pointer (some ⟨wb, 0, none⟩), .agg #[.int .u8 c.kind, vn, .int .u8 c.dom, .int .i64 c.idx, .int .i64 c.a, .int .i64 c.b, vi, .int .i64 c.off]] w fun e w' => e = .returned (.tuple #[]) ∧ (∃ v', WSt w' wb v' (l ++ [nameT ⟨#[110, 101, 97, 114]⟩, nameT n0, nameT ⟨#[119, 105, 116, 104, 105, 110]⟩, numT c.a, signT ⟨#[59]⟩])) ∧ PK wb w w' := by
  rw [hns] at hvn
  obtain ⟨A0, p1, rfl, g1, g2, g3⟩ := hvn
  obtain ⟨bn, on, rfl, -, g4⟩ := g3 (by simp)
  have q' := g4 0 n0 rfl
  have hm0 : 0 < (n0 :: ns).length := by simp
  generalize (n0 :: ns).length = m1 at g1 hm0 ⊢
  clear g3 g4
  obtain ⟨A2, m2, p2, rfl⟩ := hvi
  rw [hk]
  have hwb : wb < w.heap.size := (Array.getElem?_eq_some_iff.1 h.1).1
  obtain ⟨w1, hw1⟩ : ∃ w1, w1 = w.alloc (.cells #[.int .u8 11, .slice (some ⟨bn, on, none⟩) m1 p1, .int .u8 c.dom, .int .i64 c.idx, .int .i64 c.a, .int .i64 c.b, .slice A2 m2 p2, .int .i64 c.off] 36) := ⟨_, rfl⟩
  have b1 : Below w.heap.size w w1 := by rw [hw1]; exact (Below.refl _ _).alloc (Nat.le_refl _) _
  have hr : w1.heap[w.heap.size]? = some (.cells #[.int .u8 11, .slice (some ⟨bn, on, none⟩) m1 p1, .int .u8 c.dom, .int .i64 c.idx, .int .i64 c.a, .int .i64 c.b, .slice A2 m2 p2, .int .i64 c.off] 36 (0, 0)) := by rw [hw1]; exact row_new _ _ _ rfl
  have hsz : w1.heap.size = w.heap.size + 1 := by rw [hw1]; simp
  have hT1 : TabW wb w1 := ht.on (b1.mono (by omega))
  have hA1 : ∀ X B, Below w1.heap.size w1 X → B ≠ wb → X.heap[B]? = some (.cells #[.string ⟨#[110, 101, 97, 114]⟩, .string n0, .string ⟨#[119, 105, 116, 104, 105, 110]⟩] 9 (0, 0)) → Calls Tryz.prog 32 #[.pointer (some ⟨wb, 0, none⟩), .slice (some ⟨B, 0, none⟩) 3 3] X fun e w' => e = .returned (.pointer (some ⟨wb, 0, none⟩)) ∧ (∃ v', WSt w' wb v' (l ++ [nameT ⟨#[110, 101, 97, 114]⟩, nameT n0, nameT ⟨#[119, 105, 116, 104, 105, 110]⟩])) ∧ PK wb w1 w' :=
    fun X B hb hB hrow => (c_names [⟨#[110, 101, 97, 114]⟩, n0, ⟨#[119, 105, 116, 104, 105, 110]⟩] _ (fun _ => True) wb v l (by simp; omega) X ((h.below b1).below hb) (strs_three hrow hB)).mono fun e w' ⟨h1, h2, h3⟩ => ⟨h1, h2, (PK.of_below hb (Nat.le_refl _)).trans h3⟩
  have hA2 : ∀ X v', WSt X wb v' (l ++ [nameT ⟨#[110, 101, 97, 114]⟩, nameT n0, nameT ⟨#[119, 105, 116, 104, 105, 110]⟩]) → PK wb w1 X → Calls Tryz.prog 36 #[.pointer (some ⟨wb, 0, none⟩), .int .i64 c.a] X fun e w' => e = .returned (.pointer (some ⟨wb, 0, none⟩)) ∧ (∃ v', WSt w' wb v' ((l ++ [nameT ⟨#[110, 101, 97, 114]⟩, nameT n0, nameT ⟨#[119, 105, 116, 104, 105, 110]⟩]) ++ [numT c.a])) ∧ PK wb w1 w' :=
    fun X v' hX hP => (c_wnumber c.a ha.1 ha.2 wb v' _ (by simp; omega) X ((hT1.pk hP (by omega)).tab (by have := hP.size; omega)) hX).mono fun e w' ⟨h1, h2, h3⟩ => ⟨h1, h2, hP.trans h3⟩
  have ltq : bn < w.heap.size := cell_lt' q'
  have q0 : w1.cell? ⟨bn, on, none⟩ = some (.string n0) := by
    have e := b1.block bn ltq
    simpa [World.cell?, e] using q'
  have lt1 : bn < w1.heap.size := by omega
  have HA2 := Lib.hid hA2
  have HA1 := Lib.hid hA1
  have Hr := Lib.hid hr
  have HB1 := Lib.hid b1
  obtain ⟨x0, x1, x2, x3, x4, x5, x6, x7⟩ := eight_cells hr
  have hfm : Tryz.prog.follows Departure.mixedOrders = true := by kernel_rfl
  clear q' hA1 hA2 hr ht h hT1
  go_enter Tryz.func34, Tryz.ntmps34
  go_wp2_with (fail)
  rw [← hw1]
  clear hw1
  go_region_law (first
    | (go_simp; go_at_call 32; refine (HA1.out _ _ (by repeat (first | with_reducible exact Below.refl _ _ | with_reducible refine Below.alloc ?_ (by (try simp) <;> omega) _ | with_reducible refine Below.drew ?_)) (by omega) (by first | exact row_new _ _ _ (by first | (simp; done) | omega) | exact row_drew (row_new _ _ _ (by first | (simp; done) | omega)))).mono ?_; rintro e w2 ⟨rfl, ⟨v2, hW2⟩, hP2⟩; have hr2 := hP2.row Hr.out (by decide) (by omega); obtain ⟨y0, y1, y2, y3, y4, y5, y6, y7⟩ := eight_cells hr2; have HW2 := Lib.hid hW2; have HP2 := Lib.hid hP2; clear hW2 hP2 hr2)
    | (go_simp; go_at_call 36; refine (HA2.out _ _ HW2.out HP2.out).mono ?_; rintro e w3 ⟨rfl, ⟨v3, hW3⟩, hP3⟩; have hr3 := hP3.row Hr.out (by decide) (by omega); have z3 := hP3.size; obtain ⟨y0, y1, y2, y3, y4, y5, y6, y7⟩ := eight_cells hr3; have HW3 := Lib.hid hW3; have HP3 := Lib.hid hP3; clear hW3 hP3 hr3))
  all_goals go_wp2_with (go_at_call 33; refine (c_sign ⟨#[59]⟩ wb _ _ (by simp; omega) _ HW3.out).mono ?_; rintro e w6 ⟨rfl, ⟨v6, hW6⟩, hP6⟩; have HW6 := Lib.hid hW6; have HP6 := Lib.hid hP6; clear hW6 hP6)
  all_goals go_end0
  all_goals exact ⟨rfl, ⟨v6, by simpa [List.append_assoc] using HW6.out⟩, (PK.of_below HB1.out (Nat.le_refl _)).trans (HP3.out.trans HP6.out)⟩
end Go.Proofs.YtplnnpkohdmiaaaGreatDoor

/- DERIVED. The landed printer's clause: blast. -/
namespace Go.Proofs.YtplnnpkohdmiaaaGreatDoor
open Go.RowKit
set_option maxRecDepth 100000

set_option maxHeartbeats 8000000 in
theorem c_clause4 (c : Cl) (hk : c.kind = 4) (ha : I64 c.a) (vn vi : Value) (wb : Nat) (v : Value) (l : List Tok) (hl : l.length ≤ 49000) (w : World) (ht : TabW wb w) (h : WSt w wb v l) (hvn : ∃ A m p, vn = .slice A m p) (hvi : ∃ A m p, vi = .slice A m p) :
    Calls Tryz.prog 15 #[.pointer (some ⟨wb, 0, none⟩), .agg #[.int .u8 c.kind, vn, .int .u8 c.dom, .int .i64 c.idx, .int .i64 c.a, .int .i64 c.b, vi, .int .i64 c.off]] w fun e w' => e = .returned (.tuple #[]) ∧ (∃ v', WSt w' wb v' (l ++ [nameT ⟨#[98, 108, 97, 115, 116]⟩, numT c.a, signT ⟨#[59]⟩])) ∧ PK wb w w' := by
  obtain ⟨A1, m1, p1, rfl⟩ := hvn
  obtain ⟨A2, m2, p2, rfl⟩ := hvi
  rw [hk]
  have hwb : wb < w.heap.size := (Array.getElem?_eq_some_iff.1 h.1).1
  obtain ⟨w1, hw1⟩ : ∃ w1, w1 = w.alloc (.cells #[.int .u8 4, .slice A1 m1 p1, .int .u8 c.dom, .int .i64 c.idx, .int .i64 c.a, .int .i64 c.b, .slice A2 m2 p2, .int .i64 c.off] 36) := ⟨_, rfl⟩
  have b1 : Below w.heap.size w w1 := by rw [hw1]; exact (Below.refl _ _).alloc (Nat.le_refl _) _
  have hr : w1.heap[w.heap.size]? = some (.cells #[.int .u8 4, .slice A1 m1 p1, .int .u8 c.dom, .int .i64 c.idx, .int .i64 c.a, .int .i64 c.b, .slice A2 m2 p2, .int .i64 c.off] 36 (0, 0)) := by rw [hw1]; exact row_new _ _ _ rfl
  have hsz : w1.heap.size = w.heap.size + 1 := by rw [hw1]; simp
  have hT1 : TabW wb w1 := ht.on (b1.mono (by omega))
  have hA1 : ∀ X B, Below w1.heap.size w1 X → B ≠ wb → X.heap[B]? = some (.cells #[.string ⟨#[98, 108, 97, 115, 116]⟩] 9 (0, 0)) → Calls Tryz.prog 32 #[.pointer (some ⟨wb, 0, none⟩), .slice (some ⟨B, 0, none⟩) 1 1] X fun e w' => e = .returned (.pointer (some ⟨wb, 0, none⟩)) ∧ (∃ v', WSt w' wb v' (l ++ [nameT ⟨#[98, 108, 97, 115, 116]⟩])) ∧ PK wb w1 w' :=
    fun X B hb hB hrow => (c_names [⟨#[98, 108, 97, 115, 116]⟩] _ (fun _ => True) wb v l (by simp; omega) X ((h.below b1).below hb) (strs_one hrow hB)).mono fun e w' ⟨h1, h2, h3⟩ => ⟨h1, h2, (PK.of_below hb (Nat.le_refl _)).trans h3⟩
  have hA2 : ∀ X v', WSt X wb v' (l ++ [nameT ⟨#[98, 108, 97, 115, 116]⟩]) → PK wb w1 X → Calls Tryz.prog 36 #[.pointer (some ⟨wb, 0, none⟩), .int .i64 c.a] X fun e w' => e = .returned (.pointer (some ⟨wb, 0, none⟩)) ∧ (∃ v', WSt w' wb v' ((l ++ [nameT ⟨#[98, 108, 97, 115, 116]⟩]) ++ [numT c.a])) ∧ PK wb w1 w' :=
    fun X v' hX hP => (c_wnumber c.a ha.1 ha.2 wb v' _ (by simp; omega) X ((hT1.pk hP (by omega)).tab (by have := hP.size; omega)) hX).mono fun e w' ⟨h1, h2, h3⟩ => ⟨h1, h2, hP.trans h3⟩
  have HA2 := Lib.hid hA2
  have HA1 := Lib.hid hA1
  have Hr := Lib.hid hr
  have HB1 := Lib.hid b1
  obtain ⟨x0, x1, x2, x3, x4, x5, x6, x7⟩ := eight_cells hr
  have hfm : Tryz.prog.follows Departure.mixedOrders = true := by kernel_rfl
  clear hA1 hA2 hr ht h hT1
  go_enter Tryz.func15, Tryz.ntmps15
  go_wp2_with (fail)
  rw [← hw1]
  clear hw1
  go_region_law (first
    | (go_simp; go_at_call 32; refine (HA1.out _ _ (by repeat (first | with_reducible exact Below.refl _ _ | with_reducible refine Below.alloc ?_ (by (try simp) <;> omega) _ | with_reducible refine Below.drew ?_)) (by omega) (by first | exact row_new _ _ _ (by first | (simp; done) | omega) | exact row_drew (row_new _ _ _ (by first | (simp; done) | omega)))).mono ?_; rintro e w2 ⟨rfl, ⟨v2, hW2⟩, hP2⟩; have hr2 := hP2.row Hr.out (by decide) (by omega); obtain ⟨y0, y1, y2, y3, y4, y5, y6, y7⟩ := eight_cells hr2; have HW2 := Lib.hid hW2; have HP2 := Lib.hid hP2; clear hW2 hP2 hr2)
    | (go_simp; go_at_call 36; refine (HA2.out _ _ HW2.out HP2.out).mono ?_; rintro e w3 ⟨rfl, ⟨v3, hW3⟩, hP3⟩; have HW3 := Lib.hid hW3; have HP3 := Lib.hid hP3; clear hW3 hP3)
    | (go_simp; go_at_call 33; refine (c_sign ⟨#[59]⟩ wb _ _ (by simp; omega) _ HW3.out).mono ?_; rintro e w4 ⟨rfl, ⟨v4, hW4⟩, hP4⟩; have HW4 := Lib.hid hW4; have HP4 := Lib.hid hP4; clear hW4 hP4))
  all_goals go_wp2_with (fail)
  all_goals go_end0
  all_goals exact ⟨rfl, ⟨v4, by simpa [List.append_assoc] using HW4.out⟩, (PK.of_below HB1.out (Nat.le_refl _)).trans (HP3.out.trans HP4.out)⟩
end Go.Proofs.YtplnnpkohdmiaaaGreatDoor

/- DERIVED. The landed printer's clause: approve. -/
namespace Go.Proofs.YtplnnpkohdmiaaaGreatDoor
open Go.RowKit
set_option maxRecDepth 100000

set_option maxHeartbeats 8000000 in
theorem c_clause3 (c : Cl) (hk : c.kind = 3) (ha : I64 c.idx) (vn vi : Value) (wb : Nat) (v : Value) (l : List Tok) (hl : l.length ≤ 49000) (w : World) (ht : TabW wb w) (h : WSt w wb v l) (hvn : ∃ A m p, vn = .slice A m p) (hvi : ∃ A m p, vi = .slice A m p) :
    Calls Tryz.prog 15 #[.pointer (some ⟨wb, 0, none⟩), .agg #[.int .u8 c.kind, vn, .int .u8 c.dom, .int .i64 c.idx, .int .i64 c.a, .int .i64 c.b, vi, .int .i64 c.off]] w fun e w' => e = .returned (.tuple #[]) ∧ (∃ v', WSt w' wb v' (l ++ [nameT ⟨#[97, 112, 112, 114, 111, 118, 101]⟩, nameT (scB c.dom), numT c.idx, signT ⟨#[59]⟩])) ∧ PK wb w w' := by
  obtain ⟨A1, m1, p1, rfl⟩ := hvn
  obtain ⟨A2, m2, p2, rfl⟩ := hvi
  rw [hk]
  have hwb : wb < w.heap.size := (Array.getElem?_eq_some_iff.1 h.1).1
  obtain ⟨w1, hw1⟩ : ∃ w1, w1 = w.alloc (.cells #[.int .u8 3, .slice A1 m1 p1, .int .u8 c.dom, .int .i64 c.idx, .int .i64 c.a, .int .i64 c.b, .slice A2 m2 p2, .int .i64 c.off] 36) := ⟨_, rfl⟩
  have b1 : Below w.heap.size w w1 := by rw [hw1]; exact (Below.refl _ _).alloc (Nat.le_refl _) _
  have hr : w1.heap[w.heap.size]? = some (.cells #[.int .u8 3, .slice A1 m1 p1, .int .u8 c.dom, .int .i64 c.idx, .int .i64 c.a, .int .i64 c.b, .slice A2 m2 p2, .int .i64 c.off] 36 (0, 0)) := by rw [hw1]; exact row_new _ _ _ rfl
  have hsz : w1.heap.size = w.heap.size + 1 := by rw [hw1]; simp
  have hT1 : TabW wb w1 := ht.on (b1.mono (by omega))
  have hA1 : ∀ X B, Below w1.heap.size w1 X → B ≠ wb → X.heap[B]? = some (.cells #[.string ⟨#[97, 112, 112, 114, 111, 118, 101]⟩, .string (scB c.dom)] 9 (0, 0)) → Calls Tryz.prog 32 #[.pointer (some ⟨wb, 0, none⟩), .slice (some ⟨B, 0, none⟩) 2 2] X fun e w' => e = .returned (.pointer (some ⟨wb, 0, none⟩)) ∧ (∃ v', WSt w' wb v' (l ++ [nameT ⟨#[97, 112, 112, 114, 111, 118, 101]⟩, nameT (scB c.dom)])) ∧ PK wb w1 w' :=
    fun X B hb hB hrow => (c_names [⟨#[97, 112, 112, 114, 111, 118, 101]⟩, scB c.dom] _ (fun _ => True) wb v l (by simp; omega) X ((h.below b1).below hb) (strs_two hrow hB)).mono fun e w' ⟨h1, h2, h3⟩ => ⟨h1, h2, (PK.of_below hb (Nat.le_refl _)).trans h3⟩
  have hA2 : ∀ X v', WSt X wb v' (l ++ [nameT ⟨#[97, 112, 112, 114, 111, 118, 101]⟩, nameT (scB c.dom)]) → PK wb w1 X → Calls Tryz.prog 36 #[.pointer (some ⟨wb, 0, none⟩), .int .i64 c.idx] X fun e w' => e = .returned (.pointer (some ⟨wb, 0, none⟩)) ∧ (∃ v', WSt w' wb v' ((l ++ [nameT ⟨#[97, 112, 112, 114, 111, 118, 101]⟩, nameT (scB c.dom)]) ++ [numT c.idx])) ∧ PK wb w1 w' :=
    fun X v' hX hP => (c_wnumber c.idx ha.1 ha.2 wb v' _ (by simp; omega) X ((hT1.pk hP (by omega)).tab (by have := hP.size; omega)) hX).mono fun e w' ⟨h1, h2, h3⟩ => ⟨h1, h2, hP.trans h3⟩
  have HA2 := Lib.hid hA2
  have HA1 := Lib.hid hA1
  have Hr := Lib.hid hr
  have HB1 := Lib.hid b1
  obtain ⟨x0, x1, x2, x3, x4, x5, x6, x7⟩ := eight_cells hr
  have hfm : Tryz.prog.follows Departure.mixedOrders = true := by kernel_rfl
  clear hA1 hA2 hr ht h hT1
  go_enter Tryz.func15, Tryz.ntmps15
  go_wp2_with (fail)
  rw [← hw1]
  clear hw1
  go_region_law (first
    | (go_simp; go_at_call 32; refine (HA1.out _ _ (by repeat (first | with_reducible exact Below.refl _ _ | with_reducible refine Below.alloc ?_ (by (try simp) <;> omega) _ | with_reducible refine Below.drew ?_)) (by omega) (by first | exact row_new _ _ _ (by first | (simp; done) | omega) | exact row_drew (row_new _ _ _ (by first | (simp; done) | omega)))).mono ?_; rintro e w2 ⟨rfl, ⟨v2, hW2⟩, hP2⟩; have hr2 := hP2.row Hr.out (by decide) (by omega); obtain ⟨y0, y1, y2, y3, y4, y5, y6, y7⟩ := eight_cells hr2; have HW2 := Lib.hid hW2; have HP2 := Lib.hid hP2; clear hW2 hP2 hr2)
    | (go_simp; go_at_call 36; refine (HA2.out _ _ HW2.out HP2.out).mono ?_; rintro e w3 ⟨rfl, ⟨v3, hW3⟩, hP3⟩; have hr3 := hP3.row Hr.out (by decide) (by omega); have z3 := hP3.size; obtain ⟨y0, y1, y2, y3, y4, y5, y6, y7⟩ := eight_cells hr3; have HW3 := Lib.hid hW3; have HP3 := Lib.hid hP3; clear hW3 hP3 hr3)
    | (go_simp; go_at_call 35; refine (c_scopeOf _ _).mono ?_; rintro e w4 ⟨rfl, rfl⟩)
    | (go_simp; go_at_call 33; refine (c_sign ⟨#[59]⟩ wb _ _ (by simp; omega) _ HW3.out).mono ?_; rintro e w6 ⟨rfl, ⟨v6, hW6⟩, hP6⟩; have HW6 := Lib.hid hW6; have HP6 := Lib.hid hP6; clear hW6 hP6))
  all_goals go_wp2_with (fail)
  all_goals go_end0
  all_goals exact ⟨rfl, ⟨v6, by simpa [List.append_assoc] using HW6.out⟩, (PK.of_below HB1.out (Nat.le_refl _)).trans (HP3.out.trans HP6.out)⟩
end Go.Proofs.YtplnnpkohdmiaaaGreatDoor
