/-
  DERIVED. Several texts in one.
-/
import Derived.Test.YtplnnpkohdmiaaaGreatDoorYWJm
import Derived.Test.YtplnnpkohdmiaaaGreatDoorYWEm
import Derived.Test.YtplnnpkohdmiaaaGreatDoorYFDm
import Derived.Test.YtplnnpkohdmiaaaGreatDoorYLUm
import Derived.Test.YtplnnpkohdmiaaaGreatDoorYSAm
set_option linter.unusedVariables false
set_option linter.unusedSimpArgs false

/- DERIVED. The landed printer: any item; the clause service; any clause. -/
namespace Go.Proofs.YtplnnpkohdmiaaaGreatDoor
open Go.RowKit
set_option maxRecDepth 100000

/-- A clause's value. -/
def Cl.av (c : Cl) (vn vi : Value) : Value := .agg #[.int .u8 c.kind, vn, .int .u8 c.dom, .int .i64 c.idx, .int .i64 c.a, .int .i64 c.b, vi, .int .i64 c.off]
/-- What the printer leaves behind a clause or an item. -/
def Put (wb : Nat) (w : World) (m : List Tok) (e : Ending) (w' : World) : Prop := e = .returned (.tuple #[]) ∧ (∃ v', WSt w' wb v' m) ∧ PK wb w w'
theorem c_item (c : Cl) (h : ItemIs c) (ho : c.own) (vn vi : Value) (wb : Nat) (v : Value) (l : List Tok) (hl : l.length + (itemToks c).length ≤ 49000) (w : World) (ht : TabW wb w) (hw : WSt w wb v l) (ok : Nat → Prop) (hok : ∀ b, ok b → b < wb) (hn : StrSl w ok vn c.names) (hi : ClSl w ok vi c.items) :
    Calls Tryz.prog 34 #[.pointer (some ⟨wb, 0, none⟩), c.av vn vi] w (Put wb w (l ++ itemToks c)) := by
  have h1 := hn.shape
  have h2 := hi.shape
  cases h with
  | num k a o hk ha =>
    rcases hk with rfl | rfl | rfl | rfl
    · exact c_item6 _ rfl ho.2.1 vn vi wb v l (by simp [itemToks, Cl.kind] at hl; omega) w ht hw h1 h2
    · exact c_item7 _ rfl ho.2.1 vn vi wb v l (by simp [itemToks, Cl.kind] at hl; omega) w ht hw h1 h2
    · exact c_item8 _ rfl ho.2.1 vn vi wb v l (by simp [itemToks, Cl.kind] at hl; omega) w ht hw h1 h2
    · exact c_item12 _ rfl ho.2.1 vn vi wb v l (by simp [itemToks, Cl.kind] at hl; omega) w ht hw h1 h2
  | spread d a o hd ha => exact c_item9 _ rfl ho.2.1 vn vi wb v l (by simp [itemToks, Cl.kind] at hl; omega) w ht hw h1 h2
  | apart n ns o hn' hns =>
    have hlen : (itemToks (.mk 10 (n :: ns) 0 0 0 0 [] o)).length = 3 + 2 * ns.length := by simp [itemToks, Cl.kind, Cl.names, sepToks_len]; omega
    exact c_item10 _ rfl vn vi wb v l w hw ok hok n ns (by rw [hlen] at hl; omega) rfl hn h2
  | near n a o hn' ha => exact c_item11 _ rfl ho.2.1 vn vi wb v l (by simp [itemToks, Cl.kind, Cl.names] at hl; omega) w ht hw ok n [] rfl hn h2

theorem ClSl.pk {w W : World} {ok : Nat → Prop} {v : Value} {l : List Cl} {wb : Nat} (h : ClSl w ok v l) (hok : ∀ b, ok b → b < wb) (hwb : wb ≤ w.heap.size) (hp : PK wb w W) : ClSl W ok v l :=
  h.stand fun b hb => ⟨hb, hp.low b (hok b hb) (by have := hok b hb; omega)⟩
theorem flat_take {α β : Type} (f : α → List β) (l : List α) (k : Nat) (h : k < l.length) : (l.take (k + 1)).flatMap f = (l.take k).flatMap f ++ f l[k] := by
  rw [List.take_add_one, List.getElem?_eq_getElem h, List.flatMap_append]
  simp only [Option.toList_some, List.flatMap_cons, List.flatMap_nil, List.append_nil]
theorem flat_le {α β : Type} (f : α → List β) (l : List α) (k : Nat) : ((l.take k).flatMap f).length ≤ (l.flatMap f).length := by
  conv => rhs; rw [← List.take_append_drop k l]
  rw [List.flatMap_append, List.length_append]; omega

/-- Between two rounds of a loop that prints elements. -/
def PuRel (f : Cl → List Tok) (its : List Cl) (l : List Tok) (wb : Nat) (w : World) (i : Value) (wr : World) : Prop :=
  ∃ (k : Nat) (v : Value), k ≤ its.length ∧ i = .int .i64 k ∧ WSt wr wb v (l ++ (its.take k).flatMap f) ∧ PK wb w wr

set_option maxHeartbeats 8000000 in
theorem c_clauseS (c : Cl) (hk : c.kind = 1) (n0 : ByteArray) (hns : c.names = [n0]) (hit : ∀ i ∈ c.items, ItemIs i) (hio : ∀ i ∈ c.items, i.own) (vn vi : Value) (wb : Nat) (v : Value) (l : List Tok) (hl : l.length + (c.items.flatMap itemToks).length ≤ 48000) (w : World) (ht : TabW wb w) (h : WSt w wb v l) (ok : Nat → Prop) (hok : ∀ b, ok b → b < wb) (hvn : StrSl w ok vn c.names) (hvi : ClSl w ok vi c.items) :
    Calls Tryz.prog 15 #[.pointer (some ⟨wb, 0, none⟩), c.av vn vi] w (Put wb w (l ++ (nameT ⟨#[115, 101, 114, 118, 105, 99, 101]⟩ :: nameT n0 :: signT ⟨#[123]⟩ :: (c.items.flatMap itemToks ++ [signT ⟨#[125]⟩])))) := by
  rw [hns] at hvn
  have hwb := h.lt
  obtain ⟨A0, p1, rfl, g1, g2, g3⟩ := hvn
  obtain ⟨bn, on, rfl, hbn, g4⟩ := g3 (by simp)
  have q' := g4 0 n0 rfl
  have hlen : [n0].length = 1 := rfl
  rw [hlen] at g1 ⊢
  unfold maxLen at g2
  clear g3 g4 hlen
  obtain ⟨its, hits⟩ : ∃ its, its = c.items := ⟨_, rfl⟩
  rw [← hits] at hit hio hl hvi ⊢
  have HVI := Lib.hid hvi
  obtain ⟨A2, p2, rfl, i1, i2, -⟩ := hvi
  unfold maxLen at i2
  unfold Cl.av
  rw [hk]
  have ltq : bn < w.heap.size := cell_lt' q'
  have q0 : ∀ o, (w.alloc o).cell? ⟨bn, on, none⟩ = some (.string n0) := fun o => by
    have e := row_alloc_eq w o ltq
    simpa [World.cell?, e] using q'
  have hrow := fun (W : World) (hp : PK wb w W) => hp
  have H := Lib.hid h
  have HT := Lib.hid ht
  have HIT := Lib.hid hit
  have HIO := Lib.hid hio
  have HOK := Lib.hid hok
  have HL := Lib.hid hl
  have hl1 : l.length ≤ 48000 := by omega
  clear h ht hit hio hok hl q' hns hits hk hrow
  go_enter Tryz.func15, Tryz.ntmps15
  go_wp2_with (fail)
  go_at_call 32
  refine (c_names [⟨#[115, 101, 114, 118, 105, 99, 101]⟩, n0] _ (fun _ => True) wb v l (by simp; omega) _ (by exact H.out.below (((Below.refl _ _).alloc (Nat.le_refl _) _).alloc (by simp) _)) (by exact strs_two (row_new _ _ _ (by simp)) (by omega))).mono ?_
  rintro e w2 ⟨rfl, ⟨v2, hW2⟩, hP2⟩
  have hP3 := (PK.of_below (wb := wb) (((Below.refl w.heap.size w).alloc (Nat.le_refl _) _).alloc (by simp) _) (Nat.le_refl _)).trans hP2
  have hr2 := hP2.row (row_alloc (row_new w _ w.heap.size rfl) _) (by decide) (by omega)
  obtain ⟨y0, y1, y2, y3, y4, y5, y6, y7⟩ := eight_cells hr2
  have HW2 := Lib.hid hW2
  have HP3 := Lib.hid hP3
  have Hr2 := Lib.hid hr2
  clear hW2 hP2 hr2 hP3
  go_wp2_with (fail)
  go_at_call 33
  refine (c_sign ⟨#[123]⟩ wb v2 _ (by simp; omega) _ HW2.out).mono ?_
  rintro e w3 ⟨rfl, ⟨v3, hW3⟩, hP4⟩
  have hr3 := hP4.row Hr2.out (by decide) (by omega)
  obtain ⟨x0, x1, x2, x3, x4, x5, x6, x7⟩ := eight_cells hr3
  have HW3 := Lib.hid hW3
  have HP4 := Lib.hid (HP3.out.trans hP4)
  clear hW3 hr3 hP4
  go_wp2_with (fail)
  go_loopw [21] (fun i wr => PuRel itemToks its (l ++ List.map nameT [⟨#[115, 101, 114, 118, 105, 99, 101]⟩, n0] ++ [signT ⟨#[123]⟩]) wb w i wr) (fun i wr => its.length - (intOf i).toNat)
  case atStart => exact ⟨0, v3, Nat.zero_le _, rfl, by simpa using HW3.out, HP4.out⟩
  case round =>
    obtain ⟨k, vk, hk2, rfl, hWk, hPk⟩ := hrel
    by_cases hlt : k < its.length
    · have hcl := HVI.out.pk HOK.out (by omega) hPk
      obtain ⟨b1, o1, c1, un, ui, e1, hbok, -, -, hn1, hi1, r0, r1, r2, r3, r4, r5, r6, r7⟩ := hcl.at_ hlt
      injection e1 with e1 _ e1'
      subst e1 e1'
      have Htk := Lib.hid (flat_take itemToks its k hlt)
      have hle := flat_le itemToks its (k + 1)
      rw [Htk.out, List.length_append] at hle
      have hmem := List.getElem_mem hlt
      have hI := fun (W : World) (hb : Below wr.heap.size wr W) => c_item its[k] (HIT.out _ hmem) (HIO.out _ hmem) un ui wb vk (l ++ List.map nameT [⟨#[115, 101, 114, 118, 105, 99, 101]⟩, n0] ++ [signT ⟨#[123]⟩] ++ (its.take k).flatMap itemToks)
        (by have := HL.out; simp only [List.length_append, List.length_map, List.length_cons, List.length_nil]; omega) W (((HT.out.pk hPk (by omega))).on (hb.mono (by have := hWk.lt; omega))) (hWk.below hb) ok HOK.out (hn1.below hb) (hi1.below hb)
      have HI := Lib.hid hI
      have lt1 := cell_lt' r0
      have ltw := hWk.lt
      have HPk := Lib.hid hPk
      obtain ⟨vA1, vn1, vc1, rfl⟩ := hn1.shape
      obtain ⟨vA2, vn2, vc2, rfl⟩ := hi1.shape
      clear hWk hPk hI hcl hmem hle hn1 hi1
      unfold Cl.av at HI
      generalize its[k] = x at r0 r1 r2 r3 r4 r5 r6 r7 Htk HI
      go_wp2_with (go_at_call 34; refine (HI.out _ (by repeat (first | with_reducible exact Below.refl _ _ | with_reducible refine Below.alloc ?_ (by (try simp) <;> omega) _ | with_reducible refine Below.setCell ?_ (by (try simp) <;> omega) _))).mono ?_; rintro e w5 ⟨rfl, ⟨v5, hW5⟩, hP5⟩; have HW5 := Lib.hid hW5; have HP5 := Lib.hid hP5; clear hW5 hP5)
      refine ⟨⟨k + 1, v5, by omega, by go_num, ?_, HPk.out.trans (PK.trans (PK.of_below (by repeat (first | with_reducible exact Below.refl _ _ | with_reducible refine Below.alloc ?_ (by (try simp) <;> omega) _ | with_reducible refine Below.setCell ?_ (by (try simp) <;> omega) _)) (Nat.le_refl _)) HP5.out)⟩, by simp [intOf]; omega⟩
      rw [Htk.out]
      simpa [List.append_assoc] using HW5.out
    · have hkl : its.take k = its := List.take_of_length_le (by omega)
      rw [hkl] at hWk
      have HWk := Lib.hid hWk
      have HPk := Lib.hid hPk
      have hlk : (l ++ List.map nameT [⟨#[115, 101, 114, 118, 105, 99, 101]⟩, n0] ++ [signT ⟨#[123]⟩] ++ its.flatMap itemToks).length ≤ 49500 := by
        have := HL.out
        simp only [List.length_append, List.length_map, List.length_cons, List.length_nil]; omega
      have Hlk := Lib.hid hlk
      clear hWk hPk hkl hlk
      go_wp2_with (go_at_call 33; refine (c_sign ⟨#[125]⟩ wb _ _ (by have := Hlk.out; omega) _ HWk.out).mono ?_; rintro e w6 ⟨rfl, ⟨v6, hW6⟩, hP6⟩; have HW6 := Lib.hid hW6; have HP6 := Lib.hid hP6; clear hW6 hP6)
      go_end0
      exact ⟨rfl, ⟨v6, by simpa [List.append_assoc] using HW6.out⟩, HPk.out.trans HP6.out⟩
end Go.Proofs.YtplnnpkohdmiaaaGreatDoor

/- DERIVED. The landed printer: any clause; syntax.Print. -/
namespace Go.Proofs.YtplnnpkohdmiaaaGreatDoor
open Go.RowKit
set_option maxRecDepth 100000

theorem c_clause (c : Cl) (h : ClauseIs c) (ho : c.own2) (vn vi : Value) (wb : Nat) (v : Value) (l : List Tok) (hl : l.length + (clauseToks c).length ≤ 48000) (w : World) (ht : TabW wb w) (hw : WSt w wb v l) (ok : Nat → Prop) (hok : ∀ b, ok b → b < wb) (hn : StrSl w ok vn c.names) (hi : ClSl w ok vi c.items) :
    Calls Tryz.prog 15 #[.pointer (some ⟨wb, 0, none⟩), c.av vn vi] w (Put wb w (l ++ clauseToks c)) := by
  have h1 := hn.shape
  have h2 := hi.shape
  cases h with
  | service n its o hn' hit => exact c_clauseS (.mk 1 [n] 0 0 0 0 its o) rfl n rfl hit ho.2 vn vi wb v l (by simp only [clauseToks, Cl.kind, Cl.names, Cl.items, if_true, List.length_cons, List.length_append] at hl ⊢; omega) w ht hw ok hok hn hi
  | window d i a b o hd hi ha hb => exact c_clause2 _ rfl ho.1.1 ho.1.2.1 ho.1.2.2.1 vn vi wb v l (by omega) w ht hw h1 h2
  | approve d i o hd hi => exact c_clause3 _ rfl ho.1.1 vn vi wb v l (by omega) w ht hw h1 h2
  | blast a o ha => exact c_clause4 _ rfl ho.1.2.1 vn vi wb v l (by omega) w ht hw h1 h2
  | cap i a o hi ha => exact c_clause5 _ rfl ho.1.1 ho.1.2.1 vn vi wb v l (by omega) w ht hw h1 h2

theorem num_valid {n : Int} (h : NumOk n) : validT (numT n) = true := by
  rcases h with rfl | h
  · kernel_rfl
  · exact h
theorem dom_valid {d : Int} (h : DomOk d) : validT (nameT (scB d)) = true := by
  have hd := (dom_of d h)
  have : d = 1 ∨ d = 2 ∨ d = 3 ∨ d = 4 ∨ d = 5 := by
    by_cases h1 : d = 1
    · omega
    · by_cases h2 : d = 2
      · omega
      · by_cases h3 : d = 3
        · omega
        · by_cases h4 : d = 4
          · omega
          · by_cases h5 : d = 5
            · omega
            · exfalso
              unfold DomOk scB at h
              rw [if_neg h1, if_neg h2, if_neg h3, if_neg h4, if_neg h5] at h
              exact h (by rw [ByteArray.toList_eq])
  have e1 : validT (nameT (scB 1)) = true := by kernel_rfl
  have e2 : validT (nameT (scB 2)) = true := by kernel_rfl
  have e3 : validT (nameT (scB 3)) = true := by kernel_rfl
  have e4 : validT (nameT (scB 4)) = true := by kernel_rfl
  have e5 : validT (nameT (scB 5)) = true := by kernel_rfl
  rcases this with rfl | rfl | rfl | rfl | rfl
  · exact e1
  · exact e2
  · exact e3
  · exact e4
  · exact e5
theorem sep_valid {ns : List ByteArray} (h : ∀ x ∈ ns, NamOk x) : ∀ t ∈ sepToks ns, validT t = true := by
  intro t ht
  simp only [sepToks, List.mem_flatMap, List.mem_cons, List.not_mem_nil, or_false] at ht
  obtain ⟨n, hn, rfl | rfl⟩ := ht
  · kernel_rfl
  · exact (h n hn).2
theorem item_valid {c : Cl} (h : ItemIs c) : ∀ t ∈ itemToks c, validT t = true := by
  intro t ht
  cases h with
  | num k a o hk ha =>
    rcases hk with rfl | rfl | rfl | rfl <;> simp only [itemToks, Cl.kind, Cl.a] at ht <;> simp at ht <;> rcases ht with rfl | rfl | rfl
    all_goals first | exact num_valid ha | kernel_rfl
  | spread d a o hd ha =>
    simp only [itemToks, Cl.kind, Cl.a, Cl.dom] at ht
    simp at ht
    rcases ht with rfl | rfl | rfl | rfl | rfl
    all_goals first | exact num_valid ha | exact dom_valid hd | kernel_rfl
  | apart n ns o hn hns =>
    simp only [itemToks, Cl.kind, Cl.names] at ht
    simp at ht
    rcases ht with rfl | rfl | ht | rfl
    all_goals first | exact hn.2 | exact sep_valid hns t ht | kernel_rfl
  | near n a o hn ha =>
    simp only [itemToks, Cl.kind, Cl.a, Cl.names] at ht
    simp at ht
    rcases ht with rfl | rfl | rfl | rfl | rfl
    all_goals first | exact num_valid ha | exact hn.2 | kernel_rfl
theorem clause_valid {c : Cl} (h : ClauseIs c) : ∀ t ∈ clauseToks c, validT t = true := by
  intro t ht
  cases h with
  | service n its o hn hi =>
    simp only [clauseToks, Cl.kind, Cl.names, Cl.items, if_true, List.mem_cons, List.mem_append, List.mem_flatMap, List.not_mem_nil, or_false] at ht
    rcases ht with rfl | rfl | rfl | ⟨i, hii, ht⟩ | rfl
    · kernel_rfl
    · exact hn.2
    · kernel_rfl
    · exact item_valid (hi i hii) t ht
    · kernel_rfl
  | window d i a b o hd hi ha hb =>
    simp only [clauseToks, Cl.kind, Cl.a, Cl.b, Cl.idx, Cl.dom] at ht
    simp at ht
    rcases ht with rfl | rfl | rfl | rfl | rfl | rfl | rfl | rfl
    all_goals first | exact num_valid hi | exact num_valid ha | exact num_valid hb | exact dom_valid hd | kernel_rfl
  | approve d i o hd hi =>
    simp only [clauseToks, Cl.kind, Cl.idx, Cl.dom] at ht
    simp at ht
    rcases ht with rfl | rfl | rfl | rfl
    all_goals first | exact num_valid hi | exact dom_valid hd | kernel_rfl
  | blast a o ha =>
    simp only [clauseToks, Cl.kind, Cl.a] at ht
    simp at ht
    rcases ht with rfl | rfl | rfl
    all_goals first | exact num_valid ha | kernel_rfl
  | cap i a o hi ha =>
    simp only [clauseToks, Cl.kind, Cl.a, Cl.idx] at ht
    simp at ht
    rcases ht with rfl | rfl | rfl | rfl | rfl | rfl
    all_goals first | exact num_valid hi | exact num_valid ha | kernel_rfl
theorem text_valid {l : List Cl} (h : ∀ c ∈ l, ClauseIs c) : ∀ t ∈ l.flatMap clauseToks, validT t = true := by
  intro t ht
  obtain ⟨c, hc, ht⟩ := List.mem_flatMap.1 ht
  exact clause_valid (h c hc) t ht

theorem ClSl.real {w : World} {ok : Nat → Prop} {v : Value} {l : List Cl} (h : ClSl w ok v l) : ClSl w (fun b => ok b ∧ b < w.heap.size) v l := by
  obtain ⟨A, c, h1, h2, h3, h4⟩ := h
  refine ⟨A, c, h1, h2, h3, fun hl => ?_⟩
  obtain ⟨b, o, e, hok, hr⟩ := h4 hl
  exact ⟨b, o, e, ⟨hok, reps_lt l b o hl hr⟩, reps_real l b o hr⟩
/-- What syntax.Print answers. -/
def printB (l : List Cl) : ByteArray × Int := if formedB l = true then printOf (l.flatMap clauseToks) else (⟨#[]⟩, 1)

set_option maxHeartbeats 8000000 in
theorem c_sPrint (l : List Cl) (hl : ∀ c ∈ l, c.own2) (hn : formedB l = true → (l.flatMap clauseToks).length ≤ 47000) (v : Value) (ok : Nat → Prop) (w : World) (ht : Tab w) (h : ClSl w ok v l) :
    Calls Tryz.prog 7 #[v] w fun e w' => e = .returned (.tuple #[.string (printB l).1, .int .i64 (printB l).2]) ∧ Below w.heap.size w w' := by
  have hF := c_Formed l hl v ok w ht h
  obtain ⟨A, c, rfl, i1, i2, -⟩ := id h
  unfold maxLen at i2
  unfold printB
  cases hf : formedB l with
  | false =>
    rw [if_neg (by decide)]
    rw [hf] at hF
    have HF := Lib.hid hF
    clear hF h ht hl hn hf
    go_enter Tryz.func7, Tryz.ntmps7
    go_wp2_with (go_at_call 9; refine HF.out.mono ?_; rintro e w1 ⟨rfl, b1⟩)
    go_ret2
    exact ⟨rfl, b1⟩
  | true =>
    rw [if_pos rfl]
    rw [hf] at hF
    have hn := hn hf
    have hcl := formed_is hf
    have hval := text_valid hcl
    have HF := Lib.hid hF
    have H := Lib.hid h.real
    have HT := Lib.hid ht
    have HO := Lib.hid hl
    have HC := Lib.hid hcl
    have HN := Lib.hid hn
    have HV := Lib.hid hval
    clear hF h ht hl hn hf hcl hval
    go_enter Tryz.func7, Tryz.ntmps7
    go_wp2_with (go_at_call 9; refine HF.out.mono ?_; rintro e w1 ⟨rfl, b1⟩; have B1 := Lib.hid b1; have z1 := b1.size; clear b1)
    have hWS : WSt (w1.alloc (.cells #[.slice none 0 0] 40)) w1.heap.size (.slice none 0 0) [] := ⟨row_new _ _ _ rfl, World.ownsRow_nil _ _ _ _⟩
    obtain ⟨w2, hw2⟩ : ∃ w2, w2 = w1.alloc (.cells #[.slice none 0 0] 40) := ⟨_, rfl⟩
    rw [← hw2] at hWS ⊢
    have hB2 : Below w.heap.size w w2 := by rw [hw2]; exact B1.out.alloc B1.out.size _
    have z2 : w1.heap.size < w2.heap.size := by rw [hw2]; simp
    obtain ⟨wb, hwb⟩ : ∃ wb, wb = w1.heap.size := ⟨_, rfl⟩
    rw [← hwb] at hWS z1 z2 ⊢
    have H2 := Lib.hid (H.out.below hB2)
    have HT2 : TabW wb w2 := by
      obtain ⟨B, hB, htb⟩ := HT.out
      have hb' : Below B w w2 := hB2.mono hB
      intro w' h'
      exact (htb.on hb') w' (h'.mono (by omega))
    have HTW := Lib.hid HT2
    have HWS := Lib.hid hWS
    have HB2 := Lib.hid hB2
    clear hw2 hWS hB2 HT2 hwb
    go_wp2_with (fail)
    go_loopw [14] (fun i wr => PuRel clauseToks l [] wb w2 i wr) (fun i wr => l.length - (intOf i).toNat)
    case atStart => exact ⟨0, _, Nat.zero_le _, rfl, by simpa using HWS.out, PK.refl _ _⟩
    case round =>
      obtain ⟨k, vk, hk2, rfl, hWk, hPk⟩ := hrel
      have hok : ∀ b, (ok b ∧ b < w.heap.size) → b < wb := fun b hb => by have := hb.2; omega
      by_cases hlt : k < l.length
      · have hcl := H2.out.pk hok (by omega) hPk
        obtain ⟨b1, o1, c1, un, ui, e1, hbok, -, -, hn1, hi1, r0, r1, r2, r3, r4, r5, r6, r7⟩ := hcl.at_ hlt
        injection e1 with e1 _ e1'
        subst e1 e1'
        have Htk := Lib.hid (flat_take clauseToks l k hlt)
        have hle := flat_le clauseToks l (k + 1)
        rw [Htk.out, List.length_append] at hle
        have hmem := List.getElem_mem hlt
        have hI := fun (W : World) (hb : Below wr.heap.size wr W) => c_clause l[k] (HC.out _ hmem) (HO.out _ hmem) un ui wb vk ([] ++ (l.take k).flatMap clauseToks)
          (by have := HN.out; simp only [List.nil_append]; omega) W (((HTW.out.pk hPk (by omega))).on (hb.mono (by have := hWk.lt; omega))) (hWk.below hb) _ hok (hn1.below hb) (hi1.below hb)
        have HI := Lib.hid hI
        have lt1 := cell_lt' r0
        have ltw := hWk.lt
        have HPk := Lib.hid hPk
        obtain ⟨vA1, vn1, vc1, rfl⟩ := hn1.shape
        obtain ⟨vA2, vn2, vc2, rfl⟩ := hi1.shape
        clear hWk hPk hI hcl hmem hle hn1 hi1 hok
        unfold Cl.av at HI
        generalize l[k] = x at r0 r1 r2 r3 r4 r5 r6 r7 Htk HI
        go_wp2_with (go_at_call 15; refine (HI.out _ (by repeat (first | with_reducible exact Below.refl _ _ | with_reducible refine Below.alloc ?_ (by (try simp) <;> omega) _ | with_reducible refine Below.setCell ?_ (by (try simp) <;> omega) _))).mono ?_; rintro e w5 ⟨rfl, ⟨v5, hW5⟩, hP5⟩; have HW5 := Lib.hid hW5; have HP5 := Lib.hid hP5; clear hW5 hP5)
        refine ⟨⟨k + 1, v5, by omega, by go_num, ?_, HPk.out.trans (PK.trans (PK.of_below (by repeat (first | with_reducible exact Below.refl _ _ | with_reducible refine Below.alloc ?_ (by (try simp) <;> omega) _ | with_reducible refine Below.setCell ?_ (by (try simp) <;> omega) _)) (Nat.le_refl _)) HP5.out)⟩, by simp [intOf]; omega⟩
        rw [Htk.out]
        simpa [List.append_assoc] using HW5.out
      · have hkl : l.take k = l := List.take_of_length_le (by omega)
        rw [hkl, List.nil_append] at hWk
        have ltw := hWk.lt
        obtain ⟨hrow, hown⟩ := hWk
        have c0 := one_cell hrow
        have hts := TokSl.of_own hown
        have hP := fun v' => c_Print v' (l.flatMap clauseToks) (by have := HN.out; omega) (fun t ht => by have := valid_len t (HV.out t ht); unfold maxLen; omega)
        have HPr := Lib.hid (hP _ wr hts)
        have HPk := Lib.hid hPk
        obtain ⟨vA, vn', vc, rfl⟩ := ownsRow_slice hown
        clear hP hts hrow hown hPk hkl hok
        go_wp2_with (go_at_call 16; refine HPr.out.mono ?_; rintro e w6 ⟨rfl, b6⟩; have B6 := Lib.hid b6; clear b6)
        go_ret2
        exact ⟨rfl, HB2.out.trans (((HPk.out.low_ (by omega)).mono (by omega)).trans (B6.out.mono (by have := HPk.out.size; omega)))⟩
end Go.Proofs.YtplnnpkohdmiaaaGreatDoor

/- DERIVED. The laws' awake. -/
namespace Go.Proofs.YtplnnpkohdmiaaaGreatDoor
open Go.RowKit
set_option maxRecDepth 100000

def awS : ByteArray := ⟨#[98, 108, 97, 115, 116, 32, 50, 59, 32, 97, 112, 112, 114, 111, 118, 101, 32, 114, 111, 119, 32, 49, 59]⟩
def awL : List Cl := [.mk 4 [] 0 0 2 0 [] 0, .mk 3 [] 3 1 0 0 [] 9]
theorem aw_parse : parseOf awS = (awL, 0, 0) := by kernel_rfl
theorem aw_print : printB awL = (⟨#[98, 108, 97, 115, 116, 32, 50, 32, 59, 32, 97, 112, 112, 114, 111, 118, 101, 32, 114, 111, 119, 32, 49, 32, 59]⟩, 0) := by kernel_rfl
theorem aw_same : sames awL awL = true := by kernel_rfl
theorem aw_same0 : sames awL [] = false := by kernel_rfl
theorem aw_formed : formedB awL = true := by kernel_rfl
theorem aw_own : ∀ c ∈ awL, c.own2 := by
  intro c hc
  simp only [awL, List.mem_cons, List.not_mem_nil, or_false] at hc
  rcases hc with rfl | rfl <;> exact ⟨⟨⟨by decide, by decide⟩, ⟨by decide, by decide⟩, ⟨by decide, by decide⟩, fun s hs => by cases hs⟩, fun i hi => by cases hi⟩
theorem aw_cells {w : World} {ok : Nat → Prop} {v : Value} (h : ClSl w ok v awL) : ∃ b o c, v = .slice (some ⟨b, o, none⟩) 2 c ∧ 2 ≤ c ∧ c ≤ maxLen ∧
    w.cell? ⟨b, o, none⟩ = some (.int .u8 4) ∧ w.cell? ⟨b, o + 4, none⟩ = some (.int .i64 2) ∧ w.cell? ⟨b, o + 8, none⟩ = some (.int .u8 3) ∧ w.cell? ⟨b, o + 8 + 2, none⟩ = some (.int .u8 3) ∧ w.cell? ⟨b, o + 8 + 3, none⟩ = some (.int .i64 1) ∧ w.cell? ⟨b, o + 8 + 7, none⟩ = some (.int .i64 9) := by
  obtain ⟨b, o, c, vn, vi, rfl, -, hc, hm, -, -, q0, -, -, -, q4, -, -, -⟩ := h.at_ (i := 0) (by decide)
  obtain ⟨b', o', c', vn', vi', e, -, -, -, -, -, r0, -, r2, r3, -, -, -, r7⟩ := h.at_ (i := 1) (by decide)
  injection e with e1 _ e2
  injection e1 with e1
  injection e1 with e3 e4
  subst e2 e3 e4
  exact ⟨b, o, c, rfl, hc, hm, by rw [Nat.zero_mul, Nat.add_zero] at q0; exact q0, by rw [Nat.zero_mul, Nat.add_zero] at q4; exact q4, r0, r2, r3, r7⟩

set_option maxHeartbeats 8000000 in
theorem c_awake (w : World) (ht : Tab w) : Calls Tryz.prog 6 #[] w fun e w' => e = .returned (.bool true) ∧ Below w.heap.size w w' := by
  have hp := c_Parse awS (by decide) w
  rw [aw_parse] at hp
  unfold awS at hp
  have hq := fun v ok W => c_sPrint awL aw_own (by intro _; decide) v ok W
  rw [aw_print] at hq
  have HP := Lib.hid hp
  have HQ := Lib.hid hq
  have HT := Lib.hid ht
  clear hp hq ht
  go_enter Tryz.func6, Tryz.ntmps6
  go_wp2_with (fail)
  go_at_call 13
  refine HP.out.mono ?_
  rintro e w1 ⟨v, rfl, hcl, b1⟩
  obtain ⟨b, o, c, rfl, hc2, hcm, k0, k4, k8, k10, k11, k15⟩ := aw_cells hcl
  unfold maxLen at hcm
  have HC := Lib.hid hcl
  have B1 := Lib.hid b1
  have HT1 := Lib.hid (HT.out.on b1)
  clear hcl b1
  go_wp2_with (first | (go_at_call 7; refine (HQ.out _ _ _ HT1.out HC.out).mono ?_; rintro e w2 ⟨rfl, b2⟩; have B2 := Lib.hid b2; have HC2 := Lib.hid (HC.out.below b2); have HT2 := Lib.hid (HT1.out.on b2); clear b2) | (go_at_call 9; refine (c_Formed awL aw_own _ _ _ HT4.out HC4.out).mono ?_; rw [aw_formed]; rintro e w5 ⟨rfl, b5⟩; have B5 := Lib.hid b5; clear b5) | (go_at_call 11; refine (c_Same awL [] _ _ _ (fun _ => True) _ HC3.out (ClSl.nil _ _)).mono ?_; rw [aw_same0]; rintro e w4 ⟨rfl, b4⟩; have B4 := Lib.hid b4; have HC4 := Lib.hid (HC3.out.below b4); have HT4 := Lib.hid (HT3.out.on b4); clear b4) | (go_at_call 11; refine (c_Same awL awL _ _ _ _ _ HC2.out HC2.out).mono ?_; rw [aw_same]; rintro e w3 ⟨rfl, b3⟩; have B3 := Lib.hid b3; have HC3 := Lib.hid (HC2.out.below b3); have HT3 := Lib.hid (HT2.out.on b3); clear b3))
  go_ret
  have z1 := B1.out.size
  have z2 := B2.out.size
  have z3 := B3.out.size
  have z4 := B4.out.size
  exact ⟨rfl, B1.out.trans ((B2.out.mono z1).trans ((B3.out.mono (by omega)).trans ((B4.out.mono (by omega)).trans (B5.out.mono (by omega)))))⟩
end Go.Proofs.YtplnnpkohdmiaaaGreatDoor
