/-
  DERIVED. Several texts in one.
-/
import Derived.Test.YtbbadnlaelgmlaaGreatPXN1
import Derived.Test.YtbbadnlaelgmlaaGreatPXA3
import Derived.Test.YtbbadnlaelgmlaaGreatPXA2
set_option linter.unusedVariables false
set_option linter.unusedSimpArgs false

namespace Go.Proofs.YtbbadnlaelgmlaaGreat
open Go.RowKit
set_option maxRecDepth 100000
set_option linter.unusedVariables false
set_option linter.unusedSimpArgs false

theorem lnk_take {l : List Lk} {k : Nat} {x : Lk} (h : l[k]? = some x) (a b : Int) : lnk (l.take (k + 1)) a b = upd a b (lnk (l.take k) a b) x := by
  rw [List.take_add_one, h]; exact lnk_snoc _ _ _ _
set_option maxHeartbeats 32000000 in
theorem c_link (p : SP) (s : SiteD) (a b r : Int) (hr : lnk s.links a b = r) (w : World) (h : SiAt w p s) :
    Calls Tryz.prog 163 #[siV p s, .int .i64 a, .int .i64 b] w fun e w' => e = .returned (.int .i64 r) ∧ Below w.heap.size w w' := by
  unfold siV
  obtain ⟨W, h1⟩ : ∃ W, W = w.alloc (.cells #[.slice p.a1 s.feeds.length p.c1, .slice p.a2 s.brks.length p.c2, .slice p.a3 s.loops.length p.c3, .slice p.a4 s.racks.length p.c4, .int .i64 s.sw, .slice p.a5 s.links.length p.c5, .slice p.a6 s.hosts.length p.c6] 29) := ⟨_, rfl⟩
  have z1 : W.heap.size = w.heap.size + 1 := by rw [h1, World.size_alloc]
  have B1 : Below w.heap.size w W := by rw [h1]; exact (Below.refl _ _).alloc (Nat.le_refl _) _
  have X1 : SiBox W w.heap.size p s := by rw [h1]; exact siBox_new _ _ _
  have HB := Lib.hid B1
  have HZ := Lib.hid z1
  have HA := Lib.hid (fun (X : World) (hX : Below W.heap.size W X) => (h.on B1 (Nat.le_refl _)).on hX (Nat.le_refl _))
  have HF := Lib.hid (fun (X : World) (hX : Below W.heap.size W X) => (let z := X1.on hX (Nat.le_refl _); ⟨z.c0, z.c1, z.c2, z.c3, z.c4, z.c5, z.c6⟩ : X.cell? ⟨w.heap.size, 0, none⟩ = some (.slice p.a1 s.feeds.length p.c1) ∧ X.cell? ⟨w.heap.size, 1, none⟩ = some (.slice p.a2 s.brks.length p.c2) ∧ X.cell? ⟨w.heap.size, 2, none⟩ = some (.slice p.a3 s.loops.length p.c3) ∧ X.cell? ⟨w.heap.size, 3, none⟩ = some (.slice p.a4 s.racks.length p.c4) ∧ X.cell? ⟨w.heap.size, 4, none⟩ = some (.int .i64 s.sw) ∧ X.cell? ⟨w.heap.size, 5, none⟩ = some (.slice p.a5 s.links.length p.c5) ∧ X.cell? ⟨w.heap.size, 6, none⟩ = some (.slice p.a6 s.hosts.length p.c6)))
  have HX := Lib.hid (fun (X : World) (hX : Below W.heap.size W X) => X1.on hX (Nat.le_refl _))
  have HKW := Lib.hid (Below.refl W.heap.size W)
  have hle := HB.out.size
  have n0 := h.feeds.1; have m0 := h.feeds.2.1
  have n1 := h.brks.1; have m1 := h.brks.2.1
  have n2 := h.loops.1; have m2 := h.loops.2.1
  have n3 := h.racks.1; have m3 := h.racks.2.1
  have n4 := h.links.1; have m4 := h.links.2.1
  have n5 := h.hosts.1; have m5 := h.hosts.2.1
  unfold maxLen at m0 m1 m2 m3 m4 m5
  have HR := Lib.hid hr
  clear hr
  clear h z1 B1 X1
  obtain ⟨f0, f1, f2, f3, f4, f5, f6⟩ := HF.out W HKW.out
  rw [h1] at f0 f1 f2 f3 f4 f5 f6
  generalize hBB : w.heap.size = B at *
  go_enter Tryz.func163, Tryz.ntmps163
  go_wp2_with (fail)
  rw [← h1]
  clear h1 f0 f1 f2 f3 f4 f5 f6
  go_loopw [7, 8] (fun v i wr => ∃ k : Nat, k ≤ s.links.length ∧ i = .int .i64 (k : Int) ∧ v = .int .i64 (lnk (s.links.take k) a b) ∧ Hid (Below W.heap.size W wr)) (fun _ i _ => s.links.length - (intOf i).toNat)
  case atStart => exact ⟨0, Nat.zero_le _, rfl, rfl, HKW⟩
  case round =>
    obtain ⟨k, hk, rfl, rfl, hB⟩ := hrel
    have hki : ((k : Nat) : Int).toNat = k := by omega
    obtain ⟨f0, f1, f2, f3, f4, f5, f6⟩ := HF.out wr hB.out
    by_cases hlt : k < s.links.length
    · have hkl : (k : Int) < (s.links.length : Int) := by omega
      obtain ⟨⟨xa, xb, lat⟩, hx⟩ : ∃ x, s.links[k]? = some x := ⟨_, List.getElem?_eq_getElem hlt⟩
      have HLL := (HA.out wr hB.out).links
      obtain ⟨pb, po, hpe, -, -⟩ := HLL.at_ hx
      rw [hpe] at HLL f5
      obtain ⟨y0, y1, y2⟩ := rwLink HLL hx
      have HU := Lib.hid (lnk_take hx a b)
      obtain ⟨be, hbe⟩ : ∃ z, lnk (s.links.take k) a b = z := ⟨_, rfl⟩
      rw [hbe] at HU ⊢
      have HXX := Lib.hid hx
      have HBV := Lib.hid (hB.out.alloc hB.out.size (.cells #[.int .i64 xa, .int .i64 xb, .int .i64 lat] 119))
      clear HLL hx hpe hbe
      rcases h1 : (xa == a) with _ | _
      · have h1' : ¬ xa = a := by simpa using h1
        rcases h3 : (xa == b) with _ | _
        · have h3' : ¬ xa = b := by simpa using h3
          have HN := Lib.hid (show lnk (s.links.take (k + 1)) a b = be by rw [HU.out]; unfold upd; rw [if_neg (by rintro ⟨⟨g1, g2⟩ | ⟨g1, g2⟩, -⟩; exact h1' g1; exact h3' g1)])
          go_wp2_with (fail)
          go_roundw
          case rel => exact ⟨k + 1, by omega, by go_num, by rw [HN.out], HBV⟩
          case measure => simp only [intOf]; omega
        · rcases h4 : (xb == a) with _ | _
          · have h4' : ¬ xb = a := by simpa using h4
            have HN := Lib.hid (show lnk (s.links.take (k + 1)) a b = be by rw [HU.out]; unfold upd; rw [if_neg (by rintro ⟨⟨g1, g2⟩ | ⟨g1, g2⟩, -⟩; exact h1' g1; exact h4' g2)])
            go_wp2_with (fail)
            go_roundw
            case rel => exact ⟨k + 1, by omega, by go_num, by rw [HN.out], HBV⟩
            case measure => simp only [intOf]; omega
          · skip
            rcases h5 : decide (be < 0) with _ | _
            · rcases h6 : decide (lat < be) with _ | _
              · have h5' := of_decide_eq_false h5
                have h6' := of_decide_eq_false h6
                have HN := Lib.hid (show lnk (s.links.take (k + 1)) a b = be by rw [HU.out]; unfold upd; rw [if_neg (by rintro ⟨-, h | h⟩; exact h5' h; exact h6' h)])
                go_wp2_with (fail)
                go_roundw
                case rel => exact ⟨k + 1, by omega, by go_num, by rw [HN.out], HBV⟩
                case measure => simp only [intOf]; omega
              · have h6' := of_decide_eq_true h6
                have HN := Lib.hid (show lnk (s.links.take (k + 1)) a b = lat by rw [HU.out]; unfold upd; rw [if_pos ⟨.inr ⟨by simpa using h3, by simpa using h4⟩, .inr h6'⟩])
                go_wp2_with (fail)
                go_roundw
                case rel => exact ⟨k + 1, by omega, by go_num, by rw [HN.out], HBV⟩
                case measure => simp only [intOf]; omega
            · have h5' := of_decide_eq_true h5
              have HN := Lib.hid (show lnk (s.links.take (k + 1)) a b = lat by rw [HU.out]; unfold upd; rw [if_pos ⟨.inr ⟨by simpa using h3, by simpa using h4⟩, .inl h5'⟩])
              go_wp2_with (fail)
              go_roundw
              case rel => exact ⟨k + 1, by omega, by go_num, by rw [HN.out], HBV⟩
              case measure => simp only [intOf]; omega
      · rcases h2 : (xb == b) with _ | _
        · have h2' : ¬ xb = b := by simpa using h2
          rcases h3 : (xa == b) with _ | _
          · have h3' : ¬ xa = b := by simpa using h3
            have HN := Lib.hid (show lnk (s.links.take (k + 1)) a b = be by rw [HU.out]; unfold upd; rw [if_neg (by rintro ⟨⟨g1, g2⟩ | ⟨g1, g2⟩, -⟩; exact h2' g2; exact h3' g1)])
            go_wp2_with (fail)
            go_roundw
            case rel => exact ⟨k + 1, by omega, by go_num, by rw [HN.out], HBV⟩
            case measure => simp only [intOf]; omega
          · rcases h4 : (xb == a) with _ | _
            · have h4' : ¬ xb = a := by simpa using h4
              have HN := Lib.hid (show lnk (s.links.take (k + 1)) a b = be by rw [HU.out]; unfold upd; rw [if_neg (by rintro ⟨⟨g1, g2⟩ | ⟨g1, g2⟩, -⟩; exact h2' g2; exact h4' g2)])
              go_wp2_with (fail)
              go_roundw
              case rel => exact ⟨k + 1, by omega, by go_num, by rw [HN.out], HBV⟩
              case measure => simp only [intOf]; omega
            · skip
              rcases h5 : decide (be < 0) with _ | _
              · rcases h6 : decide (lat < be) with _ | _
                · have h5' := of_decide_eq_false h5
                  have h6' := of_decide_eq_false h6
                  have HN := Lib.hid (show lnk (s.links.take (k + 1)) a b = be by rw [HU.out]; unfold upd; rw [if_neg (by rintro ⟨-, h | h⟩; exact h5' h; exact h6' h)])
                  go_wp2_with (fail)
                  go_roundw
                  case rel => exact ⟨k + 1, by omega, by go_num, by rw [HN.out], HBV⟩
                  case measure => simp only [intOf]; omega
                · have h6' := of_decide_eq_true h6
                  have HN := Lib.hid (show lnk (s.links.take (k + 1)) a b = lat by rw [HU.out]; unfold upd; rw [if_pos ⟨.inr ⟨by simpa using h3, by simpa using h4⟩, .inr h6'⟩])
                  go_wp2_with (fail)
                  go_roundw
                  case rel => exact ⟨k + 1, by omega, by go_num, by rw [HN.out], HBV⟩
                  case measure => simp only [intOf]; omega
              · have h5' := of_decide_eq_true h5
                have HN := Lib.hid (show lnk (s.links.take (k + 1)) a b = lat by rw [HU.out]; unfold upd; rw [if_pos ⟨.inr ⟨by simpa using h3, by simpa using h4⟩, .inl h5'⟩])
                go_wp2_with (fail)
                go_roundw
                case rel => exact ⟨k + 1, by omega, by go_num, by rw [HN.out], HBV⟩
                case measure => simp only [intOf]; omega
        · skip
          rcases h5 : decide (be < 0) with _ | _
          · rcases h6 : decide (lat < be) with _ | _
            · have h5' := of_decide_eq_false h5
              have h6' := of_decide_eq_false h6
              have HN := Lib.hid (show lnk (s.links.take (k + 1)) a b = be by rw [HU.out]; unfold upd; rw [if_neg (by rintro ⟨-, h | h⟩; exact h5' h; exact h6' h)])
              go_wp2_with (fail)
              go_roundw
              case rel => exact ⟨k + 1, by omega, by go_num, by rw [HN.out], HBV⟩
              case measure => simp only [intOf]; omega
            · have h6' := of_decide_eq_true h6
              have HN := Lib.hid (show lnk (s.links.take (k + 1)) a b = lat by rw [HU.out]; unfold upd; rw [if_pos ⟨.inl ⟨by simpa using h1, by simpa using h2⟩, .inr h6'⟩])
              go_wp2_with (fail)
              go_roundw
              case rel => exact ⟨k + 1, by omega, by go_num, by rw [HN.out], HBV⟩
              case measure => simp only [intOf]; omega
          · have h5' := of_decide_eq_true h5
            have HN := Lib.hid (show lnk (s.links.take (k + 1)) a b = lat by rw [HU.out]; unfold upd; rw [if_pos ⟨.inl ⟨by simpa using h1, by simpa using h2⟩, .inl h5'⟩])
            go_wp2_with (fail)
            go_roundw
            case rel => exact ⟨k + 1, by omega, by go_num, by rw [HN.out], HBV⟩
            case measure => simp only [intOf]; omega
    · obtain rfl : k = s.links.length := by omega
      have HE := Lib.hid (show lnk (s.links.take s.links.length) a b = r by rw [List.take_length]; exact HR.out)
      go_wp2_with (fail)
      go_ret
      exact ⟨(show Ending.returned (.int .i64 (lnk (s.links.take s.links.length) a b)) = .returned (.int .i64 r) by rw [HE.out]), below_join HB.out hB.out hle⟩
def hasI (l : List Int) (x : Int) : Bool := l.any (fun y => y == x)
set_option maxHeartbeats 4000000 in
theorem c_has (x : Int) (A : Option Addr) (c : Nat) (l : List Int) (w : World) (h : Rw 1 inF w A c l) (r : Bool) (hr : hasI l x = r) :
    Calls Tryz.prog 164 #[.slice A l.length c, .int .i64 x] w fun e w' => e = .returned (.bool r) ∧ Below w.heap.size w w' := by
  have H := Lib.hid h
  have HR := Lib.hid hr
  have k1 := h.1; have k2 := h.2.1
  unfold maxLen at k2
  clear h hr
  go_enter Tryz.func164, Tryz.ntmps164
  go_wp2_with (fail)
  go_loopw [5] (fun i wr => ∃ k : Nat, k ≤ l.length ∧ i = .int .i64 (k : Int) ∧ Hid (Below w.heap.size w wr) ∧ Hid ((l.take k).any (fun y => y == x) = false)) (fun i _ => l.length - (intOf i).toNat)
  case atStart => exact ⟨0, Nat.zero_le _, rfl, Lib.hid (Below.refl _ _), Lib.hid rfl⟩
  case round =>
    obtain ⟨k, hk, rfl, hB, hall⟩ := hrel
    have hki : ((k : Nat) : Int).toNat = k := by omega
    by_cases hlt : k < l.length
    · obtain ⟨y, hy⟩ : ∃ y, l[k]? = some y := ⟨_, List.getElem?_eq_getElem hlt⟩
      have HK := H.out.on hB.out (Nat.le_refl _)
      obtain ⟨b, o, rfl, -, -⟩ := HK.at_ hy
      have x0 := inRw HK hy
      have hkl : (k : Int) < (l.length : Int) := by omega
      have HY := Lib.hid hy
      clear HK hy
      rcases h1 : (y == x) with _ | _
      · have HN := Lib.hid (show (l.take (k + 1)).any (fun y => y == x) = false by rw [List.take_add_one, HY.out, List.any_append, hall.out]; simpa using h1)
        go_wp2_with (fail)
        go_roundw
        case rel => exact ⟨k + 1, by omega, by go_num, hB, HN⟩
        case measure => simp only [intOf]; omega
      · obtain rfl : true = r := by
          rw [← HR.out]
          unfold hasI
          symm
          rw [List.any_eq_true]
          exact ⟨y, List.mem_of_getElem? HY.out, h1⟩
        go_wp2_with (fail)
        go_ret
        exact ⟨rfl, hB.out⟩
    · obtain rfl : k = l.length := by omega
      obtain rfl : false = r := by rw [← HR.out]; have := hall.out; rw [List.take_length] at this; exact this.symm
      go_wp2_with (fail)
      go_ret
      exact ⟨rfl, hB.out⟩
end Go.Proofs.YtbbadnlaelgmlaaGreat

namespace Go.Proofs.YtbbadnlaelgmlaaGreat
open Go.RowKit
set_option maxRecDepth 100000
set_option linter.unusedVariables false
set_option linter.unusedSimpArgs false

theorem rw_news {w : World} {b of c : Nat} {l : List Int} (h : Rw 1 inF w (some ⟨b, of, none⟩) c l) : ∀ (j : Nat) (u : Value), (ints l)[j]? = some u → w.cell? ((⟨b, of, none⟩ : Addr).add j) = some u := by
  intro j u hj
  unfold ints at hj
  rw [List.getElem?_map] at hj
  cases hx : l[j]? with
  | none => rw [hx] at hj; cases hj
  | some x =>
    rw [hx] at hj
    injection hj with hj
    subst hj
    have e : (⟨b, of, none⟩ : Addr).add j = ⟨b, of + j, none⟩ := by unfold Addr.add; split <;> simp_all
    rw [e]
    exact inRw h hx
theorem ints_one (l : List Int) : ∀ u ∈ ints l, u.oneCell' = true := by intro u hu; obtain ⟨x, -, rfl⟩ := List.mem_map.1 hu; rfl
theorem hasI_nats (l : List Nat) (x : Nat) : hasI (nats l) (x : Int) = decide (x ∈ l) := by
  rw [Bool.eq_iff_iff, decide_eq_true_iff]
  unfold hasI nats
  rw [List.any_eq_true]
  constructor
  · rintro ⟨y, hy, e⟩
    obtain ⟨z, hz, rfl⟩ := List.mem_map.1 hy
    have : (z : Int) = (x : Int) := eq_of_beq e
    have e2 : z = x := by omega
    rw [← e2]; exact hz
  · intro h
    exact ⟨(x : Int), List.mem_map.2 ⟨x, h, rfl⟩, beq_self_eq_true _⟩
/-- The answer of the search. -/
def BsPost (w : World) (F : List Nat × Int) (e : Ending) (w' : World) : Prop := ∃ v, e = .returned (.tuple #[v, .int .i64 F.2]) ∧ w'.ownsRow w.heap.size 3 1 v (nats F.1).length (ints (nats F.1)) ∧ Below w.heap.size w w'
structure WyOk (n f : Nat) (pre : List Nat) (u : Nat) (len : Int) : Prop where
  nd : (pre ++ [u]).Nodup
  lt : ∀ v ∈ pre ++ [u], v < n
  fu : n ≤ pre.length + 1 + f
  l0 : 0 ≤ len
  l1 : len ≤ 1000000 * (pre.length : Int)
  n8 : n ≤ 8
theorem WyOk.len {n f u : Nat} {pre : List Nat} {len : Int} (h : WyOk n f pre u len) : pre.length < 8 := by
  have h1 : u ∉ pre := fun hu => by
    have := List.nodup_append.1 h.nd
    exact this.2.2 u hu u (by simp) rfl
  have := nodup_full (N := n) (l := pre) (List.nodup_append.1 h.nd).1 (fun x hx => h.lt x (by simp [hx])) (h.lt u (by simp)) h1
  have := h.n8
  omega
theorem WyOk.next {n f u k : Nat} {pre : List Nat} {len st : Int} (h : WyOk n (f + 1) pre u len) (hk : k < n) (hn : k ∉ pre ++ [u]) (h0 : 0 ≤ st) (h1 : st ≤ 1000000) : WyOk n f (pre ++ [u]) k (len + st) := by
  refine ⟨?_, ?_, ?_, ?_, ?_, h.n8⟩
  · rw [List.nodup_append]
    exact ⟨h.nd, by simp, fun a ha b hb => by simp at hb; subst hb; exact fun e => hn (e ▸ ha)⟩
  · intro v hv
    rw [List.mem_append] at hv
    rcases hv with hv | hv
    · exact h.lt v hv
    · simp at hv; omega
  · have := h.fu; simp; omega
  · have := h.l0; omega
  · have := h.l1; simp; omega
theorem WyOk.more {n f u k : Nat} {pre : List Nat} {len : Int} (h : WyOk n f pre u len) (hk : k < n) (hn : k ∉ pre ++ [u]) : ∃ f', f = f' + 1 := by
  have := nodup_full h.nd h.lt hk hn
  have h2 := h.fu
  rw [List.length_append, List.length_singleton] at this
  exact ⟨f - 1, by omega⟩
set_option maxHeartbeats 64000000 in
theorem c_best (p : SP) (s : SiteD) (hs : siteOk s = true) (b : Nat) : ∀ (f u : Nat) (pre : List Nat) (len : Int) (A : Option Addr) (c : Nat) (w : World), WyOk (nS s) f pre u len → SiAt w p s → Rw 1 inF w A c (nats (pre ++ [u])) →
    Calls Tryz.prog 162 #[siV p s, .slice A (nats (pre ++ [u])).length c, .int .i64 (b : Int), .int .i64 len] w (BsPost w (fnd (pre ++ [u]) len (bst (nS s) (lkN s) b f (pre ++ [u]).reverse u))) := by
  intro f
  induction f using Nat.strongRecOn with
  | ind f ih =>
    intro u pre len A c w hok h hw
    have HIH := Lib.hid ih
    have HOK := Lib.hid hok
    have hpl := hok.len
    have hl0 := hok.l0; have hl1 := hok.l1
    have hu8 : u < nS s := hok.lt u (by simp)
    have hwl : (nats (pre ++ [u])).length = pre.length + 1 := by rw [nats_len]; simp
    obtain ⟨m, hm⟩ : ∃ m, pre.length = m := ⟨_, rfl⟩
    rw [hm] at hwl hpl hl1
    have hat : (nats (pre ++ [u]))[m]? = some (u : Int) := by rw [← hm]; simp [nats]
    obtain ⟨ab, ao, hA, hab, -⟩ := hw.at_ hat
    rw [hA] at hw
    have hwb := hw.2.1
    have hwa := hw.1
    unfold maxLen at hwb
    have HWY := Lib.hid hw
    have HAB := Lib.hid hab
    have xat := inRw hw hat
    rw [hA]
    obtain ⟨F0, hF0⟩ : ∃ F, fnd (pre ++ [u]) len (bst (nS s) (lkN s) b f (pre ++ [u]).reverse u) = F := ⟨_, rfl⟩
    rw [hF0]
    have HF0 := Lib.hid hF0
    have HWL := Lib.hid hwl
    have HM := Lib.hid hm
    obtain ⟨nw, hnw⟩ : ∃ n, (nats (pre ++ [u])).length = n := ⟨_, rfl⟩
    rw [hnw] at hwl hwa ⊢
    have HNW := Lib.hid hnw
    have hw1 : IntKind.i64.wrap ((nw : Int) - 1) = (m : Int) := by rw [hwl, show ((m + 1 : Nat) : Int) - 1 = (m : Int) by omega]; exact wrap_in (by omega) (by omega)
    have hm2 : (m : Int) < (nw : Int) := by omega
    have hm3 : (0 : Int) ≤ (m : Int) := by omega
    have hm4 : ((m : Nat) : Int).toNat = m := by omega
    have hnw9 : nw ≤ 9 := by omega
    have hnw0 : 0 < nw := by omega
    unfold siV
    clear hF0 hA hw hat ih hok hm hnw hwl
    obtain ⟨W, h1⟩ : ∃ W, W = w.alloc (.cells #[.slice p.a1 s.feeds.length p.c1, .slice p.a2 s.brks.length p.c2, .slice p.a3 s.loops.length p.c3, .slice p.a4 s.racks.length p.c4, .int .i64 s.sw, .slice p.a5 s.links.length p.c5, .slice p.a6 s.hosts.length p.c6] 29) := ⟨_, rfl⟩
    have z1 : W.heap.size = w.heap.size + 1 := by rw [h1, World.size_alloc]
    have B1 : Below w.heap.size w W := by rw [h1]; exact (Below.refl _ _).alloc (Nat.le_refl _) _
    have X1 : SiBox W w.heap.size p s := by rw [h1]; exact siBox_new _ _ _
    have HB := Lib.hid B1
    have HZ := Lib.hid z1
    have HA := Lib.hid (fun (X : World) (hX : Below W.heap.size W X) => (h.on B1 (Nat.le_refl _)).on hX (Nat.le_refl _))
    have HF := Lib.hid (fun (X : World) (hX : Below W.heap.size W X) => (let z := X1.on hX (Nat.le_refl _); ⟨z.c0, z.c1, z.c2, z.c3, z.c4, z.c5, z.c6⟩ : X.cell? ⟨w.heap.size, 0, none⟩ = some (.slice p.a1 s.feeds.length p.c1) ∧ X.cell? ⟨w.heap.size, 1, none⟩ = some (.slice p.a2 s.brks.length p.c2) ∧ X.cell? ⟨w.heap.size, 2, none⟩ = some (.slice p.a3 s.loops.length p.c3) ∧ X.cell? ⟨w.heap.size, 3, none⟩ = some (.slice p.a4 s.racks.length p.c4) ∧ X.cell? ⟨w.heap.size, 4, none⟩ = some (.int .i64 s.sw) ∧ X.cell? ⟨w.heap.size, 5, none⟩ = some (.slice p.a5 s.links.length p.c5) ∧ X.cell? ⟨w.heap.size, 6, none⟩ = some (.slice p.a6 s.hosts.length p.c6)))
    have HX := Lib.hid (fun (X : World) (hX : Below W.heap.size W X) => X1.on hX (Nat.le_refl _))
    have HKW := Lib.hid (Below.refl W.heap.size W)
    have hle := HB.out.size
    have n0 := h.feeds.1; have m0 := h.feeds.2.1
    have n1 := h.brks.1; have m1 := h.brks.2.1
    have n2 := h.loops.1; have m2 := h.loops.2.1
    have n3 := h.racks.1; have m3 := h.racks.2.1
    have n4 := h.links.1; have m4 := h.links.2.1
    have n5 := h.hosts.1; have m5 := h.hosts.2.1
    unfold maxLen at m0 m1 m2 m3 m4 m5
    have HXA := Lib.hid (fun (X : World) (hX : Below w.heap.size w X) => (hX.cell (p := ⟨ab, ao + m, none⟩) hab).trans xat)
    have HWX := Lib.hid (fun (X : World) (hX : Below w.heap.size w X) => HWY.out.on hX (Nat.le_refl _))
    clear xat
    clear h z1 B1 X1
    obtain ⟨f0, f1, f2, f3, f4, f5, f6⟩ := HF.out W HKW.out
    rw [h1] at f0 f1 f2 f3 f4 f5 f6
    generalize hBB : w.heap.size = B at *
    go_enter Tryz.func162, Tryz.ntmps162
    have xat := HXA.out W HB.out
    rw [h1] at xat
    by_cases hub : u = b
    · have hub2 : ((u : Int) == (b : Int)) = true := by simp; omega
      have HF1 := Lib.hid (show F0 = (pre ++ [u], len) by rw [← HF0.out, bst_below, if_pos hub]; unfold fnd; simp)
      obtain ⟨i1, hi1, hz1, hz2, hz3⟩ := info_parts int_info
      have HNS := Lib.hid (rw_news (HWX.out W HB.out))
      have hle3 := HB.out.size
      go_wp2_with (at_builtin; rw [← h1]; refine wpList_append_lies _ rfl _ _ 91 rfl W.heap.size 3 i1 (.int .i64 0) 1 8 Tryz.underlying91 hi1 hz1 hz2 hz3 rfl (by decide) (.slice none 0 0) 0 [] rfl (World.ownsRow_nil _ _ _ _) ⟨ab, ao, none⟩ nw c (ints (nats (pre ++ [u]))) rfl (by rw [← HNW.out]; simp [ints]) HNS.out (ints_one _) hnw0 (by unfold maxLen; omega) (by omega) (Nat.le_refl _) W.heap.size rfl ?_; intro g4 cap4 Z hown hgrow _ _; have HBZ := Lib.hid ((Below.refl W.heap.size W).grown hgrow (Nat.le_refl _) (fun k hk => by cases hk)); have HOZ := Lib.hid hown; clear hown hgrow h1 xat f0 f1 f2 f3 f4 f5 f6)
      go_ret2
      rw [HF1.out]
      subst hBB
      refine ⟨.slice (some ⟨g4, 0, none⟩) (0 + nw) cap4, ?_, ?_, below_join HB.out HBZ.out hle⟩
      · simp
      · have h2 := own_mono HOZ.out hle
        rw [List.nil_append, Nat.zero_add] at h2
        rw [Nat.zero_add, HNW.out]
        exact h2
    · have hub2 : ((u : Int) == (b : Int)) = false := by simp; omega
      have HUB := Lib.hid hub
      clear hub
      obtain ⟨hl1', hn8, hns, -⟩ := sk hs
      have HLO := Lib.hid hl1'
      have HF1 := Lib.hid (show F0 = fnd (pre ++ [u]) len (bstL (nS s) (lkN s) (below (nS s) (lkN s) b f) (pre ++ [u]).reverse u (nS s)) by rw [← HF0.out, bst_below, if_neg HUB.out])
      rw [← hns] at f4
      go_wp2_with (fail)
      rw [← h1]
      clear h1 xat f0 f1 f2 f3 f4 f5 f6 hl1'
      have HS0 := Lib.hid (show W.ownsRow W.heap.size 3 1 (.slice none 0 0) (nats (fnd (pre ++ [u]) len (bstL (nS s) (lkN s) (below (nS s) (lkN s) b f) (pre ++ [u]).reverse u 0)).1).length (ints (nats (fnd (pre ++ [u]) len (bstL (nS s) (lkN s) (below (nS s) (lkN s) b f) (pre ++ [u]).reverse u 0)).1)) from World.ownsRow_nil _ _ _ _)
      go_loopw [12, 13, 14] (fun v le i wr => ∃ k : Nat, k ≤ nS s ∧ i = .int .i64 (k : Int) ∧ le = .int .i64 (fnd (pre ++ [u]) len (bstL (nS s) (lkN s) (below (nS s) (lkN s) b f) (pre ++ [u]).reverse u k)).2 ∧ Hid (Below W.heap.size W wr) ∧ Hid (wr.ownsRow W.heap.size 3 1 v (nats (fnd (pre ++ [u]) len (bstL (nS s) (lkN s) (below (nS s) (lkN s) b f) (pre ++ [u]).reverse u k)).1).length (ints (nats (fnd (pre ++ [u]) len (bstL (nS s) (lkN s) (below (nS s) (lkN s) b f) (pre ++ [u]).reverse u k)).1)))) (fun _ _ i _ => nS s - (intOf i).toNat)
      case atStart => exact ⟨0, Nat.zero_le _, rfl, rfl, HKW, HS0⟩
      case round =>
        obtain ⟨k, hk, rfl, rfl, hB, ho⟩ := hrel
        have hki : ((k : Nat) : Int).toNat = k := by omega
        obtain ⟨f0, f1, f2, f3, f4, f5, f6⟩ := HF.out wr hB.out
        obtain ⟨Fk, hFk⟩ : ∃ F, fnd (pre ++ [u]) len (bstL (nS s) (lkN s) (below (nS s) (lkN s) b f) (pre ++ [u]).reverse u k) = F := ⟨_, rfl⟩
        rw [hFk] at ho ⊢
        have HFK := Lib.hid hFk
        clear hFk
        by_cases hlt : k < nS s
        · have hkl : (k : Int) < s.sw := by omega
          obtain ⟨st, hst⟩ : ∃ z, lkN s u k = z := ⟨_, rfl⟩
          have HST := Lib.hid hst
          have HCL := Lib.hid (c_link p s (u : Int) (k : Int) st hst wr (HA.out wr hB.out))
          unfold siV at HCL
          have hstt := HLO.out.top u k
          rw [hst] at hstt
          clear hst
          go_wp2_with (fail)
          go_at_call 163
          refine HCL.out.mono ?_
          rintro e v1 ⟨rfl, bb⟩
          have HB1 := Lib.hid (below_join hB.out bb hB.out.size)
          have HO1 := Lib.hid (own_on ho.out bb (Nat.le_refl _))
          clear bb f0 f1 f2 f3 f4 f5 f6
          rcases hs0 : decide (st < 0) with _ | _
          rotate_left
          · have hs1 := of_decide_eq_true hs0
            have HN := Lib.hid (show fnd (pre ++ [u]) len (bstL (nS s) (lkN s) (below (nS s) (lkN s) b f) (pre ++ [u]).reverse u (k + 1)) = Fk by rw [bstL, if_pos (.inl (by rw [HST.out]; exact hs1)), HFK.out])
            go_wp2_with (fail)
            go_roundw
            case rel => exact ⟨k + 1, by omega, by go_num, by rw [HN.out], HB1, by rw [HN.out]; exact HO1⟩
            case measure => simp only [intOf]; omega
          have hs1 : 0 ≤ st := by have := of_decide_eq_false hs0; omega
          obtain ⟨hb, hhb⟩ : ∃ r, hasI (nats (pre ++ [u])) (k : Int) = r := ⟨_, rfl⟩
          have HHB := Lib.hid hhb
          have HCH := Lib.hid (c_has (k : Int) (some ⟨ab, ao, none⟩) c (nats (pre ++ [u])) v1 (HWX.out v1 (by subst hBB; exact below_join HB.out HB1.out hle)) hb hhb)
          rw [HNW.out] at HCH
          clear hhb
          go_wp2_with (fail)
          go_at_call 164
          refine HCH.out.mono ?_
          rintro e v2 ⟨rfl, bb⟩
          have HB2 := Lib.hid (below_join HB1.out bb HB1.out.size)
          have HO2 := Lib.hid (own_on HO1.out bb (Nat.le_refl _))
          clear bb
          cases hb
          rotate_left
          · have HN := Lib.hid (show fnd (pre ++ [u]) len (bstL (nS s) (lkN s) (below (nS s) (lkN s) b f) (pre ++ [u]).reverse u (k + 1)) = Fk by
              have h := HHB.out
              rw [hasI_nats, decide_eq_true_iff] at h
              rw [bstL, if_pos (.inr (List.mem_reverse.2 h)), HFK.out])
            go_wp2_with (fail)
            go_roundw
            case rel => exact ⟨k + 1, by omega, by go_num, by rw [HN.out], HB2, by rw [HN.out]; exact HO2⟩
            case measure => simp only [intOf]; omega
          have HNM := Lib.hid (show k ∉ pre ++ [u] by
            have h := HHB.out
            rw [hasI_nats, decide_eq_false_iff_not] at h
            exact h)
          obtain ⟨f', hf'⟩ := WyOk.more HOK.out hlt HNM.out
          subst hf'
          have HOK2 := Lib.hid (WyOk.next HOK.out hlt HNM.out hs1 hstt)
          have HNS := Lib.hid (rw_news (HWX.out v2 (by subst hBB; exact below_join HB.out HB2.out hle)))
          obtain ⟨i1, hi1, hz1, hz2, hz3⟩ := info_parts int_info
          go_wp2_with (at_builtin; refine wpList_append_lies _ rfl _ _ 91 rfl v2.heap.size 3 i1 (.int .i64 0) 1 8 Tryz.underlying91 hi1 hz1 hz2 hz3 rfl (by decide) (.slice none 0 0) 0 [] rfl (World.ownsRow_nil _ _ _ _) ⟨ab, ao, none⟩ nw c (ints (nats (pre ++ [u]))) rfl (by rw [← HNW.out]; simp [ints]) HNS.out (ints_one _) hnw0 (by unfold maxLen; omega) (by omega) (Nat.le_refl _) v2.heap.size rfl ?_; intro g4 cap4 Z hown hgrow _ _; have HBZ := Lib.hid ((Below.refl v2.heap.size v2).grown hgrow (Nat.le_refl _) (fun k hk => by cases hk)); have HOZ := Lib.hid hown; clear hown hgrow)
          have HBZ2 := Lib.hid (below_join HB2.out HBZ.out HB2.out.size)
          have HOZ2 := Lib.hid (own_on HO2.out HBZ.out (Nat.le_refl _))
          obtain ⟨f0, f1, f2, f3, f4, f5, f6⟩ := HF.out Z HBZ2.out
          obtain ⟨X1, hX1⟩ : ∃ X, X = Z.alloc (.cells #[.int .i64 (k : Int)] 3) := ⟨_, rfl⟩
          have bX1 : Below Z.heap.size Z X1 := by rw [hX1]; exact (Below.refl _ _).alloc (Nat.le_refl _) _
          have hz1' : X1.heap.size = Z.heap.size + 1 := by rw [hX1, World.size_alloc]
          have HN1 := Lib.hid (show X1.heap[Z.heap.size]? = some (.cells #[.int .i64 (k : Int)] 3 (0, 0)) by rw [hX1]; exact heap_alloc_new _ _)
          have HO1X := Lib.hid (own_on HOZ.out bX1 (Nat.le_refl _))
          have HX1B := Lib.hid (below_join HBZ.out bX1 HBZ.out.size)
          clear bX1
          refine wp_region_held_drew (S := fun X => X.cell? ⟨B, 0, none⟩ = some (.slice p.a1 s.feeds.length p.c1) ∧ X.cell? ⟨B, 1, none⟩ = some (.slice p.a2 s.brks.length p.c2) ∧ X.cell? ⟨B, 2, none⟩ = some (.slice p.a3 s.loops.length p.c3) ∧ X.cell? ⟨B, 3, none⟩ = some (.slice p.a4 s.racks.length p.c4) ∧ X.cell? ⟨B, 4, none⟩ = some (.int .i64 s.sw) ∧ X.cell? ⟨B, 5, none⟩ = some (.slice p.a5 s.links.length p.c5) ∧ X.cell? ⟨B, 6, none⟩ = some (.slice p.a6 s.hosts.length p.c6)) (by kernel_rfl) (HF.out Z.drew HBZ2.out.drew) (fun hHeld => ?_)
          refine takeH (i := 0) 53 (v := ?_) rfl rfl (by kernel_rfl) (by kernel_rfl) (by kernel_rfl) (fun _ _ _ h => h) (by rfl) ?_ hHeld ?_
          rotate_left
          · intro X hX; (try dsimp only at hX); (first | (go_simp; done) | (go_simp; with_reducible rfl))
          try simp only [Act.put, List.setIfInBounds_toArray, List.set_cons_zero, List.set_cons_succ]
          refine takeH (i := 1) 54 (v := ?_) rfl rfl (by kernel_rfl) (by kernel_rfl) (by kernel_rfl) (fun _ _ _ h => h) (by rfl) ?_ hHeld ?_
          rotate_left
          · intro X hX; (try dsimp only at hX); (first | (go_simp; done) | (go_simp; with_reducible rfl))
          try simp only [Act.put, List.setIfInBounds_toArray, List.set_cons_zero, List.set_cons_succ]
          refine takeH (i := 2) 55 (v := ?_) rfl rfl (by kernel_rfl) (by kernel_rfl) (by kernel_rfl) (fun _ _ _ h => h) (by rfl) ?_ hHeld ?_
          rotate_left
          · intro X hX; (try dsimp only at hX); (first | (go_simp; done) | (go_simp; with_reducible rfl))
          try simp only [Act.put, List.setIfInBounds_toArray, List.set_cons_zero, List.set_cons_succ]
          refine takeH (i := 5) 58 (v := ?_) rfl rfl (by kernel_rfl) (by kernel_rfl) (by kernel_rfl) (fun _ _ _ h => h) (by rfl) ?_ hHeld ?_
          rotate_left
          · intro X hX; (try dsimp only at hX); (first | (go_simp; done) | (go_simp; with_reducible rfl))
          try simp only [Act.put, List.setIfInBounds_toArray, List.set_cons_zero, List.set_cons_succ]
          refine takeH (i := 6) 59 (v := ?_) rfl rfl (by kernel_rfl) (by kernel_rfl) (by kernel_rfl) (fun _ _ _ h => h) (by rfl) ?_ hHeld ?_
          rotate_left
          · intro X hX; (try dsimp only at hX); (first | (go_simp; done) | (go_simp; with_reducible rfl))
          try simp only [Act.put, List.setIfInBounds_toArray, List.set_cons_zero, List.set_cons_succ]
          refine takeH (i := 7) 60 (v := ?_) rfl rfl (by kernel_rfl) (by kernel_rfl) (by kernel_rfl) (fun _ _ _ h => h) (by rfl) ?_ hHeld ?_
          rotate_left
          · intro X hX; (try dsimp only at hX); (first | (go_simp; done) | (go_simp; with_reducible rfl))
          try simp only [Act.put, List.setIfInBounds_toArray, List.set_cons_zero, List.set_cons_succ]
          refine takeH (i := 8) 61 (v := ?_) rfl rfl (by kernel_rfl) (by kernel_rfl) (by kernel_rfl) (fun _ _ _ h => h) (by rfl) ?_ hHeld ?_
          rotate_left
          · intro X hX; (try dsimp only at hX); (first | (go_simp; done) | (go_simp; with_reducible rfl))
          try simp only [Act.put, List.setIfInBounds_toArray, List.set_cons_zero, List.set_cons_succ]
          refine wpAnyH_ready (rs := [3]) (by kernel_rfl) (by simp) ?_
          refine AllReadyH.cons rfl (fun K hK => ?_) AllReadyH.nil
          go_simp
          rw [← hX1]
          refine hK.out _ _ (HF.out X1.drew (below_join HB2.out HX1B.out HB2.out.size).drew) (fun hHeld2 => ?_)
          clear hK K hHeld
          try simp only [Act.put, List.setIfInBounds_toArray, List.set_cons_zero, List.set_cons_succ]
          refine wpAnyH_ready (rs := [4]) (by kernel_rfl) (by simp) ?_
          refine AllReadyH.cons rfl (fun K hK => ?_) AllReadyH.nil
          refine step_append_lies _ rfl (.tmp 54) (.tmp 56) 91 rfl v2.heap.size 3 i1 (.int .i64 0) 1 8 Tryz.underlying91 hi1 hz1 hz2 hz3 rfl (by decide) (.slice (some ⟨g4, 0, none⟩) nw cap4) nw (ints (nats (pre ++ [u]))) (by simp [Act.eval, Act.put]) (show World.ownsRow X1.drew _ _ _ _ _ _ from by have h := HO1X.out; rw [List.nil_append, Nat.zero_add] at h; exact h) ⟨Z.heap.size, 0, none⟩ 1 1 [.int .i64 (k : Int)] (by simp [Act.eval, Act.put]) rfl (show ∀ j u, _ → World.cell? X1.drew _ = _ from World.news_of_block (w := X1.drew) HN1.out) (by simp [Value.oneCell']) (by decide) (by unfold maxLen; omega) (by omega) (show v2.heap.size ≤ X1.drew.heap.size from HX1B.out.size) (Z.heap.size + 1) (show X1.drew.heap.size = _ from hz1') ?_
          intro g5 cap5 Y4 hown hgrow0 _ _
          have HBY := Lib.hid (HX1B.out.drew.grown hgrow0 (show v2.heap.size ≤ X1.drew.heap.size from HX1B.out.size) (fun q e => (ownsRow_lt HO1X.out (by rw [Nat.zero_add]; exact e)).1))
          have HOY := Lib.hid (show Y4.ownsRow v2.heap.size 3 1 (.slice (some ⟨g5, 0, none⟩) (nw + 1) cap5) (nats ((pre ++ [u]) ++ [k])).length (ints (nats ((pre ++ [u]) ++ [k]))) by
            have e : (nats ((pre ++ [u]) ++ [k])).length = nw + 1 := by rw [nats_snoc, List.length_append, HNW.out]; rfl
            rw [e, nats_snoc, ints_snoc]
            exact hown)
          have HBW4 := Lib.hid (below_join HB2.out HBY.out HB2.out.size)
          clear hown hgrow0
          refine hK.out _ _ (HF.out Y4 HBW4.out) (fun hHeld => ?_)
          clear hK K hHeld2
          try simp only [Act.put, List.setIfInBounds_toArray, List.set_cons_zero, List.set_cons_succ]
          have HRY := Lib.hid (show Rw 1 inF Y4 (some ⟨g5, 0, none⟩) cap5 (nats ((pre ++ [u]) ++ [k])) by
            obtain ⟨A', c', e1, e2⟩ := own_rw HOY.out
            injection e1 with e1 _ e3
            subst e1 e3
            exact e2)
          have HCB := Lib.hid (HIH.out f' (by omega) k (pre ++ [u]) (len + st) (some ⟨g5, 0, none⟩) cap5 Y4 HOK2.out (HA.out Y4 HBW4.out) HRY.out)
          have e9 : (nats ((pre ++ [u]) ++ [k])).length = nw + 1 := by rw [nats_snoc, List.length_append, HNW.out]; rfl
          rw [e9] at HCB
          unfold siV at HCB
          obtain ⟨G, hG⟩ : ∃ G, fnd (pre ++ [u] ++ [k]) (len + st) (bst (nS s) (lkN s) b f' (pre ++ [u] ++ [k]).reverse k) = G := ⟨_, rfl⟩
          rw [hG] at HCB
          have HGG := Lib.hid hG
          clear e9 hG
          refine wpAnyH_ready (rs := [9]) (by kernel_rfl) (by simp) ?_
          refine AllReadyH.cons rfl (fun K hK => ?_) AllReadyH.nil
          go_simp
          rw [show IntKind.i64.wrap (len + st) = len + st from wrap_in (by omega) (by omega)]
          go_at_call 162
          refine HCB.out.mono ?_
          rintro e v3 ⟨v, rfl, ho3, bb⟩
          have HB3 := Lib.hid (below_join HBW4.out bb HBW4.out.size)
          have HO3 := Lib.hid ho3
          have HBY3 := Lib.hid (below_join HBY.out bb HBY.out.size)
          have hzz := HBW4.out.size
          clear bb ho3
          try dsimp only
          refine hK.out _ _ (HF.out v3 HB3.out) (fun hHeld2 => ?_)
          clear hK K hHeld
          have hHeld := hHeld2
          clear hHeld2
          try simp only [Act.put, List.setIfInBounds_toArray, List.set_cons_zero, List.set_cons_succ]
          refine takeH (i := 10) 52 (v := ?_) rfl rfl (by kernel_rfl) (by kernel_rfl) (by kernel_rfl) (fun _ _ _ h => h) (by rfl) ?_ hHeld ?_
          rotate_left
          · intro X hX; (try dsimp only at hX); (first | (go_simp; done) | (go_simp; with_reducible rfl))
          try simp only [Act.put, List.setIfInBounds_toArray, List.set_cons_zero, List.set_cons_succ]
          refine takeH (i := 11) 63 (v := ?_) rfl rfl (by kernel_rfl) (by kernel_rfl) (by kernel_rfl) (fun _ _ _ h => h) (by rfl) ?_ hHeld ?_
          rotate_left
          · intro X hX; (try dsimp only at hX); (first | (go_simp; done) | (go_simp; with_reducible rfl))
          try simp only [Act.put, List.setIfInBounds_toArray, List.set_cons_zero, List.set_cons_succ]
          refine takeH (i := 12) 64 (v := ?_) rfl rfl (by kernel_rfl) (by kernel_rfl) (by kernel_rfl) (fun _ _ _ h => h) (by rfl) ?_ hHeld ?_
          rotate_left
          · intro X hX; (try dsimp only at hX); (first | (go_simp; done) | (go_simp; with_reducible rfl))
          try simp only [Act.put, List.setIfInBounds_toArray, List.set_cons_zero, List.set_cons_succ]
          refine takeH (i := 13) 17 (v := ?_) rfl rfl (by kernel_rfl) (by kernel_rfl) (by kernel_rfl) (fun _ _ _ h => h) (by rfl) ?_ hHeld ?_
          rotate_left
          · intro X hX; (try dsimp only at hX); (first | (go_simp; done) | (go_simp; with_reducible rfl))
          try simp only [Act.put, List.setIfInBounds_toArray, List.set_cons_zero, List.set_cons_succ]
          refine takeH (i := 14) 18 (v := ?_) rfl rfl (by kernel_rfl) (by kernel_rfl) (by kernel_rfl) (fun _ _ _ h => h) (by rfl) ?_ hHeld ?_
          rotate_left
          · intro X hX; (try dsimp only at hX); (first | (go_simp; done) | (go_simp; with_reducible rfl))
          try simp only [Act.put, List.setIfInBounds_toArray, List.set_cons_zero, List.set_cons_succ]
          refine wpAnyH_done (by kernel_rfl) ?_ _
          have HEQ := Lib.hid (show fnd (pre ++ [u]) len (bstL (nS s) (lkN s) (below (nS s) (lkN s) b (f' + 1)) (pre ++ [u]).reverse u (k + 1)) = if 0 ≤ (fnd (pre ++ [u] ++ [k]) (len + st) (bst (nS s) (lkN s) b f' (pre ++ [u] ++ [k]).reverse k)).2 ∧ (Fk.2 < 0 ∨ (fnd (pre ++ [u] ++ [k]) (len + st) (bst (nS s) (lkN s) b f' (pre ++ [u] ++ [k]).reverse k)).2 < Fk.2) then fnd (pre ++ [u] ++ [k]) (len + st) (bst (nS s) (lkN s) b f' (pre ++ [u] ++ [k]).reverse k) else Fk by
            have hnv : ¬ (lkN s u k < 0 ∨ k ∈ (pre ++ [u]).reverse) := by
              rintro (h | h)
              · rw [HST.out] at h; omega
              · exact HNM.out (List.mem_reverse.1 h)
            rw [bstL, if_neg hnv, fnd_step (pre ++ [u]) len hl0 k (lkN s u k) _ _ (fun l m e => bstL_pos HLO.out (by omega) e) (fun l m e => below_pos HLO.out e) (by rw [HST.out]; exact hs1)]
            rw [HFK.out, HST.out]
            have e : (pre ++ [u] ++ [k]).reverse = k :: (pre ++ [u]).reverse := by simp
            rw [e]
            rfl)
          rw [HGG.out] at HEQ
          obtain ⟨g2, hg2⟩ : ∃ z, G.2 = z := ⟨_, rfl⟩
          obtain ⟨k2, hk2⟩ : ∃ z, Fk.2 = z := ⟨_, rfl⟩
          rw [hg2, hk2] at HEQ
          rw [hg2, hk2]
          have HG2 := Lib.hid hg2
          have HK2 := Lib.hid hk2
          have HO2' := Lib.hid (own_on HO2.out HBY3.out (Nat.le_refl _))
          have HO3' := Lib.hid (own_mono HO3.out hzz)
          clear hg2 hk2 f0 f1 f2 f3 f4 f5 f6 hHeld
          rcases hc1 : decide (0 ≤ g2) with _ | _
          · have hc1' := of_decide_eq_false hc1
            have HN := Lib.hid (show fnd (pre ++ [u]) len (bstL (nS s) (lkN s) (below (nS s) (lkN s) b (f' + 1)) (pre ++ [u]).reverse u (k + 1)) = Fk by rw [HEQ.out, if_neg (fun h => hc1' h.1)])
            go_wp2_with (fail)
            first
              | (go_roundw
                 case rel => exact ⟨k + 1, by omega, by go_num, by rw [HN.out, HK2.out], HB3, by rw [HN.out]; exact HO2'⟩
                 case measure => simp only [intOf]; omega)
              | (go_roundw
                 exact ⟨⟨k + 1, by omega, by go_num, by rw [HN.out, HK2.out], HB3, by rw [HN.out]; exact HO2'⟩, by simp only [intOf]; omega⟩)
          · have hc1' := of_decide_eq_true hc1
            rcases hc2 : decide (k2 < 0) with _ | _
            · have hc2' := of_decide_eq_false hc2
              rcases hc3 : decide (g2 < k2) with _ | _
              · have hc3' := of_decide_eq_false hc3
                have HN := Lib.hid (show fnd (pre ++ [u]) len (bstL (nS s) (lkN s) (below (nS s) (lkN s) b (f' + 1)) (pre ++ [u]).reverse u (k + 1)) = Fk by rw [HEQ.out, if_neg (by rintro ⟨-, h | h⟩; exact hc2' h; exact hc3' h)])
                go_wp2_with (fail)
                first
                  | (go_roundw
                     case rel => exact ⟨k + 1, by omega, by go_num, by rw [HN.out, HK2.out], HB3, by rw [HN.out]; exact HO2'⟩
                     case measure => simp only [intOf]; omega)
                  | (go_roundw
                     exact ⟨⟨k + 1, by omega, by go_num, by rw [HN.out, HK2.out], HB3, by rw [HN.out]; exact HO2'⟩, by simp only [intOf]; omega⟩)
              · have hc3' := of_decide_eq_true hc3
                have HN := Lib.hid (show fnd (pre ++ [u]) len (bstL (nS s) (lkN s) (below (nS s) (lkN s) b (f' + 1)) (pre ++ [u]).reverse u (k + 1)) = G by rw [HEQ.out, if_pos ⟨hc1', .inr hc3'⟩])
                go_wp2_with (fail)
                first
                  | (go_roundw
                     case rel => exact ⟨k + 1, by omega, by go_num, by rw [HN.out, HG2.out], HB3, by rw [HN.out]; exact HO3'⟩
                     case measure => simp only [intOf]; omega)
                  | (go_roundw
                     exact ⟨⟨k + 1, by omega, by go_num, by rw [HN.out, HG2.out], HB3, by rw [HN.out]; exact HO3'⟩, by simp only [intOf]; omega⟩)
            · have hc2' := of_decide_eq_true hc2
              have HN := Lib.hid (show fnd (pre ++ [u]) len (bstL (nS s) (lkN s) (below (nS s) (lkN s) b (f' + 1)) (pre ++ [u]).reverse u (k + 1)) = G by rw [HEQ.out, if_pos ⟨hc1', .inl hc2'⟩])
              go_wp2_with (fail)
              first
                | (go_roundw
                   case rel => exact ⟨k + 1, by omega, by go_num, by rw [HN.out, HG2.out], HB3, by rw [HN.out]; exact HO3'⟩
                   case measure => simp only [intOf]; omega)
                | (go_roundw
                   exact ⟨⟨k + 1, by omega, by go_num, by rw [HN.out, HG2.out], HB3, by rw [HN.out]; exact HO3'⟩, by simp only [intOf]; omega⟩)
        · obtain rfl : k = nS s := by omega
          have hkl : s.sw ≤ ((nS s : Nat) : Int) := by omega
          go_wp2_with (fail)
          go_ret2
          subst hBB
          rw [HF1.out, HFK.out]
          exact ⟨_, rfl, own_mono ho.out hle, below_join HB.out hB.out hle⟩
end Go.Proofs.YtbbadnlaelgmlaaGreat

namespace Go.Proofs.YtbbadnlaelgmlaaGreat
open Go.RowKit
set_option maxRecDepth 100000
set_option linter.unusedVariables false
set_option linter.unusedSimpArgs false

def kB (s : SiteD) (a b : Int) : Bool := siteOk s && (ixB a s.sw && ixB b s.sw)
set_option maxHeartbeats 16000000 in
theorem c_known (p : SP) (s : SiteD) (a b : Int) (r : Bool) (hr : kB s a b = r) (w : World) (h : SiAt w p s) :
    Calls Tryz.prog 161 #[siV p s, .int .i64 a, .int .i64 b] w fun e w' => e = .returned (.bool r) ∧ Below w.heap.size w w' := by
  unfold siV
  obtain ⟨W, h1⟩ : ∃ W, W = w.alloc (.cells #[.slice p.a1 s.feeds.length p.c1, .slice p.a2 s.brks.length p.c2, .slice p.a3 s.loops.length p.c3, .slice p.a4 s.racks.length p.c4, .int .i64 s.sw, .slice p.a5 s.links.length p.c5, .slice p.a6 s.hosts.length p.c6] 29) := ⟨_, rfl⟩
  have z1 : W.heap.size = w.heap.size + 1 := by rw [h1, World.size_alloc]
  have B1 : Below w.heap.size w W := by rw [h1]; exact (Below.refl _ _).alloc (Nat.le_refl _) _
  have X1 : SiBox W w.heap.size p s := by rw [h1]; exact siBox_new _ _ _
  have HB := Lib.hid B1
  have HZ := Lib.hid z1
  have HA := Lib.hid (fun (X : World) (hX : Below W.heap.size W X) => (h.on B1 (Nat.le_refl _)).on hX (Nat.le_refl _))
  have HF := Lib.hid (fun (X : World) (hX : Below W.heap.size W X) => (let z := X1.on hX (Nat.le_refl _); ⟨z.c0, z.c1, z.c2, z.c3, z.c4, z.c5, z.c6⟩ : X.cell? ⟨w.heap.size, 0, none⟩ = some (.slice p.a1 s.feeds.length p.c1) ∧ X.cell? ⟨w.heap.size, 1, none⟩ = some (.slice p.a2 s.brks.length p.c2) ∧ X.cell? ⟨w.heap.size, 2, none⟩ = some (.slice p.a3 s.loops.length p.c3) ∧ X.cell? ⟨w.heap.size, 3, none⟩ = some (.slice p.a4 s.racks.length p.c4) ∧ X.cell? ⟨w.heap.size, 4, none⟩ = some (.int .i64 s.sw) ∧ X.cell? ⟨w.heap.size, 5, none⟩ = some (.slice p.a5 s.links.length p.c5) ∧ X.cell? ⟨w.heap.size, 6, none⟩ = some (.slice p.a6 s.hosts.length p.c6)))
  have HX := Lib.hid (fun (X : World) (hX : Below W.heap.size W X) => X1.on hX (Nat.le_refl _))
  have HKW := Lib.hid (Below.refl W.heap.size W)
  have hle := HB.out.size
  have n0 := h.feeds.1; have m0 := h.feeds.2.1
  have n1 := h.brks.1; have m1 := h.brks.2.1
  have n2 := h.loops.1; have m2 := h.loops.2.1
  have n3 := h.racks.1; have m3 := h.racks.2.1
  have n4 := h.links.1; have m4 := h.links.2.1
  have n5 := h.hosts.1; have m5 := h.hosts.2.1
  unfold maxLen at m0 m1 m2 m3 m4 m5
  have HR := Lib.hid hr
  obtain ⟨r0, hr0⟩ : ∃ r, siteOk s = r := ⟨_, rfl⟩
  have HR0 := Lib.hid hr0
  clear hr hr0
  clear h z1 B1 X1
  obtain ⟨f0, f1, f2, f3, f4, f5, f6⟩ := HF.out W HKW.out
  rw [h1] at f0 f1 f2 f3 f4 f5 f6
  generalize hBB : w.heap.size = B at *
  go_enter Tryz.func161, Tryz.ntmps161
  go_wp2_with (fail)
  rw [← h1]
  clear h1 f0 f1 f2 f3 f4 f5 f6
  go_at_call 34
  refine (c_srValid p s r0 HR0.out W (HA.out W HKW.out)).mono ?_
  rintro e v1 ⟨rfl, bb⟩
  have HKv1 := Lib.hid (below_join HKW.out bb HKW.out.size)
  clear bb
  obtain ⟨f0, f1, f2, f3, f4, f5, f6⟩ := HF.out v1 HKv1.out
  cases r0
  · skip
    obtain rfl : false = r := by
      rw [← HR.out]
      unfold kB
      rw [HR0.out]
      rfl
    go_wp2_with (fail)
    go_ret
    exact ⟨rfl, below_join HB.out HKv1.out hle⟩
  rcases h1 : decide (0 ≤ a) with _ | _
  · skip
    obtain rfl : false = r := by
      rw [← HR.out]
      unfold kB
      rw [HR0.out]
      unfold ixB; rw [h1]; rfl
    go_wp2_with (fail)
    go_ret
    exact ⟨rfl, below_join HB.out HKv1.out hle⟩
  rcases h2 : decide (a < s.sw) with _ | _
  · skip
    obtain rfl : false = r := by
      rw [← HR.out]
      unfold kB
      rw [HR0.out]
      unfold ixB; rw [h1, h2]; rfl
    go_wp2_with (fail)
    go_ret
    exact ⟨rfl, below_join HB.out HKv1.out hle⟩
  rcases h3 : decide (0 ≤ b) with _ | _
  · skip
    obtain rfl : false = r := by
      rw [← HR.out]
      unfold kB
      rw [HR0.out]
      unfold ixB; rw [h1, h2, h3]; rfl
    go_wp2_with (fail)
    go_ret
    exact ⟨rfl, below_join HB.out HKv1.out hle⟩
  obtain rfl : decide (b < s.sw) = r := by
    rw [← HR.out]
    unfold kB
    rw [HR0.out]
    unfold ixB; rw [h1, h2, h3]; rfl
  go_wp2_with (fail)
  go_ret
  exact ⟨rfl, below_join HB.out HKv1.out hle⟩
theorem wyOk_one {s : SiteD} (hs : siteOk s = true) {a : Nat} (ha : a < nS s) : WyOk (nS s) (nS s - 1) [] a 0 :=
  ⟨by simp, by simpa using ha, by simp; omega, Int.le_refl _, by simp, (sk hs).2.1⟩
theorem fnd_one {s : SiteD} (hs : siteOk s = true) {a b : Nat} (ha : a < nS s) (hb : b < nS s) : fnd [a] 0 (bst (nS s) (lkN s) b (nS s - 1) [a] a) = (if 0 ≤ dS s a b then wyS s a b else [], dS s a b) := by
  have h := dS_ge hs a b
  by_cases hd : 0 ≤ dS s a b
  · rw [bst_way (sk hs).1 ha hb hd, if_pos hd]
    show ([a] ++ wayV (nS s) (lkN s) a b, 0 + dV (nS s) (lkN s) a b) = _
    rw [Int.zero_add]
    rfl
  · rw [bst_noway (sk hs).1 (show dV (nS s) (lkN s) a b < 0 by unfold dS at hd; omega), if_neg hd]
    show (([] : List Nat), (-1 : Int)) = _
    rw [show dS s a b = -1 by omega]
theorem c_bestOne (p : SP) {s : SiteD} (hs : siteOk s = true) {a b : Nat} (ha : a < nS s) (hb : b < nS s) (A : Option Addr) (w : World) (h : SiAt w p s) (hw : Rw 1 inF w A 1 [(a : Int)]) :
    Calls Tryz.prog 162 #[siV p s, .slice A 1 1, .int .i64 (b : Int), .int .i64 0] w fun e w' => ∃ v, e = .returned (.tuple #[v, .int .i64 (dS s a b)]) ∧ w'.ownsRow w.heap.size 3 1 v (nats (if 0 ≤ dS s a b then wyS s a b else [])).length (ints (nats (if 0 ≤ dS s a b then wyS s a b else []))) ∧ Below w.heap.size w w' := by
  have h1 := c_best p s hs b (nS s - 1) a [] 0 A 1 w (wyOk_one hs ha) h hw
  refine h1.mono ?_
  rintro e w' ⟨v, e1, e2, e3⟩
  have h2 : fnd ([] ++ [a]) 0 (bst (nS s) (lkN s) b (nS s - 1) ([] ++ [a]).reverse a) = _ := fnd_one hs ha hb
  rw [h2] at e1 e2
  exact ⟨v, e1, e2, e3⟩

set_option maxHeartbeats 16000000 in
theorem c_nrDistance (p : SP) (s : SiteD) (a b : Int) (r : Int) (hr : distI s a b = r) (w : World) (h : SiAt w p s) :
    Calls Tryz.prog 142 #[siV p s, .int .i64 a, .int .i64 b] w fun e w' => e = .returned (.int .i64 r) ∧ Below w.heap.size w w' := by
  unfold siV
  obtain ⟨W, h1⟩ : ∃ W, W = w.alloc (.cells #[.slice p.a1 s.feeds.length p.c1, .slice p.a2 s.brks.length p.c2, .slice p.a3 s.loops.length p.c3, .slice p.a4 s.racks.length p.c4, .int .i64 s.sw, .slice p.a5 s.links.length p.c5, .slice p.a6 s.hosts.length p.c6] 29) := ⟨_, rfl⟩
  have z1 : W.heap.size = w.heap.size + 1 := by rw [h1, World.size_alloc]
  have B1 : Below w.heap.size w W := by rw [h1]; exact (Below.refl _ _).alloc (Nat.le_refl _) _
  have X1 : SiBox W w.heap.size p s := by rw [h1]; exact siBox_new _ _ _
  have HB := Lib.hid B1
  have HZ := Lib.hid z1
  have HA := Lib.hid (fun (X : World) (hX : Below W.heap.size W X) => (h.on B1 (Nat.le_refl _)).on hX (Nat.le_refl _))
  have HF := Lib.hid (fun (X : World) (hX : Below W.heap.size W X) => (let z := X1.on hX (Nat.le_refl _); ⟨z.c0, z.c1, z.c2, z.c3, z.c4, z.c5, z.c6⟩ : X.cell? ⟨w.heap.size, 0, none⟩ = some (.slice p.a1 s.feeds.length p.c1) ∧ X.cell? ⟨w.heap.size, 1, none⟩ = some (.slice p.a2 s.brks.length p.c2) ∧ X.cell? ⟨w.heap.size, 2, none⟩ = some (.slice p.a3 s.loops.length p.c3) ∧ X.cell? ⟨w.heap.size, 3, none⟩ = some (.slice p.a4 s.racks.length p.c4) ∧ X.cell? ⟨w.heap.size, 4, none⟩ = some (.int .i64 s.sw) ∧ X.cell? ⟨w.heap.size, 5, none⟩ = some (.slice p.a5 s.links.length p.c5) ∧ X.cell? ⟨w.heap.size, 6, none⟩ = some (.slice p.a6 s.hosts.length p.c6)))
  have HX := Lib.hid (fun (X : World) (hX : Below W.heap.size W X) => X1.on hX (Nat.le_refl _))
  have HKW := Lib.hid (Below.refl W.heap.size W)
  have hle := HB.out.size
  have n0 := h.feeds.1; have m0 := h.feeds.2.1
  have n1 := h.brks.1; have m1 := h.brks.2.1
  have n2 := h.loops.1; have m2 := h.loops.2.1
  have n3 := h.racks.1; have m3 := h.racks.2.1
  have n4 := h.links.1; have m4 := h.links.2.1
  have n5 := h.hosts.1; have m5 := h.hosts.2.1
  unfold maxLen at m0 m1 m2 m3 m4 m5
  have HR := Lib.hid hr
  obtain ⟨r0, hr0⟩ : ∃ r, kB s a b = r := ⟨_, rfl⟩
  have HR0 := Lib.hid hr0
  clear hr hr0
  clear h z1 B1 X1
  obtain ⟨f0, f1, f2, f3, f4, f5, f6⟩ := HF.out W HKW.out
  rw [h1] at f0 f1 f2 f3 f4 f5 f6
  generalize hBB : w.heap.size = B at *
  go_enter Tryz.func142, Tryz.ntmps142
  go_wp2_with (fail)
  rw [← h1]
  clear h1 f0 f1 f2 f3 f4 f5 f6
  go_at_call 161
  refine (c_known p s a b r0 HR0.out W (HA.out W HKW.out)).mono ?_
  rintro e v602 ⟨rfl, bb⟩
  have HKv602 := Lib.hid (below_join HKW.out bb HKW.out.size)
  clear bb
  cases r0
  · skip
    go_wp2_with (fail)
    obtain rfl : -1 = r := by
      rw [← HR.out]
      unfold distI
      rw [if_neg (by rintro ⟨h1, h2, h3⟩; have h := HR0.out; unfold kB at h; rw [h1, h2, h3] at h; cases h)]
    go_ret
    exact ⟨rfl, below_join HB.out HKv602.out hle⟩
  have hk := HR0.out
  unfold kB at hk
  rw [Bool.and_eq_true, Bool.and_eq_true, ixB_iff, ixB_iff] at hk
  obtain ⟨hs, hab⟩ := hk
  obtain ⟨-, -, hn3, -⟩ := sk hs
  obtain ⟨ua, rfl⟩ : ∃ u : Nat, a = u := ⟨a.toNat, by omega⟩
  obtain ⟨ub, rfl⟩ : ∃ u : Nat, b = u := ⟨b.toNat, by omega⟩
  have hua : ua < nS s := by omega
  have hub : ub < nS s := by omega
  have HDI := Lib.hid (distI_is hs hua hub)
  have HS := Lib.hid hs
  clear hab hn3 hs
  obtain ⟨X753, hX753⟩ : ∃ X, X = v602.alloc (.cells #[.int .i64 (ua : Int)] 3) := ⟨_, rfl⟩
  have b753 : Below v602.heap.size v602 X753 := by subst hX753; exact (Below.refl _ _).alloc (Nat.le_refl _) _
  have HKX753 := Lib.hid (below_join HKv602.out b753 HKv602.out.size)
  have RLX753 := Lib.hid (show Rw 1 inF X753 (some ⟨v602.heap.size, 0, none⟩) 1 [(ua : Int)] by subst hX753; exact rw_lit [(ua : Int)] (by simp [maxLen]) _)
  clear b753
  obtain ⟨f0, f1, f2, f3, f4, f5, f6⟩ := HF.out v602 HKv602.out
  go_wp2_with (fail)
  rw [← hX753]
  clear hX753
  clear f0 f1 f2 f3 f4 f5 f6
  go_at_call 162
  refine (c_bestOne p HS.out hua hub (some ⟨v602.heap.size, 0, none⟩) X753 (HA.out X753 HKX753.out) RLX753.out).mono ?_
  rintro e v754 ⟨v, rfl, ho, bb⟩
  have HKv754 := Lib.hid (below_join HKX753.out bb HKX753.out.size)
  have RLv754 := Lib.hid (RLX753.out.on bb (Nat.le_refl _))
  have HOv754 := Lib.hid ho; have hzz := HKX753.out.size; clear ho
  clear bb
  go_wp2_with (fail)
  obtain rfl : dS s ua ub = r := by rw [← HR.out, HDI.out]
  go_ret
  exact ⟨rfl, below_join HB.out HKv754.out hle⟩
end Go.Proofs.YtbbadnlaelgmlaaGreat

namespace Go.Proofs.YtbbadnlaelgmlaaGreat
open Go.RowKit
set_option maxRecDepth 100000
set_option linter.unusedVariables false
set_option linter.unusedSimpArgs false

theorem latI_is {s : SiteD} (hs : siteOk s = true) {a b : Nat} (ha : a < s.hosts.length) (hb : b < s.hosts.length) : latI s a b = laS s a b := by
  unfold latI
  rw [if_pos ⟨hs, ixB_iff.2 (by omega), ixB_iff.2 (by omega)⟩]
  rfl
set_option maxHeartbeats 16000000 in
theorem c_nrLatency (p : SP) (s : SiteD) (a b r : Int) (hr : latI s a b = r) (w : World) (h : SiAt w p s) :
    Calls Tryz.prog 109 #[siV p s, .int .i64 a, .int .i64 b] w fun e w' => e = .returned (.int .i64 r) ∧ Below w.heap.size w w' := by
  have HH0 := Lib.hid h
  unfold siV
  obtain ⟨W, h1⟩ : ∃ W, W = w.alloc (.cells #[.slice p.a1 s.feeds.length p.c1, .slice p.a2 s.brks.length p.c2, .slice p.a3 s.loops.length p.c3, .slice p.a4 s.racks.length p.c4, .int .i64 s.sw, .slice p.a5 s.links.length p.c5, .slice p.a6 s.hosts.length p.c6] 29) := ⟨_, rfl⟩
  have z1 : W.heap.size = w.heap.size + 1 := by rw [h1, World.size_alloc]
  have B1 : Below w.heap.size w W := by rw [h1]; exact (Below.refl _ _).alloc (Nat.le_refl _) _
  have X1 : SiBox W w.heap.size p s := by rw [h1]; exact siBox_new _ _ _
  have HB := Lib.hid B1
  have HZ := Lib.hid z1
  have HA := Lib.hid (fun (X : World) (hX : Below W.heap.size W X) => (h.on B1 (Nat.le_refl _)).on hX (Nat.le_refl _))
  have HF := Lib.hid (fun (X : World) (hX : Below W.heap.size W X) => (let z := X1.on hX (Nat.le_refl _); ⟨z.c0, z.c1, z.c2, z.c3, z.c4, z.c5, z.c6⟩ : X.cell? ⟨w.heap.size, 0, none⟩ = some (.slice p.a1 s.feeds.length p.c1) ∧ X.cell? ⟨w.heap.size, 1, none⟩ = some (.slice p.a2 s.brks.length p.c2) ∧ X.cell? ⟨w.heap.size, 2, none⟩ = some (.slice p.a3 s.loops.length p.c3) ∧ X.cell? ⟨w.heap.size, 3, none⟩ = some (.slice p.a4 s.racks.length p.c4) ∧ X.cell? ⟨w.heap.size, 4, none⟩ = some (.int .i64 s.sw) ∧ X.cell? ⟨w.heap.size, 5, none⟩ = some (.slice p.a5 s.links.length p.c5) ∧ X.cell? ⟨w.heap.size, 6, none⟩ = some (.slice p.a6 s.hosts.length p.c6)))
  have HX := Lib.hid (fun (X : World) (hX : Below W.heap.size W X) => X1.on hX (Nat.le_refl _))
  have HKW := Lib.hid (Below.refl W.heap.size W)
  have hle := HB.out.size
  have n0 := h.feeds.1; have m0 := h.feeds.2.1
  have n1 := h.brks.1; have m1 := h.brks.2.1
  have n2 := h.loops.1; have m2 := h.loops.2.1
  have n3 := h.racks.1; have m3 := h.racks.2.1
  have n4 := h.links.1; have m4 := h.links.2.1
  have n5 := h.hosts.1; have m5 := h.hosts.2.1
  unfold maxLen at m0 m1 m2 m3 m4 m5
  have HR := Lib.hid hr
  obtain ⟨r0, hr0⟩ : ∃ r, siteOk s = r := ⟨_, rfl⟩
  have HR0 := Lib.hid hr0
  clear hr hr0
  clear h z1 B1 X1
  obtain ⟨f0, f1, f2, f3, f4, f5, f6⟩ := HF.out W HKW.out
  rw [h1] at f0 f1 f2 f3 f4 f5 f6
  generalize hBB : w.heap.size = B at *
  go_enter Tryz.func109, Tryz.ntmps109
  go_wp2_with (fail)
  rw [← h1]
  clear h1 f0 f1 f2 f3 f4 f5 f6
  go_at_call 34
  refine (c_srValid p s r0 HR0.out W (HA.out W HKW.out)).mono ?_
  rintro e v1 ⟨rfl, bb⟩
  have HKv1 := Lib.hid (below_join HKW.out bb HKW.out.size)
  clear bb
  obtain ⟨f0, f1, f2, f3, f4, f5, f6⟩ := HF.out v1 HKv1.out
  cases r0
  · skip
    obtain rfl : -1 = r := by
      rw [← HR.out]
      unfold latI
      rw [if_neg (by rw [HR0.out]; simp)]
    go_wp2_with (fail)
    go_ret
    exact ⟨rfl, below_join HB.out HKv1.out hle⟩
  rcases g0 : decide (a < 0) with _ | _
  rotate_left
  · skip
    have g0' := of_decide_eq_true g0
    obtain rfl : -1 = r := by
      rw [← HR.out]
      unfold latI
      rw [if_neg (by rintro ⟨-, g, -⟩; have := (ixB_iff.1 g).1; omega)]
    go_wp2_with (fail)
    go_ret
    exact ⟨rfl, below_join HB.out HKv1.out hle⟩
  have g0' := of_decide_eq_false g0
  rcases g1 : decide ((s.hosts.length : Int) ≤ a) with _ | _
  rotate_left
  · skip
    have g1' := of_decide_eq_true g1
    obtain rfl : -1 = r := by
      rw [← HR.out]
      unfold latI
      rw [if_neg (by rintro ⟨-, g, -⟩; have := (ixB_iff.1 g).2; omega)]
    go_wp2_with (fail)
    go_ret
    exact ⟨rfl, below_join HB.out HKv1.out hle⟩
  have g1' := of_decide_eq_false g1
  rcases g2 : decide (b < 0) with _ | _
  rotate_left
  · skip
    have g2' := of_decide_eq_true g2
    obtain rfl : -1 = r := by
      rw [← HR.out]
      unfold latI
      rw [if_neg (by rintro ⟨-, -, g⟩; have := (ixB_iff.1 g).1; omega)]
    go_wp2_with (fail)
    go_ret
    exact ⟨rfl, below_join HB.out HKv1.out hle⟩
  have g2' := of_decide_eq_false g2
  rcases g3 : decide ((s.hosts.length : Int) ≤ b) with _ | _
  rotate_left
  · skip
    have g3' := of_decide_eq_true g3
    obtain rfl : -1 = r := by
      rw [← HR.out]
      unfold latI
      rw [if_neg (by rintro ⟨-, -, g⟩; have := (ixB_iff.1 g).2; omega)]
    go_wp2_with (fail)
    go_ret
    exact ⟨rfl, below_join HB.out HKv1.out hle⟩
  have g3' := of_decide_eq_false g3
  obtain ⟨ua, rfl⟩ : ∃ u : Nat, a = u := ⟨a.toNat, by omega⟩
  obtain ⟨ub, rfl⟩ : ∃ u : Nat, b = u := ⟨b.toNat, by omega⟩
  have hua : ua < s.hosts.length := by omega
  have hub : ub < s.hosts.length := by omega
  have HRL := Lib.hid (show laS s ua ub = r by rw [← HR.out, latI_is HR0.out hua hub])
  rcases hab0 : ((ua : Int) == (ub : Int)) with _ | _
  rotate_left
  · skip
    have hab : ua = ub := by have : (ua : Int) = (ub : Int) := by simpa using hab0
                             omega
    obtain rfl : 0 = r := by rw [← HRL.out]; unfold laS; rw [if_pos hab]
    go_wp2_with (fail)
    go_ret
    exact ⟨rfl, below_join HB.out HKv1.out hle⟩
  have hab : ua ≠ ub := by have : ¬ (ua : Int) = (ub : Int) := by simpa using hab0
                           omega
  obtain ⟨d, hd⟩ : ∃ d, dS s (swOf s ua) (swOf s ub) = d := ⟨_, rfl⟩
  have HRR := Lib.hid (show (if d < 0 then -1 else 1 + d) = r by rw [← HRL.out, ← hd]; unfold laS; rw [if_neg hab])
  have hdr := dS_ge HR0.out (swOf s ua) (swOf s ub)
  rw [hd] at hdr
  obtain ⟨ma, ⟨xa0, xa1, xa2, xa3⟩, ⟨ya0, ya1, ya2, ya3⟩, ea1, ea2, ea3, ea4, ea5, ea6⟩ := sw_ok HR0.out hua
  obtain ⟨mb, ⟨xb0, xb1, xb2, xb3⟩, ⟨yb0, yb1, yb2, yb3⟩, eb1, eb2, eb3, eb4, eb5, eb6⟩ := sw_ok HR0.out hub
  simp only at ea2 ea5 eb2 eb5
  have HDI := Lib.hid (show distI s ((swOf s ua : Nat) : Int) ((swOf s ub : Nat) : Int) = d by rw [distI_is HR0.out ea6 eb6]; exact hd)
  subst ea2 eb2 ea5 eb5
  have HCD := Lib.hid (fun (X : World) (hX : Below W.heap.size W X) => c_nrDistance p s _ _ d HDI.out X (HA.out X hX))
  unfold siV at HCD
  obtain ⟨b1, o1, e1, hb1, -⟩ := HH0.out.hosts.at_ ea1
  obtain ⟨b2, o2, e2, hb2, -⟩ := HH0.out.racks.at_ ea4
  have k1 := HH0.out.hosts; have k2 := HH0.out.racks
  rw [e1] at k1
  rw [e2] at k2
  obtain ⟨q1, -, -, -⟩ := rwHost k1 ea1
  obtain ⟨q2, -, -, -⟩ := rwHost k1 eb1
  obtain ⟨-, -, -, q3⟩ := rwRack k2 ea4
  obtain ⟨-, -, -, q4⟩ := rwRack k2 eb4
  have HQ := Lib.hid (fun (X : World) (hX : Below W.heap.size W X) => (have hj := below_join HB.out hX hle; by
    subst hBB
    exact ⟨(hj.cell (p := ⟨b1, o1 + ua * 4, none⟩) hb1).trans q1, (hj.cell (p := ⟨b1, o1 + ub * 4, none⟩) hb1).trans q2, (hj.cell (p := ⟨b2, o2 + ma * 4 + 3, none⟩) hb2).trans q3, (hj.cell (p := ⟨b2, o2 + mb * 4 + 3, none⟩) hb2).trans q4⟩ : X.cell? ⟨b1, o1 + ua * 4, none⟩ = some (.int .i64 (ma : Int)) ∧ X.cell? ⟨b1, o1 + ub * 4, none⟩ = some (.int .i64 (mb : Int)) ∧ X.cell? ⟨b2, o2 + ma * 4 + 3, none⟩ = some (.int .i64 ((swOf s ua : Nat) : Int)) ∧ X.cell? ⟨b2, o2 + mb * 4 + 3, none⟩ = some (.int .i64 ((swOf s ub : Nat) : Int))))
  have l1 : ((ua : Nat) : Int).toNat = ua := by omega
  have l2 : ((ub : Nat) : Int).toNat = ub := by omega
  have l3 : ((ma : Nat) : Int).toNat = ma := by omega
  have l4 : ((mb : Nat) : Int).toNat = mb := by omega
  have l5 : (ua : Int) < (s.hosts.length : Int) := by omega
  have l6 : (ub : Int) < (s.hosts.length : Int) := by omega
  have l7 : (ma : Int) < (s.racks.length : Int) := by omega
  have l8 : (mb : Int) < (s.racks.length : Int) := by omega
  have HF2 := Lib.hid HF.out
  rw [e1, e2] at HF2 HCD
  rw [e2] at f3
  rw [e1] at f6
  rw [e1, e2]
  have HSS := Lib.hid (fun (X : World) (hX : Below W.heap.size W X) => (⟨HF2.out X hX, HQ.out X hX⟩ : (X.cell? ⟨B, 0, none⟩ = some (.slice p.a1 s.feeds.length p.c1) ∧ X.cell? ⟨B, 1, none⟩ = some (.slice p.a2 s.brks.length p.c2) ∧ X.cell? ⟨B, 2, none⟩ = some (.slice p.a3 s.loops.length p.c3) ∧ X.cell? ⟨B, 3, none⟩ = some (.slice (some ⟨b2, o2, none⟩) s.racks.length p.c4) ∧ X.cell? ⟨B, 4, none⟩ = some (.int .i64 s.sw) ∧ X.cell? ⟨B, 5, none⟩ = some (.slice p.a5 s.links.length p.c5) ∧ X.cell? ⟨B, 6, none⟩ = some (.slice (some ⟨b1, o1, none⟩) s.hosts.length p.c6)) ∧ X.cell? ⟨b1, o1 + ua * 4, none⟩ = some (.int .i64 (ma : Int)) ∧ X.cell? ⟨b1, o1 + ub * 4, none⟩ = some (.int .i64 (mb : Int)) ∧ X.cell? ⟨b2, o2 + ma * 4 + 3, none⟩ = some (.int .i64 ((swOf s ua : Nat) : Int)) ∧ X.cell? ⟨b2, o2 + mb * 4 + 3, none⟩ = some (.int .i64 ((swOf s ub : Nat) : Int))))
  obtain ⟨q1, q2, q3, q4⟩ := HQ.out v1 HKv1.out
  clear k1 k2 hd ea1 ea4 eb1 eb4 e1 e2
  go_wp2_with (fail)
  go_region_held3 (fun X => (X.cell? ⟨B, 0, none⟩ = some (.slice p.a1 s.feeds.length p.c1) ∧ X.cell? ⟨B, 1, none⟩ = some (.slice p.a2 s.brks.length p.c2) ∧ X.cell? ⟨B, 2, none⟩ = some (.slice p.a3 s.loops.length p.c3) ∧ X.cell? ⟨B, 3, none⟩ = some (.slice (some ⟨b2, o2, none⟩) s.racks.length p.c4) ∧ X.cell? ⟨B, 4, none⟩ = some (.int .i64 s.sw) ∧ X.cell? ⟨B, 5, none⟩ = some (.slice p.a5 s.links.length p.c5) ∧ X.cell? ⟨B, 6, none⟩ = some (.slice (some ⟨b1, o1, none⟩) s.hosts.length p.c6)) ∧ X.cell? ⟨b1, o1 + ua * 4, none⟩ = some (.int .i64 (ma : Int)) ∧ X.cell? ⟨b1, o1 + ub * 4, none⟩ = some (.int .i64 (mb : Int)) ∧ X.cell? ⟨b2, o2 + ma * 4 + 3, none⟩ = some (.int .i64 ((swOf s ua : Nat) : Int)) ∧ X.cell? ⟨b2, o2 + mb * 4 + 3, none⟩ = some (.int .i64 ((swOf s ub : Nat) : Int)))
    (first | exact HSS.out v902 HKv902.out | exact HSS.out v1 HKv1.out | fail)
    (first
      | (go_at_call 142; (with_reducible refine (HCD.out v1.drew HKv1.out.drew).mono ?_); rintro e v902 ⟨rfl, bb0⟩; have bb := below_join (Below.refl v1.heap.size v1).drew bb0 (Nat.le_refl _); have HKv902 := Lib.hid (below_join HKv1.out bb HKv1.out.size); clear bb bb0)
      | fail)
  clear f0 f1 f2 f3 f4 f5 f6 q1 q2 q3 q4
  rcases hd0 : decide (d < 0) with _ | _
  · skip
    have hd1 := of_decide_eq_false hd0
    obtain rfl : 1 + d = r := by rw [← HRR.out, if_neg hd1]
    go_wp2_with (fail)
    go_ret
    exact ⟨(show Ending.returned (.int .i64 (d + 1)) = .returned (.int .i64 (1 + d)) by rw [Int.add_comm]), below_join HB.out HKv902.out hle⟩
  · skip
    have hd1 := of_decide_eq_true hd0
    obtain rfl : -1 = r := by rw [← HRR.out, if_pos hd1]
    go_wp2_with (fail)
    go_ret
    exact ⟨rfl, below_join HB.out HKv902.out hle⟩
noncomputable def wrF (s : SiteD) (a most : Int) (k : Nat) : Bool := decide (0 ≤ latI s a k) && decide (latI s a k ≤ most)
noncomputable def wrL (s : SiteD) (a most : Int) (k : Nat) : List Nat := (List.range k).filter (wrF s a most)
theorem wrL_is (s : SiteD) (a most : Int) : wrL s a most s.hosts.length = witI s a most := by
  unfold wrL witI
  split
  · rename_i h
    have hi := ixB_iff.1 h.2
    unfold wiL
    refine List.filter_congr fun k hk => ?_
    have hk2 := List.mem_range.1 hk
    unfold wrF wiF
    have e : latI s a k = laS s a.toNat k := by
      have := latI_is h.1 (a := a.toNat) (b := k) (by omega) hk2
      rwa [show ((a.toNat : Nat) : Int) = a by omega] at this
    rw [e]
    simp
  · rename_i h
    rw [List.filter_eq_nil_iff]
    intro k hk g
    unfold wrF at g
    have e : latI s a k = -1 := by
      unfold latI
      rw [if_neg (by rintro ⟨h1, h2, h3⟩; exact h ⟨h1, h2⟩)]
    rw [e] at g
    simp at g
end Go.Proofs.YtbbadnlaelgmlaaGreat
