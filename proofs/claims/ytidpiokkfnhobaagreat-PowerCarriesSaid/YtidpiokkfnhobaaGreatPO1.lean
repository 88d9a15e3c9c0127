/-
  DERIVED. Several texts in one.
-/
import Derived.Test.YtidpiokkfnhobaaGreatPB1
import Derived.Test.YtidpiokkfnhobaaGreatPV53
import Derived.Test.YtidpiokkfnhobaaGreatPB4
import Derived.Test.YtidpiokkfnhobaaGreatPB3
import Derived.BigQuiet
import Derived.RegionTactic
import Derived.Deep.RegionHeld3
set_option linter.unusedVariables false
set_option linter.unusedSimpArgs false

namespace Go.Proofs.YtidpiokkfnhobaaGreat
set_option linter.unusedVariables false
set_option linter.unusedSimpArgs false

theorem sumN_le {f g : Nat → Int} : ∀ {n : Nat}, (∀ i, i < n → f i ≤ g i) → sumN f n ≤ sumN g n := by
  intro n
  induction n with
  | zero => intro _; exact Int.le_refl _
  | succ n ih =>
    intro h
    have h1 := ih fun i hi => h i (by omega)
    have h2 := h n (by omega)
    rw [sumN, sumN]; omega
theorem sumN_mul (c : Int) (f : Nat → Int) (n : Nat) : sumN (fun i => c * f i) n = c * sumN f n := by
  induction n with
  | zero => simp [sumN]
  | succ n ih => rw [sumN, sumN, ih, Int.mul_add]
/-- Sums in either order. -/
theorem sumN_swap (f : Nat → Nat → Int) (n m : Nat) : sumN (fun i => sumN (fun j => f i j) m) n = sumN (fun j => sumN (fun i => f i j) n) m := by
  induction n with
  | zero => simp only [sumN]; exact (sumN_zero m).symm
  | succ n ih => rw [sumN, ih, ← sumN_add]; rfl
theorem sumN_if (c : Prop) [Decidable c] (f : Nat → Int) (n : Nat) : (if c then sumN f n else 0) = sumN (fun i => if c then f i else 0) n := by
  split
  · rfl
  · exact (sumN_zero n).symm
theorem sumN_at {f : Nat → Int} {a n : Nat} (ha : a < n) (hf : ∀ i, i < n → i ≠ a → f i = 0) : sumN f n = f a := by
  have h1 : sumN f n = sumN (fun i => if a = i then f a else 0) n := sumN_ext fun i hi => by
    by_cases e : a = i
    · subst e; rw [if_pos rfl]
    · rw [if_neg e]; exact hf i hi (fun h => e h.symm)
  rw [h1, sumN_one, if_pos ha]
/-- What is summed by groups is summed. -/
theorem sumN_group (c : Nat → Bool) (g : Nat → Int) (w : Nat → Int) (n m : Nat) (hg : ∀ h, h < n → 0 ≤ g h ∧ g h < m) :
    sumN (fun j => if c j = true then sumN (fun h => if g h = (j : Int) then w h else 0) n else 0) m = sumN (fun h => if c (g h).toNat = true then w h else 0) n := by
  rw [sumN_ext (g := fun j => sumN (fun h => if c j = true then (if g h = (j : Int) then w h else 0) else 0) n) (fun j _ => sumN_if _ _ _), sumN_swap]
  refine sumN_ext fun h hh => ?_
  have hb := hg h hh
  rw [sumN_at (a := (g h).toNat) (by omega) (fun j hj hne => by
    split
    · rw [if_neg (by omega)]
    · rfl)]
  split
  · rw [if_pos (by omega)]
  · rfl
/-- The watts of a host. -/
def hsAt (s : SiteD) (h : Nat) : Hs := (s.hosts[h]?).getD ⟨0, 0, 0, 0⟩
def phAt (d : WorldD) (h : Nat) : Nat := ((d.hosts[h]?).map (·.phase)).getD 0
def watN (s : SiteD) (ss : List Svc) (d : WorldD) (h : Nat) : Int := if phAt d h = 4 then 0 else (hsAt s h).idle + (hsAt s h).per * usedD ss d.reps (h : Int)
def brkAt (s : SiteD) (h : Nat) : Int := (rkAt s h).brk
/-- The sum over the hosts that belong to it. -/
def loadN (s : SiteD) (ss : List Svc) (d : WorldD) (b : Nat → Bool) : Int := sumN (fun h => if b h = true then watN s ss d h else 0) s.hosts.length
def isHost (k : Int) (h : Nat) : Bool := (h : Int) == k
def isRack (s : SiteD) (k : Int) (h : Nat) : Bool := rackAt s h == k
def isBrk (s : SiteD) (k : Int) (h : Nat) : Bool := brkAt s h == k
def isFeed (s : SiteD) (k : Int) (h : Nat) : Bool := feedAt s h == k
theorem hsAt_eq {s : SiteD} {h : Nat} {x : Hs} (hx : s.hosts[h]? = some x) : hsAt s h = x := by unfold hsAt; rw [hx]; rfl
theorem phAt_eq {d : WorldD} {h : Nat} {x : Hst} (hx : d.hosts[h]? = some x) : phAt d h = x.phase := by unfold phAt; rw [hx]; rfl
section
variable {s : SiteD} {ss : List Svc} {d : WorldD}
theorem host_ok (ok : WorldOk s ss d) {h : Nat} (hh : h < s.hosts.length) : ∃ x y, s.hosts[h]? = some x ∧ d.hosts[h]? = some y ∧ (0 ≤ x.rack ∧ x.rack < s.racks.length) ∧ (0 ≤ x.idle ∧ x.idle ≤ 10000) ∧ (0 ≤ x.per ∧ x.per ≤ 1000) := by
  have h1 := siteOk_iff.1 ok.1
  have hl := ok.2.2.1
  have hm := h1.hosts _ (List.getElem_mem hh)
  exact ⟨_, _, List.getElem?_eq_getElem hh, List.getElem?_eq_getElem (by omega), hm.1, hm.2.2.1, hm.2.2.2⟩
theorem used_bd (ok : WorldOk s ss d) (h : Int) : 0 ≤ usedD ss d.reps h ∧ usedD ss d.reps h ≤ 24000 := (sums_ok ok).2.2.1 h
theorem used_sum (ok : WorldOk s ss d) : sumN (fun i => usedD ss d.reps i) s.hosts.length ≤ 24000 := by
  obtain ⟨h1, h2, -, h4⟩ := sums_ok ok
  rw [← h2]
  have h5 : sumN (fun i => (((whereD d.reps i).length : Nat) : Int) * coresAt ss i) ss.length ≤ sumN (fun i => 1000 * (((whereD d.reps i).length : Nat) : Int)) ss.length := sumN_le fun i hi => by
    have := h4 i hi
    rw [Int.mul_comm 1000]
    exact Int.mul_le_mul_of_nonneg_left this.2 (by omega)
  rw [sumN_mul, h1] at h5
  have := ok.2.2.2.2.1
  omega
/-- How great the watts of a host can be. -/
def capN (ss : List Svc) (d : WorldD) (h : Nat) : Int := 10000 + 1000 * usedD ss d.reps (h : Int)
theorem wat_bd (ok : WorldOk s ss d) {h : Nat} (hh : h < s.hosts.length) : 0 ≤ watN s ss d h ∧ watN s ss d h ≤ capN ss d h ∧ watN s ss d h ≤ 24010000 := by
  obtain ⟨x, y, hx, hy, -, h2, h3⟩ := host_ok ok hh
  have hu := used_bd ok (h : Int)
  unfold watN capN
  rw [hsAt_eq hx]
  have p1 : 0 ≤ x.per * usedD ss d.reps (h : Int) := Int.mul_nonneg h3.1 hu.1
  have p2 : x.per * usedD ss d.reps (h : Int) ≤ 1000 * usedD ss d.reps (h : Int) := Int.mul_le_mul_of_nonneg_right h3.2 hu.1
  split <;> omega
theorem cap_sum (ok : WorldOk s ss d) : sumN (capN ss d) s.hosts.length ≤ 24160000 := by
  have h0 : sumN (capN ss d) s.hosts.length = sumN (fun _ => 10000) s.hosts.length + 1000 * sumN (fun h => usedD ss d.reps (h : Int)) s.hosts.length := by
    rw [← sumN_mul, ← sumN_add]; rfl
  have h1 := used_sum ok
  have h2 := (siteOk_iff.1 ok.1).nhosts
  have h3 := sumN_bound (f := fun _ => 10000) (m := 10000) (n := s.hosts.length) (fun _ _ => ⟨by omega, by omega⟩)
  omega
/-- A load is at least 0 and less than the greatest capacity of an arc. -/
theorem load_bd (ok : WorldOk s ss d) (b : Nat → Bool) : 0 ≤ loadN s ss d b ∧ loadN s ss d b ≤ 24160000 := by
  unfold loadN
  have h1 := sumN_bound (f := fun h => if b h = true then watN s ss d h else 0) (m := 24010000) (n := s.hosts.length) (fun i hi => by have := wat_bd ok hi; split <;> omega)
  have h2 := sumN_le (f := fun h => if b h = true then watN s ss d h else 0) (g := capN ss d) (n := s.hosts.length) (fun i hi => by have := wat_bd ok hi; have := used_bd ok (i : Int); unfold capN at *; split <;> omega)
  have h3 := cap_sum ok
  exact ⟨h1.1, by omega⟩
/-- The sums so far. -/
theorem part_bd (ok : WorldOk s ss d) (b : Nat → Bool) {k : Nat} (hk : k ≤ s.hosts.length) : 0 ≤ sumN (fun h => if b h = true then watN s ss d h else 0) k ∧ sumN (fun h => if b h = true then watN s ss d h else 0) k ≤ 400000000 := by
  have h1 := sumN_bound (f := fun h => if b h = true then watN s ss d h else 0) (m := 24010000) (n := k) (fun i hi => by have := wat_bd ok (h := i) (by omega); split <;> omega)
  have h2 := (siteOk_iff.1 ok.1).nhosts
  exact ⟨h1.1, by omega⟩
theorem load_host (k : Int) : loadN s ss d (isHost k) = if 0 ≤ k ∧ k < s.hosts.length then watN s ss d k.toNat else 0 := by
  unfold loadN
  split
  · rename_i h
    rw [sumN_at (a := k.toNat) (by omega) (fun i hi hne => by rw [if_neg]; unfold isHost; simp; omega), if_pos]
    unfold isHost; simp; omega
  · rename_i h
    rw [sumN_ext (g := fun _ => 0) (fun i hi => by rw [if_neg]; unfold isHost; simp; omega), sumN_zero]
theorem rack_in (ok : WorldOk s ss d) {h : Nat} (hh : h < s.hosts.length) : 0 ≤ rackAt s h ∧ rackAt s h < s.racks.length := by
  obtain ⟨x, y, hx, -, h1, -⟩ := host_ok ok hh
  unfold rackAt; rw [hx]; exact h1
theorem rk_in (ok : WorldOk s ss d) {h : Nat} (hh : h < s.hosts.length) : s.racks[(rackAt s h).toNat]? = some (rkAt s h) := by
  have := rack_in ok hh
  unfold rkAt
  rw [List.getElem?_eq_getElem (show (rackAt s h).toNat < s.racks.length by omega)]; rfl
theorem brk_in (ok : WorldOk s ss d) {h : Nat} (hh : h < s.hosts.length) : 0 ≤ brkAt s h ∧ brkAt s h < s.brks.length := by
  have h1 := (siteOk_iff.1 ok.1).racks _ (List.mem_of_getElem? (rk_in ok hh))
  exact h1.2.1
/-- The breaker of a rack, the feed of a breaker, by number. -/
def rkB (s : SiteD) (i : Nat) : Int := ((s.racks[i]?).map (·.brk)).getD 0
def bkF (s : SiteD) (i : Nat) : Int := ((s.brks[i]?).map (·.feed)).getD 0
theorem rkB_at (ok : WorldOk s ss d) {h : Nat} (hh : h < s.hosts.length) : rkB s (rackAt s h).toNat = brkAt s h := by
  unfold rkB brkAt; rw [rk_in ok hh]; rfl
theorem bkF_at (s : SiteD) (h : Nat) : bkF s (brkAt s h).toNat = feedAt s h := rfl
/-- The load of a breaker is the sum over its racks. -/
theorem load_brk (ok : WorldOk s ss d) (k : Int) : sumN (fun i => if rkB s i = k then loadN s ss d (isRack s (i : Int)) else 0) s.racks.length = loadN s ss d (isBrk s k) := by
  have h1 := sumN_group (fun i => rkB s i == k) (rackAt s) (watN s ss d) s.hosts.length s.racks.length (fun h hh => rack_in ok hh)
  unfold loadN isRack isBrk
  simp only [beq_iff_eq] at h1 ⊢
  rw [h1]
  exact sumN_ext fun h hh => by rw [rkB_at ok hh]
/-- The load of a feed is the sum over its breakers. -/
theorem load_feed (ok : WorldOk s ss d) (k : Int) : sumN (fun i => if bkF s i = k then loadN s ss d (isBrk s (i : Int)) else 0) s.brks.length = loadN s ss d (isFeed s k) := by
  have h1 := sumN_group (fun i => bkF s i == k) (brkAt s) (watN s ss d) s.hosts.length s.brks.length (fun h hh => brk_in ok hh)
  unfold loadN isBrk isFeed
  simp only [beq_iff_eq] at h1 ⊢
  rw [h1]
  exact sumN_ext fun h hh => by rw [bkF_at]
theorem feed_in (ok : WorldOk s ss d) {h : Nat} (hh : h < s.hosts.length) : 0 ≤ feedAt s h ∧ feedAt s h < s.feeds.length := by
  have h1 := brk_in ok hh
  have h2 := (siteOk_iff.1 ok.1).brks _ (List.getElem_mem (show (brkAt s h).toNat < s.brks.length by omega))
  rw [← bkF_at]
  unfold bkF
  rw [List.getElem?_eq_getElem (show (brkAt s h).toNat < s.brks.length by omega)]
  exact h2.1
/-- All together. -/
theorem load_all {g : Nat → Int} {m : Nat} (hg : ∀ h, h < s.hosts.length → 0 ≤ g h ∧ g h < m) : sumN (fun i => loadN s ss d (fun h => g h == (i : Int))) m = sumN (watN s ss d) s.hosts.length := by
  have h1 := sumN_group (fun _ => true) g (watN s ss d) s.hosts.length m hg
  simp only [if_true] at h1
  rw [← h1]
  unfold loadN
  simp only [beq_iff_eq]
end
end Go.Proofs.YtidpiokkfnhobaaGreat

namespace Go.Proofs.YtidpiokkfnhobaaGreat
set_option linter.unusedVariables false
set_option linter.unusedSimpArgs false

theorem sumN_eq_all {f g : Nat → Int} : ∀ {n : Nat}, (∀ i, i < n → f i ≤ g i) → sumN f n = sumN g n → ∀ i, i < n → f i = g i := by
  intro n
  induction n with
  | zero => intro _ _ i hi; omega
  | succ n ih =>
    intro h he i hi
    have h1 := sumN_le fun i (hi : i < n) => h i (by omega)
    have h2 := h n (by omega)
    rw [sumN, sumN] at he
    rcases Nat.lt_or_ge i n with h3 | h3
    · exact ih (fun i hi => h i (by omega)) (by omega) i h3
    · obtain rfl : i = n := by omega
      omega
/-- Arcs, numbered from 0 on. -/
def arcsN (g : Nat → Int × Int × Int) (n : Nat) : List (Int × Int × Int) := (List.range n).map g
theorem arcsN_len (g : Nat → Int × Int × Int) (n : Nat) : (arcsN g n).length = n := by simp [arcsN]
theorem arcsN_succ (g : Nat → Int × Int × Int) (n : Nat) : arcsN g (n + 1) = arcsN g n ++ [g n] := by simp [arcsN, List.range_succ]
theorem arcsN_mem {g : Nat → Int × Int × Int} {n : Nat} {a : Int × Int × Int} (h : a ∈ arcsN g n) : ∃ i, i < n ∧ a = g i := by
  obtain ⟨i, hi, e⟩ := List.mem_map.1 h
  exact ⟨i, List.mem_range.1 hi, e.symm⟩
theorem capS_append (l m : List v5.Ar) (S : Nat → Bool) : v5.capS (l ++ m) S = v5.capS l S + v5.capS m S := by simp [v5.capS]
theorem capS_arcs (S : Nat → Bool) (g : Nat → Int × Int × Int) (n : Nat) : v5.capS (v5.arsOf (arcsN g n)) S = sumN (fun i => if (S (g i).1.toNat && !S (g i).2.1.toNat) = true then (g i).2.2 else 0) n := by
  induction n with
  | zero => rfl
  | succ n ih =>
    rw [arcsN_succ, sumN, ← ih]
    unfold v5.arsOf
    rw [List.map_append, capS_append]
    congr 1
    rw [List.map_cons, List.map_nil, v5.capS_cons]
    simp [v5.capS, v5.arOf]
section
variable (s : SiteD) (ss : List Svc) (d : WorldD)
def fdL (i : Nat) : Int := (s.feeds[i]?).getD 0
def bkL (i : Nat) : Int := ((s.brks[i]?).map (·.limit)).getD 0
def ldR (i : Nat) : Int := loadN s ss d (isRack s (i : Int))
def ldB (i : Nat) : Int := loadN s ss d (isBrk s (i : Int))
def ldF (i : Nat) : Int := loadN s ss d (isFeed s (i : Int))
def nF : Nat := s.feeds.length
def nB : Nat := s.brks.length
def nR : Nat := s.racks.length
def netN : Nat := 2 + nF s + nB s + nR s
def arF (i : Nat) : Int × Int × Int := (0, 2 + (i : Int), fdL s i)
def arB (i : Nat) : Int × Int × Int := (2 + bkF s i, 2 + (nF s : Int) + (i : Int), bkL s i)
def arR (i : Nat) : Int × Int × Int := (2 + (nF s : Int) + rkB s i, 2 + (nF s : Int) + (nB s : Int) + (i : Int), ldR s ss d i)
def arO (i : Nat) : Int × Int × Int := (2 + (nF s : Int) + (nB s : Int) + (i : Int), 1, ldR s ss d i)
/-- The arcs of the net. -/
def netL : List (Int × Int × Int) := arcsN (arF s) (nF s) ++ arcsN (arB s) (nB s) ++ arcsN (arR s ss d) (nR s) ++ arcsN (arO s ss d) (nR s)
/-- What the breakers of a feed carry, and what all carry. -/
def partB (f : Nat) : Int := sumN (fun b => if bkF s b = (f : Int) then min (ldB s ss d b) (bkL s b) else 0) (nB s)
def carryV : Int := sumN (fun f => min (partB s ss d f) (fdL s f)) (nF s)
end
section
variable {s : SiteD} {ss : List Svc} {d : WorldD}
theorem brk_at {i : Nat} (ok : WorldOk s ss d) (hi : i < nB s) : (0 ≤ bkF s i ∧ bkF s i < nF s) ∧ 0 ≤ bkL s i ∧ bkL s i ≤ 1000000 := by
  have h := (siteOk_iff.1 ok.1).brks _ (List.getElem_mem (show i < s.brks.length from hi))
  unfold bkF bkL
  rw [List.getElem?_eq_getElem (show i < s.brks.length from hi)]
  exact ⟨h.1, h.2.1⟩
theorem rack_at {i : Nat} (ok : WorldOk s ss d) (hi : i < nR s) : 0 ≤ rkB s i ∧ rkB s i < nB s := by
  have h := (siteOk_iff.1 ok.1).racks _ (List.getElem_mem (show i < s.racks.length from hi))
  unfold rkB
  rw [List.getElem?_eq_getElem (show i < s.racks.length from hi)]
  exact h.2.1
theorem fdL_at {i : Nat} (ok : WorldOk s ss d) (hi : i < nF s) : 0 ≤ fdL s i ∧ fdL s i ≤ 1000000 := by
  have h := (siteOk_iff.1 ok.1).feeds _ (List.getElem_mem (show i < s.feeds.length from hi))
  unfold fdL
  rw [List.getElem?_eq_getElem (show i < s.feeds.length from hi)]
  exact h
theorem netL_len : (netL s ss d).length = nF s + nB s + nR s + nR s := by simp [netL, arcsN_len]; omega
theorem net_ok (ok : WorldOk s ss d) : v5.ntOk (netN s : Int) (netL s ss d) = true := by
  have h0 := siteOk_iff.1 ok.1
  have h1 := h0.nfeeds; have h2 := h0.nbrks; have h3 := h0.nracks
  refine v5.ntOk_iff.2 ⟨?_, ?_, ?_, fun a ha => ?_⟩
  · unfold netN nF nB nR; omega
  · unfold netN nF nB nR; omega
  · rw [netL_len]; unfold nF nB nR; omega
  · have hN : ((netN s : Nat) : Int) = 2 + (nF s : Int) + (nB s : Int) + (nR s : Int) := by unfold netN; omega
    rw [hN]
    unfold netL at ha
    simp only [List.mem_append] at ha
    rcases ha with ((ha | ha) | ha) | ha
    · obtain ⟨i, hi, rfl⟩ := arcsN_mem ha
      have := fdL_at ok hi
      refine v5.arOk_iff.2 ⟨?_, ?_, ?_, ?_⟩ <;> simp only [arF] <;> omega
    · obtain ⟨i, hi, rfl⟩ := arcsN_mem ha
      have := brk_at ok hi
      refine v5.arOk_iff.2 ⟨?_, ?_, ?_, ?_⟩ <;> simp only [arB] <;> omega
    · obtain ⟨i, hi, rfl⟩ := arcsN_mem ha
      have := rack_at ok hi
      have h4 := load_bd ok (isRack s (i : Int))
      refine v5.arOk_iff.2 ⟨?_, ?_, ?_, ?_⟩ <;> simp only [arR, ldR] <;> omega
    · obtain ⟨i, hi, rfl⟩ := arcsN_mem ha
      have h4 := load_bd ok (isRack s (i : Int))
      refine v5.arOk_iff.2 ⟨?_, ?_, ?_, ?_⟩ <;> simp only [arO, ldR] <;> omega
theorem net_cut (S : Nat → Bool) (h0 : S 0 = true) (h1 : S 1 = false) (ok : WorldOk s ss d) : v5.capS (v5.arsOf (netL s ss d)) S =
    sumN (fun f => if S (2 + f) = false then fdL s f else 0) (nF s) + sumN (fun b => if (S (2 + (bkF s b).toNat) && !S (2 + nF s + b)) = true then bkL s b else 0) (nB s)
    + sumN (fun r => if (S (2 + nF s + (rkB s r).toNat) && !S (2 + nF s + nB s + r)) = true then ldR s ss d r else 0) (nR s) + sumN (fun r => if S (2 + nF s + nB s + r) = true then ldR s ss d r else 0) (nR s) := by
  unfold netL v5.arsOf
  rw [List.map_append, List.map_append, List.map_append, capS_append, capS_append, capS_append]
  have e := fun g n => capS_arcs S g n
  unfold v5.arsOf at e
  rw [e, e, e, e]
  congr 1
  · congr 1
    · congr 1
      · refine sumN_ext fun i hi => ?_
        rw [show (arF s i).1.toNat = 0 from rfl, h0, show (arF s i).2.1.toNat = 2 + i by simp only [arF]; omega]
        cases S (2 + i) <;> rfl
      · refine sumN_ext fun i hi => ?_
        have := brk_at ok hi
        rw [show (arB s i).1.toNat = 2 + (bkF s i).toNat by simp only [arB]; omega, show (arB s i).2.1.toNat = 2 + nF s + i by simp only [arB]; omega]
        rfl
    · refine sumN_ext fun i hi => ?_
      have := rack_at ok hi
      rw [show (arR s ss d i).1.toNat = 2 + nF s + (rkB s i).toNat by simp only [arR]; omega, show (arR s ss d i).2.1.toNat = 2 + nF s + nB s + i by simp only [arR]; omega]
      rfl
  · refine sumN_ext fun i hi => ?_
    rw [show (arO s ss d i).1.toNat = 2 + nF s + nB s + i by simp only [arO]; omega, show (arO s ss d i).2.1.toNat = 1 from rfl, h1]
    cases S (2 + nF s + nB s + i) <;> rfl
theorem ldB_sum (ok : WorldOk s ss d) (c : Nat → Bool) : sumN (fun b => if c b = true then ldB s ss d b else 0) (nB s) = sumN (fun r => if c (rkB s r).toNat = true then ldR s ss d r else 0) (nR s) := by
  have h1 := sumN_group c (rkB s) (ldR s ss d) (nR s) (nB s) (fun r hr => rack_at ok hr)
  rw [← h1]
  exact sumN_ext fun b _ => by rw [show ldB s ss d b = sumN (fun i => if rkB s i = (b : Int) then ldR s ss d i else 0) (nR s) from (load_brk ok (b : Int)).symm]
theorem part_sum (ok : WorldOk s ss d) (c : Nat → Bool) : sumN (fun f => if c f = true then partB s ss d f else 0) (nF s) = sumN (fun b => if c (bkF s b).toNat = true then min (ldB s ss d b) (bkL s b) else 0) (nB s) :=
  sumN_group c (bkF s) (fun b => min (ldB s ss d b) (bkL s b)) (nB s) (nF s) (fun b hb => (brk_at ok hb).1)
/-- What a cut's capacity is at least. -/
theorem cut_ge (ok : WorldOk s ss d) (S : Nat → Bool) (h0 : S 0 = true) (h1 : S 1 = false) : carryV s ss d ≤ v5.capS (v5.arsOf (netL s ss d)) S := by
  rw [net_cut S h0 h1 ok]
  have e1 := sumN_add (fun r => if (S (2 + nF s + (rkB s r).toNat) && !S (2 + nF s + nB s + r)) = true then ldR s ss d r else 0) (fun r => if S (2 + nF s + nB s + r) = true then ldR s ss d r else 0) (nR s)
  have e2 := sumN_le (f := fun r => if S (2 + nF s + (rkB s r).toNat) = true then ldR s ss d r else 0) (g := fun r => (if (S (2 + nF s + (rkB s r).toNat) && !S (2 + nF s + nB s + r)) = true then ldR s ss d r else 0) + (if S (2 + nF s + nB s + r) = true then ldR s ss d r else 0)) (n := nR s) (fun i hi => by
    have := load_bd ok (isRack s (i : Int))
    unfold ldR
    cases S (2 + nF s + (rkB s i).toNat) <;> cases S (2 + nF s + nB s + i) <;> simp <;> omega)
  have e3 := ldB_sum ok (fun b => S (2 + nF s + b))
  have e4 := sumN_add (fun b => if (S (2 + (bkF s b).toNat) && !S (2 + nF s + b)) = true then bkL s b else 0) (fun b => if S (2 + nF s + b) = true then ldB s ss d b else 0) (nB s)
  have e5 := sumN_le (f := fun b => if S (2 + (bkF s b).toNat) = true then min (ldB s ss d b) (bkL s b) else 0) (g := fun b => (if (S (2 + (bkF s b).toNat) && !S (2 + nF s + b)) = true then bkL s b else 0) + (if S (2 + nF s + b) = true then ldB s ss d b else 0)) (n := nB s) (fun i hi => by
    have h2 := load_bd ok (isBrk s (i : Int))
    have h3 := brk_at ok hi
    unfold ldB
    cases S (2 + (bkF s i).toNat) <;> cases S (2 + nF s + i) <;> simp <;> omega)
  have e6 := part_sum ok (fun f => S (2 + f))
  have e7 := sumN_add (fun f => if S (2 + f) = false then fdL s f else 0) (fun f => if S (2 + f) = true then partB s ss d f else 0) (nF s)
  have e8 := sumN_le (f := fun f => min (partB s ss d f) (fdL s f)) (g := fun f => (if S (2 + f) = false then fdL s f else 0) + (if S (2 + f) = true then partB s ss d f else 0)) (n := nF s) (fun i hi => by
    cases S (2 + i) <;> simp <;> omega)
  unfold carryV
  omega
/-- The cut that is as small. -/
noncomputable def cutF (s : SiteD) (ss : List Svc) (d : WorldD) (f : Nat) : Bool := decide (partB s ss d f ≤ fdL s f)
noncomputable def cutS (s : SiteD) (ss : List Svc) (d : WorldD) (n : Nat) : Bool :=
  if n = 0 then true else if n = 1 then false else if n < 2 + nF s then cutF s ss d (n - 2) else if n < 2 + nF s + nB s then cutF s ss d (bkF s (n - 2 - nF s)).toNat && decide (ldB s ss d (n - 2 - nF s) ≤ bkL s (n - 2 - nF s)) else false
theorem cut_is (ok : WorldOk s ss d) : v5.capS (v5.arsOf (netL s ss d)) (cutS s ss d) = carryV s ss d := by
  have hF : ∀ f, f < nF s → cutS s ss d (2 + f) = cutF s ss d f := fun f hf => by
    unfold cutS
    rw [if_neg (by omega), if_neg (by omega), if_pos (by omega), show 2 + f - 2 = f by omega]
  have hB : ∀ b, b < nB s → cutS s ss d (2 + nF s + b) = (cutF s ss d (bkF s b).toNat && decide (ldB s ss d b ≤ bkL s b)) := fun b hb => by
    unfold cutS
    rw [if_neg (by omega), if_neg (by omega), if_neg (by omega), if_pos (by omega), show 2 + nF s + b - 2 - nF s = b by omega]
  have hR : ∀ r, cutS s ss d (2 + nF s + nB s + r) = false := fun r => by
    unfold cutS
    rw [if_neg (by omega), if_neg (by omega), if_neg (by omega), if_neg (by omega)]
  rw [net_cut _ rfl rfl ok]
  have e1 := sumN_ext (f := fun r => if cutS s ss d (2 + nF s + nB s + r) = true then ldR s ss d r else 0) (g := fun _ => 0) (n := nR s) (fun i _ => by rw [hR]; rfl)
  rw [e1, sumN_zero]
  have e2 := sumN_ext (f := fun r => if (cutS s ss d (2 + nF s + (rkB s r).toNat) && !cutS s ss d (2 + nF s + nB s + r)) = true then ldR s ss d r else 0) (g := fun r => if (fun b => cutS s ss d (2 + nF s + b)) (rkB s r).toNat = true then ldR s ss d r else 0) (n := nR s) (fun i _ => by rw [hR]; simp)
  rw [e2, ← ldB_sum ok (fun b => cutS s ss d (2 + nF s + b))]
  have e4 := sumN_add (fun b => if (cutS s ss d (2 + (bkF s b).toNat) && !cutS s ss d (2 + nF s + b)) = true then bkL s b else 0) (fun b => if cutS s ss d (2 + nF s + b) = true then ldB s ss d b else 0) (nB s)
  have e5 := sumN_ext (f := fun b => (if (cutS s ss d (2 + (bkF s b).toNat) && !cutS s ss d (2 + nF s + b)) = true then bkL s b else 0) + (if cutS s ss d (2 + nF s + b) = true then ldB s ss d b else 0)) (g := fun b => if cutF s ss d (bkF s b).toNat = true then min (ldB s ss d b) (bkL s b) else 0) (n := nB s) (fun i hi => by
    have h3 := brk_at ok hi
    simp only [hB i hi, hF _ (show (bkF s i).toNat < nF s by omega)]
    by_cases h : ldB s ss d i ≤ bkL s i
    · rw [decide_eq_true h]
      cases cutF s ss d (bkF s i).toNat <;> simp <;> omega
    · rw [decide_eq_false h]
      cases cutF s ss d (bkF s i).toNat <;> simp <;> omega)
  have e6 := part_sum ok (cutF s ss d)
  have e7 := sumN_add (fun f => if cutS s ss d (2 + f) = false then fdL s f else 0) (fun f => if cutF s ss d f = true then partB s ss d f else 0) (nF s)
  have e8 := sumN_ext (f := fun f => (if cutS s ss d (2 + f) = false then fdL s f else 0) + (if cutF s ss d f = true then partB s ss d f else 0)) (g := fun f => min (partB s ss d f) (fdL s f)) (n := nF s) (fun i hi => by
    simp only [hF i hi]
    unfold cutF
    by_cases h : partB s ss d i ≤ fdL s i
    · rw [decide_eq_true h]; simp; omega
    · rw [decide_eq_false h]; simp; omega)
  unfold carryV
  omega
/-- A greatest flow of the net has the value that the chapter says. -/
theorem carry_best (ok : WorldOk s ss d) {lf : List v5.Ar} {val : Int} (h : v5.Best (netN s) 0 1 (netL s ss d) lf val) : val = carryV s ss d := by
  have g : v5.Gr (netN s) (v5.ends (v5.arsOf (netL s ss d))) 0 1 lf val := ⟨h.ends_, h.flow, h.value, h.no⟩
  have hN : 0 < netN s := by unfold netN; omega
  obtain ⟨c1, c2, -⟩ := g.cut hN
  have h1 := cut_ge ok (v5.reachB lf 0) ((v5.reachB_iff lf 0 0).2 v5.Reach.here) (v5.reachB_no h.no)
  have h2 := c2 (cutS s ss d) rfl rfl
  have ee : ∀ S, v5.capS lf S = v5.capS (v5.arsOf (netL s ss d)) S := v5.capS_ends h.ends_
  rw [ee, cut_is ok] at h2
  rw [ee] at c1
  omega
/-- All is carried exactly if no load is above its limit. -/
def KeptP (s : SiteD) (ss : List Svc) (d : WorldD) : Prop := (∀ b, b < nB s → ldB s ss d b ≤ bkL s b) ∧ ∀ f, f < nF s → ldF s ss d f ≤ fdL s f
theorem ldF_sum (ok : WorldOk s ss d) (f : Nat) : ldF s ss d f = sumN (fun b => if bkF s b = (f : Int) then ldB s ss d b else 0) (nB s) := (load_feed ok (f : Int)).symm
theorem all_feeds (ok : WorldOk s ss d) : sumN (ldF s ss d) (nF s) = sumN (watN s ss d) s.hosts.length := load_all (g := feedAt s) (m := s.feeds.length) (fun h hh => feed_in ok hh)
theorem carry_all (ok : WorldOk s ss d) : carryV s ss d = sumN (watN s ss d) s.hosts.length ↔ KeptP s ss d := by
  rw [← all_feeds ok]
  have hp : ∀ f, partB s ss d f ≤ ldF s ss d f := fun f => by
    rw [ldF_sum ok]
    exact sumN_le fun b hb => by split <;> omega
  constructor
  · intro h
    have h1 := sumN_eq_all (f := fun f => min (partB s ss d f) (fdL s f)) (g := ldF s ss d) (n := nF s) (fun i _ => by have := hp i; omega) h
    refine ⟨fun b hb => ?_, fun f hf => by have := h1 f hf; have := hp f; omega⟩
    have hb' := (brk_at ok hb).1
    have h2 := h1 (bkF s b).toNat (by omega)
    have h3 : partB s ss d (bkF s b).toNat = ldF s ss d (bkF s b).toNat := by have := hp (bkF s b).toNat; omega
    rw [ldF_sum ok] at h3
    have h4 := sumN_eq_all (fun i _ => by split <;> omega) h3 b hb
    simp only [show ((bkF s b).toNat : Int) = bkF s b by omega, if_true] at h4
    omega
  · rintro ⟨h1, h2⟩
    refine sumN_ext fun f hf => ?_
    have h3 : partB s ss d f = ldF s ss d f := by
      rw [ldF_sum ok]
      exact sumN_ext fun b hb => by have := h1 b hb; split <;> omega
    have := h2 f hf
    omega
end
end Go.Proofs.YtidpiokkfnhobaaGreat

namespace Go.Proofs.YtidpiokkfnhobaaGreat
open Go.RowKit
set_option maxRecDepth 100000
set_option linter.unusedVariables false
set_option linter.unusedSimpArgs false

structure Sn where
  p : SP
  s : SiteD
  A : Option Addr
  c : Nat
  xs : List (Svc × SvA)
  q : WP
  d : WorldD
def Sn.ss (z : Sn) : List Svc := svs z.xs
structure SnAt (w : World) (z : Sn) : Prop where
  si : SiAt w z.p z.s
  wi : WiAt w z.A z.c z.xs
  wo : WoAt w z.q z.d
theorem SnAt.on {w w' : World} {z : Sn} {B : Nat} (h : SnAt w z) (hb : Below B w w') (hB : w.heap.size ≤ B) : SnAt w' z := ⟨h.si.on hb hB, h.wi.on hb hB, h.wo.on hb hB⟩
theorem SnAt.drew {w : World} {z : Sn} (h : SnAt w z) : SnAt w.drew z := h.on (Below.refl _ _).drew (Nat.le_refl _)
def Sn.Ok (z : Sn) : Prop := WorldOk z.s z.ss z.d
theorem SnAt.bounds {w : World} {z : Sn} (h : SnAt w z) : z.s.hosts.length ≤ 9223372036854775807 ∧ z.s.racks.length ≤ 9223372036854775807 ∧ z.s.brks.length ≤ 9223372036854775807 ∧ z.s.feeds.length ≤ 9223372036854775807 ∧ z.d.hosts.length ≤ 9223372036854775807 ∧ z.d.reps.length ≤ 9223372036854775807 ∧ z.xs.length ≤ 9223372036854775807 ∧ z.s.loops.length ≤ 9223372036854775807 := by
  have a1 := h.si.hosts.1; have b1 := h.si.hosts.2.1; have a2 := h.si.racks.1; have b2 := h.si.racks.2.1; have a3 := h.si.brks.1; have b3 := h.si.brks.2.1; have a4 := h.si.feeds.1; have b4 := h.si.feeds.2.1
  have a5 := h.wo.hosts.1; have b5 := h.wo.hosts.2.1; have a6 := h.wo.reps.1; have b6 := h.wo.reps.2.1; have a7 := h.wi.row.1; have b7 := h.wi.row.2.1; have a8 := h.si.loops.1; have b8 := h.si.loops.2.1
  unfold maxLen at *
  omega
def Bx (w : World) (b : Nat) (cs : Array Value) (T : TypeId) : Prop := w.heap[b]? = some (.cells cs T (0, 0))
theorem Bx.on {w w' : World} {b : Nat} {cs : Array Value} {T : TypeId} {B : Nat} (h : Bx w b cs T) (hb : Below B w w') (hB : w.heap.size ≤ B) : Bx w' b cs T := box_on h hb hB
/-- The boxes of a scene's parameters. -/
structure SnBx (X : World) (b : Nat) (z : Sn) : Prop where
  b1 : X.heap[b]? = some (.cells #[.slice z.p.a1 z.s.feeds.length z.p.c1, .slice z.p.a2 z.s.brks.length z.p.c2, .slice z.p.a3 z.s.loops.length z.p.c3, .slice z.p.a4 z.s.racks.length z.p.c4, .int .i64 z.s.sw, .slice z.p.a5 z.s.links.length z.p.c5, .slice z.p.a6 z.s.hosts.length z.p.c6] 29 (0, 0))
  b2 : X.heap[b + 1]? = some (.cells #[.slice z.A z.xs.length z.c] 32 (0, 0))
  b3 : X.heap[b + 1 + 1]? = some (.cells #[.slice z.q.a1 z.d.hosts.length z.q.c1, .slice z.q.a2 z.d.reps.length z.q.c2] 36 (0, 0))
section
variable {w w' X : World} {z : Sn} {b B : Nat}
theorem SnBx.on (h : SnBx w b z) (hb : Below B w w') (hB : w.heap.size ≤ B) : SnBx w' b z := ⟨box_on h.b1 hb hB, box_on h.b2 hb hB, box_on h.b3 hb hB⟩
theorem SnBx.alloc (h : SnBx w b z) (o : Obj) : SnBx (w.alloc o) b z := ⟨old_heap _ h.b1, old_heap _ h.b2, old_heap _ h.b3⟩
theorem SnBx.cells (h : SnBx X b z) : X.cell? ⟨b, 0, none⟩ = some (.slice z.p.a1 z.s.feeds.length z.p.c1) ∧ X.cell? ⟨b, 1, none⟩ = some (.slice z.p.a2 z.s.brks.length z.p.c2) ∧ X.cell? ⟨b, 2, none⟩ = some (.slice z.p.a3 z.s.loops.length z.p.c3) ∧ X.cell? ⟨b, 3, none⟩ = some (.slice z.p.a4 z.s.racks.length z.p.c4) ∧ X.cell? ⟨b, 4, none⟩ = some (.int .i64 z.s.sw) ∧ X.cell? ⟨b, 5, none⟩ = some (.slice z.p.a5 z.s.links.length z.p.c5) ∧ X.cell? ⟨b, 6, none⟩ = some (.slice z.p.a6 z.s.hosts.length z.p.c6) ∧ X.cell? ⟨b + 1, 0, none⟩ = some (.slice z.A z.xs.length z.c) ∧ X.cell? ⟨b + 1 + 1, 0, none⟩ = some (.slice z.q.a1 z.d.hosts.length z.q.c1) ∧ X.cell? ⟨b + 1 + 1, 1, none⟩ = some (.slice z.q.a2 z.d.reps.length z.q.c2) :=
  ⟨cell_of h.b1 rfl, cell_of h.b1 rfl, cell_of h.b1 rfl, cell_of h.b1 rfl, cell_of h.b1 rfl, cell_of h.b1 rfl, cell_of h.b1 rfl, cell_of h.b2 rfl, cell_of h.b3 rfl, cell_of h.b3 rfl⟩
end
section
variable {w W1 W2 W : World} {z : Sn}
theorem sn_boxes (h1 : W1 = w.alloc (.cells #[.slice z.p.a1 z.s.feeds.length z.p.c1, .slice z.p.a2 z.s.brks.length z.p.c2, .slice z.p.a3 z.s.loops.length z.p.c3, .slice z.p.a4 z.s.racks.length z.p.c4, .int .i64 z.s.sw, .slice z.p.a5 z.s.links.length z.p.c5, .slice z.p.a6 z.s.hosts.length z.p.c6] 29))
    (h2 : W2 = W1.alloc (.cells #[.slice z.A z.xs.length z.c] 32)) (h3 : W = W2.alloc (.cells #[.slice z.q.a1 z.d.hosts.length z.q.c1, .slice z.q.a2 z.d.reps.length z.q.c2] 36)) : Below w.heap.size w W ∧ SnBx W w.heap.size z := by
  obtain ⟨B0, b1, b2, b3⟩ := three_boxes h1 h2 h3
  exact ⟨B0, b1, b2, b3⟩
theorem sn_size {c1 c2 c3 : Array Value} {T1 T2 T3 : TypeId} (h1 : W1 = w.alloc (.cells c1 T1)) (h2 : W2 = W1.alloc (.cells c2 T2)) (h3 : W = W2.alloc (.cells c3 T3)) : W.heap.size = w.heap.size + 1 + 1 + 1 := by
  rw [h3, World.size_alloc, h2, World.size_alloc, h1, World.size_alloc]
end
theorem bool_of (P : Prop) : ∃ b : Bool, b = true ↔ P := by
  by_cases h : P
  · exact ⟨true, by simp [h]⟩
  · exact ⟨false, by simp [h]⟩
section
variable (z : Sn) (r : Bool) (hr : r = true ↔ z.Ok) (w : World) (h : SnAt w z)
include hr h
theorem c_vTo : Calls Tryz.prog 36 #[.agg #[.slice z.p.a1 z.s.feeds.length z.p.c1, .slice z.p.a2 z.s.brks.length z.p.c2, .slice z.p.a3 z.s.loops.length z.p.c3, .slice z.p.a4 z.s.racks.length z.p.c4, .int .i64 z.s.sw, .slice z.p.a5 z.s.links.length z.p.c5, .slice z.p.a6 z.s.hosts.length z.p.c6], .agg #[.slice z.A z.xs.length z.c], .agg #[.slice z.q.a1 z.d.hosts.length z.q.c1, .slice z.q.a2 z.d.reps.length z.q.c2]] w fun e w' => e = .returned (.bool r) ∧ Below w.heap.size w w' := c_woValid z.p z.s z.A z.c z.xs z.q z.d r hr w h.si h.wi h.wo
theorem c_wvTo : Calls Tryz.prog 25 #[.agg #[.slice z.p.a1 z.s.feeds.length z.p.c1, .slice z.p.a2 z.s.brks.length z.p.c2, .slice z.p.a3 z.s.loops.length z.p.c3, .slice z.p.a4 z.s.racks.length z.p.c4, .int .i64 z.s.sw, .slice z.p.a5 z.s.links.length z.p.c5, .slice z.p.a6 z.s.hosts.length z.p.c6], .agg #[.slice z.A z.xs.length z.c], .agg #[.slice z.q.a1 z.d.hosts.length z.q.c1, .slice z.q.a2 z.d.reps.length z.q.c2]] w fun e w' => e = .returned (.bool r) ∧ Below w.heap.size w w' := c_wrValid z.p z.s z.A z.c z.xs z.q z.d r hr w h.si h.wi h.wo
end
theorem c_usedTo (z : Sn) (host u : Int) (hu : usedD z.ss z.d.reps host = u) (w : World) (h : SnAt w z) :
    Calls Tryz.prog 45 #[.agg #[.slice z.A z.xs.length z.c], .agg #[.slice z.q.a1 z.d.hosts.length z.q.c1, .slice z.q.a2 z.d.reps.length z.q.c2], .int .i64 host] w fun e w' => e = .returned (.int .i64 u) ∧ Below w.heap.size w w' := by subst hu; exact c_woUsed z.A z.c z.xs z.q z.d host w h.wi h.wo
theorem c_wrUsedTo (z : Sn) (host u : Int) (hu : usedD z.ss z.d.reps host = u) (w : World) (h : SnAt w z) :
    Calls Tryz.prog 31 #[.agg #[.slice z.A z.xs.length z.c], .agg #[.slice z.q.a1 z.d.hosts.length z.q.c1, .slice z.q.a2 z.d.reps.length z.q.c2], .int .i64 host] w fun e w' => e = .returned (.int .i64 u) ∧ Below w.heap.size w w' := by subst hu; exact c_wrUsed z.A z.c z.xs z.q z.d host w h.wi h.wo
end Go.Proofs.YtidpiokkfnhobaaGreat

namespace Go.Proofs.YtidpiokkfnhobaaGreat
open Go.RowKit
set_option maxRecDepth 100000
set_option linter.unusedVariables false
set_option linter.unusedSimpArgs false

theorem hs_at {z : Sn} {w : World} (h : SnAt w z) {i : Nat} {x : Hs} (hx : z.s.hosts[i]? = some x) : ∃ b o, z.p.a6 = some ⟨b, o, none⟩ ∧ b < w.heap.size ∧ w.cell? ⟨b, o + i * 4, none⟩ = some (.int .i64 x.rack) ∧ w.cell? ⟨b, o + i * 4 + 1, none⟩ = some (.int .i64 x.cores) ∧ w.cell? ⟨b, o + i * 4 + 2, none⟩ = some (.int .i64 x.idle) ∧ w.cell? ⟨b, o + i * 4 + 3, none⟩ = some (.int .i64 x.per) := by
  obtain ⟨b, o, e, hb, hc⟩ := h.si.hosts.at_ hx
  exact ⟨b, o, e, hb, by simpa [hsF] using hc 0 (by omega), hc 1 (by omega), hc 2 (by omega), hc 3 (by omega)⟩
theorem rk_at {z : Sn} {w : World} (h : SnAt w z) {i : Nat} {x : Rk} (hx : z.s.racks[i]? = some x) : ∃ b o, z.p.a4 = some ⟨b, o, none⟩ ∧ b < w.heap.size ∧ w.cell? ⟨b, o + i * 4 + 1, none⟩ = some (.int .i64 x.brk) := by
  obtain ⟨b, o, e, hb, hc⟩ := h.si.racks.at_ hx
  exact ⟨b, o, e, hb, hc 1 (by omega)⟩
theorem bk_at {z : Sn} {w : World} (h : SnAt w z) {i : Nat} {x : Brk} (hx : z.s.brks[i]? = some x) : ∃ b o, z.p.a2 = some ⟨b, o, none⟩ ∧ b < w.heap.size ∧ w.cell? ⟨b, o + i * 4, none⟩ = some (.int .i64 x.feed) ∧ w.cell? ⟨b, o + i * 4 + 1, none⟩ = some (.int .i64 x.limit) ∧ w.cell? ⟨b, o + i * 4 + 2, none⟩ = some (.int .i64 x.slow) ∧ w.cell? ⟨b, o + i * 4 + 3, none⟩ = some (.int .i64 x.fast) := by
  obtain ⟨b, o, e, hb, hc⟩ := h.si.brks.at_ hx
  exact ⟨b, o, e, hb, by simpa [brkF] using hc 0 (by omega), hc 1 (by omega), hc 2 (by omega), hc 3 (by omega)⟩
theorem fd_at {z : Sn} {w : World} (h : SnAt w z) {i : Nat} {x : Int} (hx : z.s.feeds[i]? = some x) : ∃ b o, z.p.a1 = some ⟨b, o, none⟩ ∧ b < w.heap.size ∧ w.cell? ⟨b, o + i, none⟩ = some (.int .i64 x) := by
  obtain ⟨b, o, e, hb, hc⟩ := h.si.feeds.at_ hx
  exact ⟨b, o, e, hb, by simpa [inF] using hc 0 (by omega)⟩
theorem ho_at {z : Sn} {w : World} (h : SnAt w z) {i : Nat} {x : Hst} (hx : z.d.hosts[i]? = some x) : ∃ b o, z.q.a1 = some ⟨b, o, none⟩ ∧ b < w.heap.size ∧ w.cell? ⟨b, o + i * 2, none⟩ = some (.int .u8 (x.phase : Int)) := by
  obtain ⟨b, o, e, hb, hc⟩ := h.wo.hosts.at_ hx
  exact ⟨b, o, e, hb, by simpa [hstV] using hc 0 (by omega)⟩
set_option maxHeartbeats 8000000 in
theorem c_breakerOf (z : Sn) (ok : z.Ok) (w : World) (hz : SnAt w z) (i : Nat) (hi : i < z.s.hosts.length) :
    Calls Tryz.prog 34 #[.agg #[.slice z.p.a1 z.s.feeds.length z.p.c1, .slice z.p.a2 z.s.brks.length z.p.c2, .slice z.p.a3 z.s.loops.length z.p.c3, .slice z.p.a4 z.s.racks.length z.p.c4, .int .i64 z.s.sw, .slice z.p.a5 z.s.links.length z.p.c5, .slice z.p.a6 z.s.hosts.length z.p.c6], .int .i64 (i : Int)] w fun e w' => e = .returned (.int .i64 (brkAt z.s i)) ∧ Below w.heap.size w w' := by
  obtain ⟨x, y, hx, hy, hr, -, -⟩ := host_ok ok hi
  have hra : rackAt z.s i = x.rack := by unfold rackAt; rw [hx]; rfl
  have hk := rk_in ok hi
  rw [hra] at hk
  obtain ⟨m, hm⟩ : ∃ m : Nat, x.rack = m := ⟨x.rack.toNat, by omega⟩
  rw [hm, Int.toNat_natCast] at hk
  have hml : m < z.s.racks.length := (List.getElem?_eq_some_iff.1 hk).1
  obtain ⟨W, hW⟩ : ∃ W, W = w.alloc (.cells #[.slice z.p.a1 z.s.feeds.length z.p.c1, .slice z.p.a2 z.s.brks.length z.p.c2, .slice z.p.a3 z.s.loops.length z.p.c3, .slice z.p.a4 z.s.racks.length z.p.c4, .int .i64 z.s.sw, .slice z.p.a5 z.s.links.length z.p.c5, .slice z.p.a6 z.s.hosts.length z.p.c6] 29) := ⟨_, rfl⟩
  have B0 : Below w.heap.size w W := by rw [hW]; exact (Below.refl _ _).alloc (Nat.le_refl _) _
  have b1 : W.heap[w.heap.size]? = some (.cells #[.slice z.p.a1 z.s.feeds.length z.p.c1, .slice z.p.a2 z.s.brks.length z.p.c2, .slice z.p.a3 z.s.loops.length z.p.c3, .slice z.p.a4 z.s.racks.length z.p.c4, .int .i64 z.s.sw, .slice z.p.a5 z.s.links.length z.p.c5, .slice z.p.a6 z.s.hosts.length z.p.c6] 29 (0, 0)) := by rw [hW]; exact box_new _ _ _
  have Z0 := hz.on B0 (Nat.le_refl _)
  obtain ⟨pb, po, e6, hpb, y0, -, -, -⟩ := hs_at Z0 hx
  obtain ⟨kb, ko, e4, hkb, y1⟩ := rk_at Z0 hk
  have f3 : W.cell? ⟨w.heap.size, 3, none⟩ = some (.slice z.p.a4 z.s.racks.length z.p.c4) := cell_of b1 rfl
  have f6 : W.cell? ⟨w.heap.size, 6, none⟩ = some (.slice z.p.a6 z.s.hosts.length z.p.c6) := cell_of b1 rfl
  rw [hm] at y0
  rw [e4] at f3
  rw [e6] at f6
  have HB := Lib.hid B0
  obtain ⟨n1, n2, n3, n4, n5, n6, n7, n8⟩ := hz.bounds
  obtain ⟨v, hv⟩ : ∃ v, brkAt z.s i = v := ⟨_, rfl⟩
  rw [show (rkAt z.s i).brk = brkAt z.s i from rfl, hv] at y1
  rw [hv]
  rw [e4, e6] at hW ⊢
  have hlt : (i : Int) < (z.s.hosts.length : Int) := by omega
  have hmlt : (m : Int) < (z.s.racks.length : Int) := by omega
  clear hz Z0 B0 b1 hx hy hr hra hk hm hv e4 e6 ok
  go_enter Tryz.func34, Tryz.ntmps34
  go_wp2_with (fail)
  rw [← hW]
  clear hW
  go_quiet (fail)
  go_wp2_with (fail)
  go_ret
  exact ⟨rfl, below_drewN HB.out⟩
set_option maxHeartbeats 4000000 in
theorem c_isHost (g : Nat) (k : Int) (i : Nat) (w : World) (hg : w.cell? ⟨g, 0, none⟩ = some (.int .i64 k)) (r : Bool) (hr : isHost k i = r) :
    Calls Tryz.prog 30 #[.int .i64 (i : Int), .pointer (some ⟨g, 0, none⟩)] w fun e w' => e = .returned (.bool r) ∧ Below w.heap.size w w' := by
  unfold isHost at hr
  go_enter Tryz.func30, Tryz.ntmps30
  go_wp2_with (fail)
  go_ret
  exact ⟨rfl, Below.refl _ _⟩
set_option maxHeartbeats 4000000 in
theorem c_isRack (z : Sn) (b g : Nat) (k : Int) (i : Nat) (w : World) (hz : SnAt w z) (hb : w.heap[b]? = some (.cells #[.slice z.p.a1 z.s.feeds.length z.p.c1, .slice z.p.a2 z.s.brks.length z.p.c2, .slice z.p.a3 z.s.loops.length z.p.c3, .slice z.p.a4 z.s.racks.length z.p.c4, .int .i64 z.s.sw, .slice z.p.a5 z.s.links.length z.p.c5, .slice z.p.a6 z.s.hosts.length z.p.c6] 29 (0, 0))) (hg : w.cell? ⟨g, 0, none⟩ = some (.int .i64 k)) (hi : i < z.s.hosts.length) (r : Bool) (hr : isRack z.s k i = r) :
    Calls Tryz.prog 32 #[.int .i64 (i : Int), .pointer (some ⟨b, 0, none⟩), .pointer (some ⟨g, 0, none⟩)] w fun e w' => e = .returned (.bool r) ∧ Below w.heap.size w w' := by
  obtain ⟨x, hx⟩ : ∃ x, z.s.hosts[i]? = some x := ⟨_, List.getElem?_eq_getElem hi⟩
  unfold isRack rackAt at hr
  rw [hx] at hr
  have hr2 : (x.rack == k) = r := hr
  have f6 : w.cell? ⟨b, 6, none⟩ = some (.slice z.p.a6 z.s.hosts.length z.p.c6) := cell_of hb rfl
  obtain ⟨pb, po, e6, hpb, y0, -, -, -⟩ := hs_at hz hx
  rw [e6] at f6
  obtain ⟨n1, -⟩ := hz.bounds
  have hlt : (i : Int) < (z.s.hosts.length : Int) := by omega
  have HB := Lib.hid (Below.refl w.heap.size w)
  clear hz hb hx hr e6
  go_enter Tryz.func32, Tryz.ntmps32
  go_wp2_with (fail)
  go_quiet (fail)
  go_wp2_with (fail)
  go_ret
  exact ⟨rfl, below_drewN HB.out⟩
set_option maxHeartbeats 4000000 in
theorem c_isBrk (z : Sn) (ok : z.Ok) (b g : Nat) (k : Int) (i : Nat) (w : World) (hz : SnAt w z) (hb : w.heap[b]? = some (.cells #[.slice z.p.a1 z.s.feeds.length z.p.c1, .slice z.p.a2 z.s.brks.length z.p.c2, .slice z.p.a3 z.s.loops.length z.p.c3, .slice z.p.a4 z.s.racks.length z.p.c4, .int .i64 z.s.sw, .slice z.p.a5 z.s.links.length z.p.c5, .slice z.p.a6 z.s.hosts.length z.p.c6] 29 (0, 0))) (hg : w.cell? ⟨g, 0, none⟩ = some (.int .i64 k)) (hgb : g < w.heap.size) (hi : i < z.s.hosts.length) (r : Bool) (hr : isBrk z.s k i = r) :
    Calls Tryz.prog 33 #[.int .i64 (i : Int), .pointer (some ⟨b, 0, none⟩), .pointer (some ⟨g, 0, none⟩)] w fun e w' => e = .returned (.bool r) ∧ Below w.heap.size w w' := by
  unfold isBrk at hr
  have HF := Lib.hid (fun (X : World) (hX : Below w.heap.size w X) => (⟨cell_of (box_on hb hX (Nat.le_refl _)) rfl, cell_of (box_on hb hX (Nat.le_refl _)) rfl, cell_of (box_on hb hX (Nat.le_refl _)) rfl, cell_of (box_on hb hX (Nat.le_refl _)) rfl, cell_of (box_on hb hX (Nat.le_refl _)) rfl, cell_of (box_on hb hX (Nat.le_refl _)) rfl, cell_of (box_on hb hX (Nat.le_refl _)) rfl, (hX.cell (p := ⟨g, 0, none⟩) hgb).trans hg⟩ : X.cell? ⟨b, 0, none⟩ = some (.slice z.p.a1 z.s.feeds.length z.p.c1) ∧ X.cell? ⟨b, 1, none⟩ = some (.slice z.p.a2 z.s.brks.length z.p.c2) ∧ X.cell? ⟨b, 2, none⟩ = some (.slice z.p.a3 z.s.loops.length z.p.c3) ∧ X.cell? ⟨b, 3, none⟩ = some (.slice z.p.a4 z.s.racks.length z.p.c4) ∧ X.cell? ⟨b, 4, none⟩ = some (.int .i64 z.s.sw) ∧ X.cell? ⟨b, 5, none⟩ = some (.slice z.p.a5 z.s.links.length z.p.c5) ∧ X.cell? ⟨b, 6, none⟩ = some (.slice z.p.a6 z.s.hosts.length z.p.c6) ∧ X.cell? ⟨g, 0, none⟩ = some (.int .i64 k)))
  have HC := Lib.hid (fun (X : World) (hX : Below w.heap.size w X) => c_breakerOf z ok X (hz.on hX (Nat.le_refl _)) i hi)
  obtain ⟨v, hv⟩ : ∃ v, brkAt z.s i = v := ⟨_, rfl⟩
  rw [hv] at HC hr
  have HKw := Lib.hid (Below.refl w.heap.size w)
  obtain ⟨f0, f1, f2, f3, f4, f5, f6, g0⟩ := HF.out w HKw.out
  clear hz hb hv hg ok
  go_enter Tryz.func33, Tryz.ntmps33
  go_wp2_with (fail)
  go_region_held3 (fun X => X.cell? ⟨b, 0, none⟩ = some (.slice z.p.a1 z.s.feeds.length z.p.c1) ∧ X.cell? ⟨b, 1, none⟩ = some (.slice z.p.a2 z.s.brks.length z.p.c2) ∧ X.cell? ⟨b, 2, none⟩ = some (.slice z.p.a3 z.s.loops.length z.p.c3) ∧ X.cell? ⟨b, 3, none⟩ = some (.slice z.p.a4 z.s.racks.length z.p.c4) ∧ X.cell? ⟨b, 4, none⟩ = some (.int .i64 z.s.sw) ∧ X.cell? ⟨b, 5, none⟩ = some (.slice z.p.a5 z.s.links.length z.p.c5) ∧ X.cell? ⟨b, 6, none⟩ = some (.slice z.p.a6 z.s.hosts.length z.p.c6) ∧ X.cell? ⟨g, 0, none⟩ = some (.int .i64 k))
    (first | exact HF.out w1 HK1.out | exact HF.out w HKw.out | fail)
    (first
      | (go_at_call 34; (with_reducible refine (HC.out w.drew HKw.out.drew).mono ?_); rintro e w1 ⟨rfl, bb0⟩; have HK1 := Lib.hid (below_join (Below.refl w.heap.size w).drew bb0 (Nat.le_refl _)); clear bb0)
      | fail)
  go_wp2_with (fail)
  go_ret
  exact ⟨rfl, HK1.out⟩
set_option maxHeartbeats 4000000 in
theorem c_isFeed (z : Sn) (ok : z.Ok) (b g : Nat) (k : Int) (i : Nat) (w : World) (hz : SnAt w z) (hb : w.heap[b]? = some (.cells #[.slice z.p.a1 z.s.feeds.length z.p.c1, .slice z.p.a2 z.s.brks.length z.p.c2, .slice z.p.a3 z.s.loops.length z.p.c3, .slice z.p.a4 z.s.racks.length z.p.c4, .int .i64 z.s.sw, .slice z.p.a5 z.s.links.length z.p.c5, .slice z.p.a6 z.s.hosts.length z.p.c6] 29 (0, 0))) (hg : w.cell? ⟨g, 0, none⟩ = some (.int .i64 k)) (hgb : g < w.heap.size) (hi : i < z.s.hosts.length) (r : Bool) (hr : isFeed z.s k i = r) :
    Calls Tryz.prog 35 #[.int .i64 (i : Int), .pointer (some ⟨b, 0, none⟩), .pointer (some ⟨g, 0, none⟩)] w fun e w' => e = .returned (.bool r) ∧ Below w.heap.size w w' := by
  obtain ⟨m, hm⟩ : ∃ m : Nat, brkAt z.s i = m := ⟨(brkAt z.s i).toNat, by have := brk_in ok hi; omega⟩
  have hml : m < z.s.brks.length := by have := brk_in ok hi; omega
  obtain ⟨x, hx⟩ : ∃ x, z.s.brks[m]? = some x := ⟨_, List.getElem?_eq_getElem hml⟩
  have hr2 : (x.feed == k) = r := by
    rw [← hr]
    unfold isFeed feedAt
    rw [show (rkAt z.s i).brk = brkAt z.s i from rfl, hm, Int.toNat_natCast, hx]
    rfl
  have HF0 := fun (X : World) (hX : Below w.heap.size w X) => (⟨cell_of (box_on hb hX (Nat.le_refl _)) rfl, cell_of (box_on hb hX (Nat.le_refl _)) rfl, cell_of (box_on hb hX (Nat.le_refl _)) rfl, cell_of (box_on hb hX (Nat.le_refl _)) rfl, cell_of (box_on hb hX (Nat.le_refl _)) rfl, cell_of (box_on hb hX (Nat.le_refl _)) rfl, cell_of (box_on hb hX (Nat.le_refl _)) rfl, (hX.cell (p := ⟨g, 0, none⟩) hgb).trans hg⟩ : X.cell? ⟨b, 0, none⟩ = some (.slice z.p.a1 z.s.feeds.length z.p.c1) ∧ X.cell? ⟨b, 1, none⟩ = some (.slice z.p.a2 z.s.brks.length z.p.c2) ∧ X.cell? ⟨b, 2, none⟩ = some (.slice z.p.a3 z.s.loops.length z.p.c3) ∧ X.cell? ⟨b, 3, none⟩ = some (.slice z.p.a4 z.s.racks.length z.p.c4) ∧ X.cell? ⟨b, 4, none⟩ = some (.int .i64 z.s.sw) ∧ X.cell? ⟨b, 5, none⟩ = some (.slice z.p.a5 z.s.links.length z.p.c5) ∧ X.cell? ⟨b, 6, none⟩ = some (.slice z.p.a6 z.s.hosts.length z.p.c6) ∧ X.cell? ⟨g, 0, none⟩ = some (.int .i64 k))
  obtain ⟨pb, po, e2, hpb, y0, -, -, -⟩ := bk_at hz hx
  have HF := Lib.hid (fun (X : World) (hX : Below w.heap.size w X) => (⟨HF0 X hX, (hX.cell (p := ⟨pb, po + m * 4, none⟩) hpb).trans y0⟩ : (X.cell? ⟨b, 0, none⟩ = some (.slice z.p.a1 z.s.feeds.length z.p.c1) ∧ X.cell? ⟨b, 1, none⟩ = some (.slice z.p.a2 z.s.brks.length z.p.c2) ∧ X.cell? ⟨b, 2, none⟩ = some (.slice z.p.a3 z.s.loops.length z.p.c3) ∧ X.cell? ⟨b, 3, none⟩ = some (.slice z.p.a4 z.s.racks.length z.p.c4) ∧ X.cell? ⟨b, 4, none⟩ = some (.int .i64 z.s.sw) ∧ X.cell? ⟨b, 5, none⟩ = some (.slice z.p.a5 z.s.links.length z.p.c5) ∧ X.cell? ⟨b, 6, none⟩ = some (.slice z.p.a6 z.s.hosts.length z.p.c6) ∧ X.cell? ⟨g, 0, none⟩ = some (.int .i64 k)) ∧ X.cell? ⟨pb, po + m * 4, none⟩ = some (.int .i64 x.feed)))
  have HC := Lib.hid (fun (X : World) (hX : Below w.heap.size w X) => c_breakerOf z ok X (hz.on hX (Nat.le_refl _)) i hi)
  rw [hm] at HC
  have HKw := Lib.hid (Below.refl w.heap.size w)
  obtain ⟨n1, n2, n3, -⟩ := hz.bounds
  have hlt : (m : Int) < (z.s.brks.length : Int) := by omega
  rw [e2] at HF HC
  clear hz hb hx hg ok HF0 y0 hr e2 hm
  obtain ⟨⟨f0, f1, f2, f3, f4, f5, f6, g0⟩, y0⟩ := HF.out w HKw.out
  go_enter Tryz.func35, Tryz.ntmps35
  go_wp2_with (fail)
  go_region_held3 (fun X => (X.cell? ⟨b, 0, none⟩ = some (.slice z.p.a1 z.s.feeds.length z.p.c1) ∧ X.cell? ⟨b, 1, none⟩ = some (.slice (some ⟨pb, po, none⟩) z.s.brks.length z.p.c2) ∧ X.cell? ⟨b, 2, none⟩ = some (.slice z.p.a3 z.s.loops.length z.p.c3) ∧ X.cell? ⟨b, 3, none⟩ = some (.slice z.p.a4 z.s.racks.length z.p.c4) ∧ X.cell? ⟨b, 4, none⟩ = some (.int .i64 z.s.sw) ∧ X.cell? ⟨b, 5, none⟩ = some (.slice z.p.a5 z.s.links.length z.p.c5) ∧ X.cell? ⟨b, 6, none⟩ = some (.slice z.p.a6 z.s.hosts.length z.p.c6) ∧ X.cell? ⟨g, 0, none⟩ = some (.int .i64 k)) ∧ X.cell? ⟨pb, po + m * 4, none⟩ = some (.int .i64 x.feed))
    (first | exact HF.out w1 HK1.out | exact HF.out w HKw.out | fail)
    (first
      | (go_at_call 34; (with_reducible refine (HC.out w.drew HKw.out.drew).mono ?_); rintro e w1 ⟨rfl, bb0⟩; have HK1 := Lib.hid (below_join (Below.refl w.heap.size w).drew bb0 (Nat.le_refl _)); clear bb0)
      | fail)
  go_wp2_with (fail)
  go_ret
  exact ⟨rfl, HK1.out⟩
end Go.Proofs.YtidpiokkfnhobaaGreat

namespace Go.Proofs.YtidpiokkfnhobaaGreat
open Go.RowKit
set_option maxRecDepth 100000
set_option linter.unusedVariables false
set_option linter.unusedSimpArgs false

/-- A load: 0 if the world is not valid. -/
def pwV (z : Sn) (r : Bool) (b : Nat → Bool) : Int := if r = true then loadN z.s z.ss z.d b else 0
/-- The sum so far. -/
def soFar (z : Sn) (b : Nat → Bool) (k : Nat) : Int := sumN (fun h => if b h = true then watN z.s z.ss z.d h else 0) k
theorem soFar_bd {z : Sn} (ok : z.Ok) (b : Nat → Bool) {k : Nat} (hk : k ≤ z.s.hosts.length) : 0 ≤ soFar z b k ∧ soFar z b k ≤ 400000000 := part_bd ok b hk
theorem soFar_no {z : Sn} {b : Nat → Bool} {k : Nat} (h : b k = false) : soFar z b (k + 1) = soFar z b k := by
  unfold soFar; rw [sumN, h]; simp
theorem soFar_off {z : Sn} {b : Nat → Bool} {k : Nat} {y : Hst} (hy : z.d.hosts[k]? = some y) (h : y.phase = 4) : soFar z b (k + 1) = soFar z b k := by
  unfold soFar; rw [sumN]
  have : watN z.s z.ss z.d k = 0 := by unfold watN; rw [phAt_eq hy, if_pos h]
  rw [this]; simp
theorem soFar_yes {z : Sn} {b : Nat → Bool} {k : Nat} {x : Hs} {y : Hst} (hx : z.s.hosts[k]? = some x) (hy : z.d.hosts[k]? = some y) (h : b k = true) (h4 : y.phase ≠ 4) : soFar z b (k + 1) = soFar z b k + (x.idle + x.per * usedD z.ss z.d.reps (k : Int)) := by
  unfold soFar; rw [sumN, if_pos h]
  congr 1
  unfold watN; rw [phAt_eq hy, if_neg h4, hsAt_eq hx]
set_option maxHeartbeats 16000000 in
theorem c_loadHost (z : Sn) (r0 : Bool) (hr0 : r0 = true ↔ z.Ok) (g : Nat) (k : Int) (w : World) (hz : SnAt w z) (hg : w.cell? ⟨g, 0, none⟩ = some (.int .i64 k)) (hgb : g < w.heap.size) (v : Int) (hv : pwV z r0 (isHost k) = v) :
    Calls Tryz.prog 29 #[.agg #[.slice z.p.a1 z.s.feeds.length z.p.c1, .slice z.p.a2 z.s.brks.length z.p.c2, .slice z.p.a3 z.s.loops.length z.p.c3, .slice z.p.a4 z.s.racks.length z.p.c4, .int .i64 z.s.sw, .slice z.p.a5 z.s.links.length z.p.c5, .slice z.p.a6 z.s.hosts.length z.p.c6], .agg #[.slice z.A z.xs.length z.c], .agg #[.slice z.q.a1 z.d.hosts.length z.q.c1, .slice z.q.a2 z.d.reps.length z.q.c2], .func (.func 30) #[] #[.pointer (some ⟨g, 0, none⟩)]] w fun e w' => e = .returned (.int .i64 v) ∧ Below w.heap.size w w' := by
  have HCL := Lib.hid (fun (X : World) (hX : Below w.heap.size w X) (ok : z.Ok) (i : Nat) (hi : i < z.s.hosts.length) (r : Bool) (hr : (isHost k) i = r) => (c_isHost g k i X ((hX.cell (p := ⟨g, 0, none⟩) hgb).trans hg) r hr : Calls Tryz.prog 30 #[.int .i64 (i : Int), .pointer (some ⟨g, 0, none⟩)] X fun e w' => e = .returned (.bool r) ∧ Below X.heap.size X w'))
  have HV := Lib.hid hv
  have HR0 := Lib.hid hr0
  obtain ⟨pd, hpd⟩ : ∃ f, f = isHost k := ⟨_, rfl⟩
  rw [← hpd] at HCL HV
  clear hr0 hv hg hgb hpd
  obtain ⟨W1, h1⟩ : ∃ W, W = w.alloc (.cells #[.slice z.p.a1 z.s.feeds.length z.p.c1, .slice z.p.a2 z.s.brks.length z.p.c2, .slice z.p.a3 z.s.loops.length z.p.c3, .slice z.p.a4 z.s.racks.length z.p.c4, .int .i64 z.s.sw, .slice z.p.a5 z.s.links.length z.p.c5, .slice z.p.a6 z.s.hosts.length z.p.c6] 29) := ⟨_, rfl⟩
  obtain ⟨W2, h2⟩ : ∃ W, W = W1.alloc (.cells #[.slice z.A z.xs.length z.c] 32) := ⟨_, rfl⟩
  obtain ⟨W, h3⟩ : ∃ W, W = W2.alloc (.cells #[.slice z.q.a1 z.d.hosts.length z.q.c1, .slice z.q.a2 z.d.reps.length z.q.c2] 36) := ⟨_, rfl⟩
  obtain ⟨B0, X1⟩ := sn_boxes h1 h2 h3
  have z3 : W.heap.size = w.heap.size + 1 + 1 + 1 := sn_size h1 h2 h3
  have HB := Lib.hid B0
  have Z0 := hz.on B0 (Nat.le_refl _)
  have HZ := Lib.hid (fun (X : World) (hX : Below W.heap.size W X) => Z0.on hX (Nat.le_refl _))
  have HF := Lib.hid (fun (X : World) (hX : Below W.heap.size W X) => ((X1.on hX (Nat.le_refl _)).cells : X.cell? ⟨w.heap.size, 0, none⟩ = some (.slice z.p.a1 z.s.feeds.length z.p.c1) ∧ X.cell? ⟨w.heap.size, 1, none⟩ = some (.slice z.p.a2 z.s.brks.length z.p.c2) ∧ X.cell? ⟨w.heap.size, 2, none⟩ = some (.slice z.p.a3 z.s.loops.length z.p.c3) ∧ X.cell? ⟨w.heap.size, 3, none⟩ = some (.slice z.p.a4 z.s.racks.length z.p.c4) ∧ X.cell? ⟨w.heap.size, 4, none⟩ = some (.int .i64 z.s.sw) ∧ X.cell? ⟨w.heap.size, 5, none⟩ = some (.slice z.p.a5 z.s.links.length z.p.c5) ∧ X.cell? ⟨w.heap.size, 6, none⟩ = some (.slice z.p.a6 z.s.hosts.length z.p.c6) ∧ X.cell? ⟨w.heap.size + 1, 0, none⟩ = some (.slice z.A z.xs.length z.c) ∧ X.cell? ⟨w.heap.size + 1 + 1, 0, none⟩ = some (.slice z.q.a1 z.d.hosts.length z.q.c1) ∧ X.cell? ⟨w.heap.size + 1 + 1, 1, none⟩ = some (.slice z.q.a2 z.d.reps.length z.q.c2)))
  have HX := Lib.hid (fun (X : World) (hX : Below W.heap.size W X) => X1.on hX (Nat.le_refl _))
  have HKW := Lib.hid (Below.refl W.heap.size W)
  have hle := HB.out.size
  obtain ⟨n1, n2, n3, n4, n5, n6, n7, n8⟩ := hz.bounds
  have HVV := Lib.hid (fun (X : World) (hX : SnAt X z) => c_vTo z r0 HR0.out X hX)
  clear hz B0 X1 z3 Z0
  generalize hA6 : z.p.a6 = A6 at *
  have HA6 := Lib.hid hA6
  clear hA6
  obtain ⟨f0, f1, f2, f3, f4, f5, f6, g0, g1, g2⟩ := HF.out W HKW.out
  rw [h3, h2, h1] at f0 f1 f2 f3 f4 f5 f6 g0 g1 g2
  generalize hBB : w.heap.size = B at *
  go_enter Tryz.func29, Tryz.ntmps29
  go_wp2_with (fail)
  rw [← h1, ← h2, ← h3]
  clear h1 h2 h3 f0 f1 f2 f3 f4 f5 f6 g0 g1 g2
  go_at_call 36
  refine (HVV.out W (HZ.out W HKW.out)).mono ?_
  rintro e v1 ⟨rfl, bb⟩
  have HKv1 := Lib.hid (below_join HKW.out bb HKW.out.size)
  clear bb
  cases r0
  · have HVE := Lib.hid (show (0 : Int) = v from HV.out)
    go_wp2_with (fail)
    go_ret
    exact ⟨(show Ending.returned (.int .i64 0) = .returned (.int .i64 v) by rw [HVE.out]), below_join HB.out HKv1.out hle⟩
  have ok := HR0.out.1 rfl
  have HOK := Lib.hid ok
  have HVE := Lib.hid (show soFar z pd z.s.hosts.length = v from HV.out)
  have HDL := Lib.hid (show z.d.hosts.length = z.s.hosts.length from ok.2.2.1)
  have hd16 := (siteOk_iff.1 ok.1).nhosts.2
  clear ok
  obtain ⟨f0, f1, f2, f3, f4, f5, f6, g0, g1, g2⟩ := HF.out v1 HKv1.out
  go_wp2_with (fail)
  clear f0 f1 f2 f3 f4 f5 f6 g0 g1 g2
  go_loopw [9, 20] (fun sm i wr => ∃ k : Nat, k ≤ z.s.hosts.length ∧ sm = .int .i64 (soFar z pd k) ∧ i = .int .i64 (k : Int) ∧ Hid (Below W.heap.size W wr)) (fun _ i _ => z.s.hosts.length - (intOf i).toNat)
  case atStart => exact ⟨0, Nat.zero_le _, rfl, rfl, HKv1⟩
  case round =>
    obtain ⟨k, hk, rfl, rfl, hK⟩ := hrel
    have hki : ((k : Nat) : Int).toNat = k := by omega
    obtain ⟨S, hS⟩ : ∃ S, soFar z pd k = S := ⟨_, rfl⟩
    have HS := Lib.hid hS
    have bS := soFar_bd HOK.out pd hk
    rw [hS] at bS
    rw [hS]
    clear hS
    by_cases hlt : k < z.s.hosts.length
    · obtain ⟨x, y, hx, hy, -, bi, bp⟩ := host_ok HOK.out hlt
      have HXX := Lib.hid hx
      have HYY := Lib.hid hy
      obtain ⟨pb, po, e6, hpb, x0, x1, x2, x3⟩ := hs_at (HZ.out wr hK.out) hx
      rw [HA6.out] at e6
      subst e6
      obtain ⟨f0, f1, f2, f3, f4, f5, f6, g0, g1, g2⟩ := HF.out wr hK.out
      have hki2 : (k : Int) < (z.s.hosts.length : Int) := by omega
      have hki3 : (k : Int) < (z.d.hosts.length : Int) := by have := HDL.out; omega
      obtain ⟨V, hV⟩ : ∃ X, X = wr.alloc (.cells #[.int .i64 x.rack, .int .i64 x.cores, .int .i64 x.idle, .int .i64 x.per] 61) := ⟨_, rfl⟩
      have bV : Below wr.heap.size wr V := by rw [hV]; exact (Below.refl _ _).alloc (Nat.le_refl _) _
      have BV : V.heap[wr.heap.size]? = some (.cells #[.int .i64 x.rack, .int .i64 x.cores, .int .i64 x.idle, .int .i64 x.per] 61 (0, 0)) := by rw [hV]; exact box_new _ _ _
      have HKV := Lib.hid (below_join hK.out bV hK.out.size)
      have HBV := Lib.hid (fun (X : World) (hX : Below V.heap.size V X) => (⟨cell_of (box_on BV hX (Nat.le_refl _)) rfl, cell_of (box_on BV hX (Nat.le_refl _)) rfl, cell_of (box_on BV hX (Nat.le_refl _)) rfl, cell_of (box_on BV hX (Nat.le_refl _)) rfl⟩ : X.cell? ⟨wr.heap.size, 0, none⟩ = some (.int .i64 x.rack) ∧ X.cell? ⟨wr.heap.size, 1, none⟩ = some (.int .i64 x.cores) ∧ X.cell? ⟨wr.heap.size, 2, none⟩ = some (.int .i64 x.idle) ∧ X.cell? ⟨wr.heap.size, 3, none⟩ = some (.int .i64 x.per)))
      have HKVV := Lib.hid (Below.refl V.heap.size V)
      clear hx hy bV BV
      rcases hp : pd k with _ | _
      · have HP := Lib.hid hp
        have HSN := Lib.hid (soFar_no hp (z := z))
        clear hp
        go_wp2_with (fail)
        rw [← hV]
        clear hV x0 x1 x2 x3 f0 f1 f2 f3 f4 f5 f6 g0 g1 g2
        go_at_call 30
        refine (HCL.out V (below_join HB.out HKV.out hle) HOK.out k hlt false HP.out).mono ?_
        rintro e v2 ⟨rfl, bb⟩
        have HK2 := Lib.hid (below_join HKV.out bb HKV.out.size)
        clear bb
        go_wp2_with (fail)
        go_roundw
        case rel => exact ⟨k + 1, by omega, by rw [HSN.out, HS.out], by go_num, HK2⟩
        case measure => simp only [intOf]; omega
      · have HP := Lib.hid hp
        clear hp
        rcases h4 : ((y.phase : Int) == 4) with _ | _
        · obtain ⟨u, hu⟩ : ∃ u, usedD z.ss z.d.reps (k : Int) = u := ⟨_, rfl⟩
          have HU := Lib.hid hu
          have bu := used_bd HOK.out (k : Int)
          rw [show usedD (Sn.ss z) z.d.reps (k : Int) = u from hu] at bu
          obtain ⟨pr, hpr⟩ : ∃ t, x.per * u = t := ⟨_, rfl⟩
          have HPR := Lib.hid hpr
          have bpr : 0 ≤ pr ∧ pr ≤ 24000000 := by
            rw [← hpr]
            have p1 := Int.mul_nonneg bp.1 bu.1
            have p2 : x.per * u ≤ 1000 * u := Int.mul_le_mul_of_nonneg_right bp.2 bu.1
            omega
          have HSY := Lib.hid (show soFar z pd (k + 1) = S + (x.idle + pr) by
            rw [soFar_yes HXX.out HYY.out HP.out (by intro h; rw [h] at h4; simp at h4), HS.out, HU.out, HPR.out])
          have hne : ((y.phase : Int) != 4) = true := by unfold bne; rw [h4]; rfl
          clear hu hpr
          go_wp2_with (fail)
          rw [← hV]
          clear hV x0 x1 x2 x3 f0 f1 f2 f3 f4 f5 f6 g0 g1 g2
          go_at_call 30
          refine (HCL.out V (below_join HB.out HKV.out hle) HOK.out k hlt true HP.out).mono ?_
          rintro e v2 ⟨rfl, bb⟩
          have HKK2 := Lib.hid (below_join HKVV.out bb (Nat.le_refl _))
          have HK2 := Lib.hid (below_join HKV.out bb HKV.out.size)
          obtain ⟨f0, f1, f2, f3, f4, f5, f6, g0, g1, g2⟩ := HF.out v2 HK2.out
          obtain ⟨qb, qo, e1, hqb, y0⟩ := ho_at (HZ.out v2 HK2.out) HYY.out
          rw [e1] at g1
          clear bb e1
          go_wp2_with (fail)
          obtain ⟨j0, j1, j2, j3⟩ := HBV.out v2 HKK2.out
          obtain ⟨f0, f1, f2, f3, f4, f5, f6, g0, g1, g2⟩ := HF.out v2 HK2.out
          go_region_held3 (fun X => (X.cell? ⟨B, 0, none⟩ = some (.slice z.p.a1 z.s.feeds.length z.p.c1) ∧ X.cell? ⟨B, 1, none⟩ = some (.slice z.p.a2 z.s.brks.length z.p.c2) ∧ X.cell? ⟨B, 2, none⟩ = some (.slice z.p.a3 z.s.loops.length z.p.c3) ∧ X.cell? ⟨B, 3, none⟩ = some (.slice z.p.a4 z.s.racks.length z.p.c4) ∧ X.cell? ⟨B, 4, none⟩ = some (.int .i64 z.s.sw) ∧ X.cell? ⟨B, 5, none⟩ = some (.slice z.p.a5 z.s.links.length z.p.c5) ∧ X.cell? ⟨B, 6, none⟩ = some (.slice (some ⟨pb, po, none⟩) z.s.hosts.length z.p.c6) ∧ X.cell? ⟨B + 1, 0, none⟩ = some (.slice z.A z.xs.length z.c) ∧ X.cell? ⟨B + 1 + 1, 0, none⟩ = some (.slice z.q.a1 z.d.hosts.length z.q.c1) ∧ X.cell? ⟨B + 1 + 1, 1, none⟩ = some (.slice z.q.a2 z.d.reps.length z.q.c2)) ∧ X.cell? ⟨wr.heap.size, 2, none⟩ = some (.int .i64 x.idle) ∧ X.cell? ⟨wr.heap.size, 3, none⟩ = some (.int .i64 x.per))
            (first | exact ⟨HF.out v3 HK3.out, (HBV.out v3 HKK3.out).2.2⟩ | exact ⟨HF.out v2 HK2.out, (HBV.out v2 HKK2.out).2.2⟩ | fail)
            (first
              | (go_at_call 45; (with_reducible refine (c_usedTo z (k : Int) u HU.out v2.drew (HZ.out v2.drew HK2.out.drew)).mono ?_); rintro e v3 ⟨rfl, bb0⟩; have bb := below_join (Below.refl v2.heap.size v2).drew bb0 (Nat.le_refl _); have HK3 := Lib.hid (below_join HK2.out bb HK2.out.size); have HKK3 := Lib.hid (below_join HKK2.out bb HKK2.out.size); clear bb bb0)
              | fail)
          go_wp2_with (fail)
          go_roundw
          case rel => exact ⟨k + 1, by omega, by rw [HSY.out, HPR.out, wrap_in (x := pr) (by omega) (by omega), wrap_in (x := x.idle + pr) (by omega) (by omega), wrap_in (by omega) (by omega)], by go_num, HK3⟩
          case measure => simp only [intOf]; omega
        · have HSN := Lib.hid (soFar_off (z := z) (b := pd) HYY.out (by have := eq_of_beq h4; omega))
          have hne : ((y.phase : Int) != 4) = false := by unfold bne; rw [h4]; rfl
          go_wp2_with (fail)
          rw [← hV]
          clear hV x0 x1 x2 x3 f0 f1 f2 f3 f4 f5 f6 g0 g1 g2
          go_at_call 30
          refine (HCL.out V (below_join HB.out HKV.out hle) HOK.out k hlt true HP.out).mono ?_
          rintro e v2 ⟨rfl, bb⟩
          have HK2 := Lib.hid (below_join HKV.out bb HKV.out.size)
          obtain ⟨f0, f1, f2, f3, f4, f5, f6, g0, g1, g2⟩ := HF.out v2 HK2.out
          obtain ⟨qb, qo, e1, hqb, y0⟩ := ho_at (HZ.out v2 HK2.out) HYY.out
          rw [e1] at g1
          clear bb e1
          go_wp2_with (fail)
          go_roundw
          case rel => exact ⟨k + 1, by omega, by rw [HSN.out, HS.out], by go_num, HK2⟩
          case measure => simp only [intOf]; omega
    · obtain rfl : k = z.s.hosts.length := by omega
      have HVS := Lib.hid (show S = v by rw [← HVE.out, HS.out])
      go_wp2_with (fail)
      go_ret
      exact ⟨(show Ending.returned (.int .i64 S) = .returned (.int .i64 v) by rw [HVS.out]), below_join HB.out hK.out hle⟩
set_option maxHeartbeats 16000000 in
theorem c_loadRack (z : Sn) (r0 : Bool) (hr0 : r0 = true ↔ z.Ok) (b g : Nat) (k : Int) (w : World) (hz : SnAt w z) (hb : w.heap[b]? = some (.cells #[.slice z.p.a1 z.s.feeds.length z.p.c1, .slice z.p.a2 z.s.brks.length z.p.c2, .slice z.p.a3 z.s.loops.length z.p.c3, .slice z.p.a4 z.s.racks.length z.p.c4, .int .i64 z.s.sw, .slice z.p.a5 z.s.links.length z.p.c5, .slice z.p.a6 z.s.hosts.length z.p.c6] 29 (0, 0))) (hg : w.cell? ⟨g, 0, none⟩ = some (.int .i64 k)) (hgb : g < w.heap.size) (v : Int) (hv : pwV z r0 (isRack z.s k) = v) :
    Calls Tryz.prog 29 #[.agg #[.slice z.p.a1 z.s.feeds.length z.p.c1, .slice z.p.a2 z.s.brks.length z.p.c2, .slice z.p.a3 z.s.loops.length z.p.c3, .slice z.p.a4 z.s.racks.length z.p.c4, .int .i64 z.s.sw, .slice z.p.a5 z.s.links.length z.p.c5, .slice z.p.a6 z.s.hosts.length z.p.c6], .agg #[.slice z.A z.xs.length z.c], .agg #[.slice z.q.a1 z.d.hosts.length z.q.c1, .slice z.q.a2 z.d.reps.length z.q.c2], .func (.func 32) #[] #[.pointer (some ⟨b, 0, none⟩), .pointer (some ⟨g, 0, none⟩)]] w fun e w' => e = .returned (.int .i64 v) ∧ Below w.heap.size w w' := by
  have HCL := Lib.hid (fun (X : World) (hX : Below w.heap.size w X) (ok : z.Ok) (i : Nat) (hi : i < z.s.hosts.length) (r : Bool) (hr : (isRack z.s k) i = r) => (c_isRack z b g k i X (hz.on hX (Nat.le_refl _)) (box_on hb hX (Nat.le_refl _)) ((hX.cell (p := ⟨g, 0, none⟩) hgb).trans hg) hi r hr : Calls Tryz.prog 32 #[.int .i64 (i : Int), .pointer (some ⟨b, 0, none⟩), .pointer (some ⟨g, 0, none⟩)] X fun e w' => e = .returned (.bool r) ∧ Below X.heap.size X w'))
  have HV := Lib.hid hv
  have HR0 := Lib.hid hr0
  obtain ⟨pd, hpd⟩ : ∃ f, f = isRack z.s k := ⟨_, rfl⟩
  rw [← hpd] at HCL HV
  clear hr0 hv hb hg hgb hpd
  obtain ⟨W1, h1⟩ : ∃ W, W = w.alloc (.cells #[.slice z.p.a1 z.s.feeds.length z.p.c1, .slice z.p.a2 z.s.brks.length z.p.c2, .slice z.p.a3 z.s.loops.length z.p.c3, .slice z.p.a4 z.s.racks.length z.p.c4, .int .i64 z.s.sw, .slice z.p.a5 z.s.links.length z.p.c5, .slice z.p.a6 z.s.hosts.length z.p.c6] 29) := ⟨_, rfl⟩
  obtain ⟨W2, h2⟩ : ∃ W, W = W1.alloc (.cells #[.slice z.A z.xs.length z.c] 32) := ⟨_, rfl⟩
  obtain ⟨W, h3⟩ : ∃ W, W = W2.alloc (.cells #[.slice z.q.a1 z.d.hosts.length z.q.c1, .slice z.q.a2 z.d.reps.length z.q.c2] 36) := ⟨_, rfl⟩
  obtain ⟨B0, X1⟩ := sn_boxes h1 h2 h3
  have z3 : W.heap.size = w.heap.size + 1 + 1 + 1 := sn_size h1 h2 h3
  have HB := Lib.hid B0
  have Z0 := hz.on B0 (Nat.le_refl _)
  have HZ := Lib.hid (fun (X : World) (hX : Below W.heap.size W X) => Z0.on hX (Nat.le_refl _))
  have HF := Lib.hid (fun (X : World) (hX : Below W.heap.size W X) => ((X1.on hX (Nat.le_refl _)).cells : X.cell? ⟨w.heap.size, 0, none⟩ = some (.slice z.p.a1 z.s.feeds.length z.p.c1) ∧ X.cell? ⟨w.heap.size, 1, none⟩ = some (.slice z.p.a2 z.s.brks.length z.p.c2) ∧ X.cell? ⟨w.heap.size, 2, none⟩ = some (.slice z.p.a3 z.s.loops.length z.p.c3) ∧ X.cell? ⟨w.heap.size, 3, none⟩ = some (.slice z.p.a4 z.s.racks.length z.p.c4) ∧ X.cell? ⟨w.heap.size, 4, none⟩ = some (.int .i64 z.s.sw) ∧ X.cell? ⟨w.heap.size, 5, none⟩ = some (.slice z.p.a5 z.s.links.length z.p.c5) ∧ X.cell? ⟨w.heap.size, 6, none⟩ = some (.slice z.p.a6 z.s.hosts.length z.p.c6) ∧ X.cell? ⟨w.heap.size + 1, 0, none⟩ = some (.slice z.A z.xs.length z.c) ∧ X.cell? ⟨w.heap.size + 1 + 1, 0, none⟩ = some (.slice z.q.a1 z.d.hosts.length z.q.c1) ∧ X.cell? ⟨w.heap.size + 1 + 1, 1, none⟩ = some (.slice z.q.a2 z.d.reps.length z.q.c2)))
  have HX := Lib.hid (fun (X : World) (hX : Below W.heap.size W X) => X1.on hX (Nat.le_refl _))
  have HKW := Lib.hid (Below.refl W.heap.size W)
  have hle := HB.out.size
  obtain ⟨n1, n2, n3, n4, n5, n6, n7, n8⟩ := hz.bounds
  have HVV := Lib.hid (fun (X : World) (hX : SnAt X z) => c_vTo z r0 HR0.out X hX)
  clear hz B0 X1 z3 Z0
  generalize hA6 : z.p.a6 = A6 at *
  have HA6 := Lib.hid hA6
  clear hA6
  obtain ⟨f0, f1, f2, f3, f4, f5, f6, g0, g1, g2⟩ := HF.out W HKW.out
  rw [h3, h2, h1] at f0 f1 f2 f3 f4 f5 f6 g0 g1 g2
  generalize hBB : w.heap.size = B at *
  go_enter Tryz.func29, Tryz.ntmps29
  go_wp2_with (fail)
  rw [← h1, ← h2, ← h3]
  clear h1 h2 h3 f0 f1 f2 f3 f4 f5 f6 g0 g1 g2
  go_at_call 36
  refine (HVV.out W (HZ.out W HKW.out)).mono ?_
  rintro e v1 ⟨rfl, bb⟩
  have HKv1 := Lib.hid (below_join HKW.out bb HKW.out.size)
  clear bb
  cases r0
  · have HVE := Lib.hid (show (0 : Int) = v from HV.out)
    go_wp2_with (fail)
    go_ret
    exact ⟨(show Ending.returned (.int .i64 0) = .returned (.int .i64 v) by rw [HVE.out]), below_join HB.out HKv1.out hle⟩
  have ok := HR0.out.1 rfl
  have HOK := Lib.hid ok
  have HVE := Lib.hid (show soFar z pd z.s.hosts.length = v from HV.out)
  have HDL := Lib.hid (show z.d.hosts.length = z.s.hosts.length from ok.2.2.1)
  have hd16 := (siteOk_iff.1 ok.1).nhosts.2
  clear ok
  obtain ⟨f0, f1, f2, f3, f4, f5, f6, g0, g1, g2⟩ := HF.out v1 HKv1.out
  go_wp2_with (fail)
  clear f0 f1 f2 f3 f4 f5 f6 g0 g1 g2
  go_loopw [9, 20] (fun sm i wr => ∃ k : Nat, k ≤ z.s.hosts.length ∧ sm = .int .i64 (soFar z pd k) ∧ i = .int .i64 (k : Int) ∧ Hid (Below W.heap.size W wr)) (fun _ i _ => z.s.hosts.length - (intOf i).toNat)
  case atStart => exact ⟨0, Nat.zero_le _, rfl, rfl, HKv1⟩
  case round =>
    obtain ⟨k, hk, rfl, rfl, hK⟩ := hrel
    have hki : ((k : Nat) : Int).toNat = k := by omega
    obtain ⟨S, hS⟩ : ∃ S, soFar z pd k = S := ⟨_, rfl⟩
    have HS := Lib.hid hS
    have bS := soFar_bd HOK.out pd hk
    rw [hS] at bS
    rw [hS]
    clear hS
    by_cases hlt : k < z.s.hosts.length
    · obtain ⟨x, y, hx, hy, -, bi, bp⟩ := host_ok HOK.out hlt
      have HXX := Lib.hid hx
      have HYY := Lib.hid hy
      obtain ⟨pb, po, e6, hpb, x0, x1, x2, x3⟩ := hs_at (HZ.out wr hK.out) hx
      rw [HA6.out] at e6
      subst e6
      obtain ⟨f0, f1, f2, f3, f4, f5, f6, g0, g1, g2⟩ := HF.out wr hK.out
      have hki2 : (k : Int) < (z.s.hosts.length : Int) := by omega
      have hki3 : (k : Int) < (z.d.hosts.length : Int) := by have := HDL.out; omega
      obtain ⟨V, hV⟩ : ∃ X, X = wr.alloc (.cells #[.int .i64 x.rack, .int .i64 x.cores, .int .i64 x.idle, .int .i64 x.per] 61) := ⟨_, rfl⟩
      have bV : Below wr.heap.size wr V := by rw [hV]; exact (Below.refl _ _).alloc (Nat.le_refl _) _
      have BV : V.heap[wr.heap.size]? = some (.cells #[.int .i64 x.rack, .int .i64 x.cores, .int .i64 x.idle, .int .i64 x.per] 61 (0, 0)) := by rw [hV]; exact box_new _ _ _
      have HKV := Lib.hid (below_join hK.out bV hK.out.size)
      have HBV := Lib.hid (fun (X : World) (hX : Below V.heap.size V X) => (⟨cell_of (box_on BV hX (Nat.le_refl _)) rfl, cell_of (box_on BV hX (Nat.le_refl _)) rfl, cell_of (box_on BV hX (Nat.le_refl _)) rfl, cell_of (box_on BV hX (Nat.le_refl _)) rfl⟩ : X.cell? ⟨wr.heap.size, 0, none⟩ = some (.int .i64 x.rack) ∧ X.cell? ⟨wr.heap.size, 1, none⟩ = some (.int .i64 x.cores) ∧ X.cell? ⟨wr.heap.size, 2, none⟩ = some (.int .i64 x.idle) ∧ X.cell? ⟨wr.heap.size, 3, none⟩ = some (.int .i64 x.per)))
      have HKVV := Lib.hid (Below.refl V.heap.size V)
      clear hx hy bV BV
      rcases hp : pd k with _ | _
      · have HP := Lib.hid hp
        have HSN := Lib.hid (soFar_no hp (z := z))
        clear hp
        go_wp2_with (fail)
        rw [← hV]
        clear hV x0 x1 x2 x3 f0 f1 f2 f3 f4 f5 f6 g0 g1 g2
        go_at_call 32
        refine (HCL.out V (below_join HB.out HKV.out hle) HOK.out k hlt false HP.out).mono ?_
        rintro e v2 ⟨rfl, bb⟩
        have HK2 := Lib.hid (below_join HKV.out bb HKV.out.size)
        clear bb
        go_wp2_with (fail)
        go_roundw
        case rel => exact ⟨k + 1, by omega, by rw [HSN.out, HS.out], by go_num, HK2⟩
        case measure => simp only [intOf]; omega
      · have HP := Lib.hid hp
        clear hp
        rcases h4 : ((y.phase : Int) == 4) with _ | _
        · obtain ⟨u, hu⟩ : ∃ u, usedD z.ss z.d.reps (k : Int) = u := ⟨_, rfl⟩
          have HU := Lib.hid hu
          have bu := used_bd HOK.out (k : Int)
          rw [show usedD (Sn.ss z) z.d.reps (k : Int) = u from hu] at bu
          obtain ⟨pr, hpr⟩ : ∃ t, x.per * u = t := ⟨_, rfl⟩
          have HPR := Lib.hid hpr
          have bpr : 0 ≤ pr ∧ pr ≤ 24000000 := by
            rw [← hpr]
            have p1 := Int.mul_nonneg bp.1 bu.1
            have p2 : x.per * u ≤ 1000 * u := Int.mul_le_mul_of_nonneg_right bp.2 bu.1
            omega
          have HSY := Lib.hid (show soFar z pd (k + 1) = S + (x.idle + pr) by
            rw [soFar_yes HXX.out HYY.out HP.out (by intro h; rw [h] at h4; simp at h4), HS.out, HU.out, HPR.out])
          have hne : ((y.phase : Int) != 4) = true := by unfold bne; rw [h4]; rfl
          clear hu hpr
          go_wp2_with (fail)
          rw [← hV]
          clear hV x0 x1 x2 x3 f0 f1 f2 f3 f4 f5 f6 g0 g1 g2
          go_at_call 32
          refine (HCL.out V (below_join HB.out HKV.out hle) HOK.out k hlt true HP.out).mono ?_
          rintro e v2 ⟨rfl, bb⟩
          have HKK2 := Lib.hid (below_join HKVV.out bb (Nat.le_refl _))
          have HK2 := Lib.hid (below_join HKV.out bb HKV.out.size)
          obtain ⟨f0, f1, f2, f3, f4, f5, f6, g0, g1, g2⟩ := HF.out v2 HK2.out
          obtain ⟨qb, qo, e1, hqb, y0⟩ := ho_at (HZ.out v2 HK2.out) HYY.out
          rw [e1] at g1
          clear bb e1
          go_wp2_with (fail)
          obtain ⟨j0, j1, j2, j3⟩ := HBV.out v2 HKK2.out
          obtain ⟨f0, f1, f2, f3, f4, f5, f6, g0, g1, g2⟩ := HF.out v2 HK2.out
          go_region_held3 (fun X => (X.cell? ⟨B, 0, none⟩ = some (.slice z.p.a1 z.s.feeds.length z.p.c1) ∧ X.cell? ⟨B, 1, none⟩ = some (.slice z.p.a2 z.s.brks.length z.p.c2) ∧ X.cell? ⟨B, 2, none⟩ = some (.slice z.p.a3 z.s.loops.length z.p.c3) ∧ X.cell? ⟨B, 3, none⟩ = some (.slice z.p.a4 z.s.racks.length z.p.c4) ∧ X.cell? ⟨B, 4, none⟩ = some (.int .i64 z.s.sw) ∧ X.cell? ⟨B, 5, none⟩ = some (.slice z.p.a5 z.s.links.length z.p.c5) ∧ X.cell? ⟨B, 6, none⟩ = some (.slice (some ⟨pb, po, none⟩) z.s.hosts.length z.p.c6) ∧ X.cell? ⟨B + 1, 0, none⟩ = some (.slice z.A z.xs.length z.c) ∧ X.cell? ⟨B + 1 + 1, 0, none⟩ = some (.slice z.q.a1 z.d.hosts.length z.q.c1) ∧ X.cell? ⟨B + 1 + 1, 1, none⟩ = some (.slice z.q.a2 z.d.reps.length z.q.c2)) ∧ X.cell? ⟨wr.heap.size, 2, none⟩ = some (.int .i64 x.idle) ∧ X.cell? ⟨wr.heap.size, 3, none⟩ = some (.int .i64 x.per))
            (first | exact ⟨HF.out v3 HK3.out, (HBV.out v3 HKK3.out).2.2⟩ | exact ⟨HF.out v2 HK2.out, (HBV.out v2 HKK2.out).2.2⟩ | fail)
            (first
              | (go_at_call 45; (with_reducible refine (c_usedTo z (k : Int) u HU.out v2.drew (HZ.out v2.drew HK2.out.drew)).mono ?_); rintro e v3 ⟨rfl, bb0⟩; have bb := below_join (Below.refl v2.heap.size v2).drew bb0 (Nat.le_refl _); have HK3 := Lib.hid (below_join HK2.out bb HK2.out.size); have HKK3 := Lib.hid (below_join HKK2.out bb HKK2.out.size); clear bb bb0)
              | fail)
          go_wp2_with (fail)
          go_roundw
          case rel => exact ⟨k + 1, by omega, by rw [HSY.out, HPR.out, wrap_in (x := pr) (by omega) (by omega), wrap_in (x := x.idle + pr) (by omega) (by omega), wrap_in (by omega) (by omega)], by go_num, HK3⟩
          case measure => simp only [intOf]; omega
        · have HSN := Lib.hid (soFar_off (z := z) (b := pd) HYY.out (by have := eq_of_beq h4; omega))
          have hne : ((y.phase : Int) != 4) = false := by unfold bne; rw [h4]; rfl
          go_wp2_with (fail)
          rw [← hV]
          clear hV x0 x1 x2 x3 f0 f1 f2 f3 f4 f5 f6 g0 g1 g2
          go_at_call 32
          refine (HCL.out V (below_join HB.out HKV.out hle) HOK.out k hlt true HP.out).mono ?_
          rintro e v2 ⟨rfl, bb⟩
          have HK2 := Lib.hid (below_join HKV.out bb HKV.out.size)
          obtain ⟨f0, f1, f2, f3, f4, f5, f6, g0, g1, g2⟩ := HF.out v2 HK2.out
          obtain ⟨qb, qo, e1, hqb, y0⟩ := ho_at (HZ.out v2 HK2.out) HYY.out
          rw [e1] at g1
          clear bb e1
          go_wp2_with (fail)
          go_roundw
          case rel => exact ⟨k + 1, by omega, by rw [HSN.out, HS.out], by go_num, HK2⟩
          case measure => simp only [intOf]; omega
    · obtain rfl : k = z.s.hosts.length := by omega
      have HVS := Lib.hid (show S = v by rw [← HVE.out, HS.out])
      go_wp2_with (fail)
      go_ret
      exact ⟨(show Ending.returned (.int .i64 S) = .returned (.int .i64 v) by rw [HVS.out]), below_join HB.out hK.out hle⟩
set_option maxHeartbeats 16000000 in
theorem c_loadBrk (z : Sn) (r0 : Bool) (hr0 : r0 = true ↔ z.Ok) (b g : Nat) (k : Int) (w : World) (hz : SnAt w z) (hb : w.heap[b]? = some (.cells #[.slice z.p.a1 z.s.feeds.length z.p.c1, .slice z.p.a2 z.s.brks.length z.p.c2, .slice z.p.a3 z.s.loops.length z.p.c3, .slice z.p.a4 z.s.racks.length z.p.c4, .int .i64 z.s.sw, .slice z.p.a5 z.s.links.length z.p.c5, .slice z.p.a6 z.s.hosts.length z.p.c6] 29 (0, 0))) (hg : w.cell? ⟨g, 0, none⟩ = some (.int .i64 k)) (hgb : g < w.heap.size) (v : Int) (hv : pwV z r0 (isBrk z.s k) = v) :
    Calls Tryz.prog 29 #[.agg #[.slice z.p.a1 z.s.feeds.length z.p.c1, .slice z.p.a2 z.s.brks.length z.p.c2, .slice z.p.a3 z.s.loops.length z.p.c3, .slice z.p.a4 z.s.racks.length z.p.c4, .int .i64 z.s.sw, .slice z.p.a5 z.s.links.length z.p.c5, .slice z.p.a6 z.s.hosts.length z.p.c6], .agg #[.slice z.A z.xs.length z.c], .agg #[.slice z.q.a1 z.d.hosts.length z.q.c1, .slice z.q.a2 z.d.reps.length z.q.c2], .func (.func 33) #[] #[.pointer (some ⟨b, 0, none⟩), .pointer (some ⟨g, 0, none⟩)]] w fun e w' => e = .returned (.int .i64 v) ∧ Below w.heap.size w w' := by
  have HCL := Lib.hid (fun (X : World) (hX : Below w.heap.size w X) (ok : z.Ok) (i : Nat) (hi : i < z.s.hosts.length) (r : Bool) (hr : (isBrk z.s k) i = r) => (c_isBrk z ok b g k i X (hz.on hX (Nat.le_refl _)) (box_on hb hX (Nat.le_refl _)) ((hX.cell (p := ⟨g, 0, none⟩) hgb).trans hg) (Nat.lt_of_lt_of_le hgb hX.size) hi r hr : Calls Tryz.prog 33 #[.int .i64 (i : Int), .pointer (some ⟨b, 0, none⟩), .pointer (some ⟨g, 0, none⟩)] X fun e w' => e = .returned (.bool r) ∧ Below X.heap.size X w'))
  have HV := Lib.hid hv
  have HR0 := Lib.hid hr0
  obtain ⟨pd, hpd⟩ : ∃ f, f = isBrk z.s k := ⟨_, rfl⟩
  rw [← hpd] at HCL HV
  clear hr0 hv hb hg hgb hpd
  obtain ⟨W1, h1⟩ : ∃ W, W = w.alloc (.cells #[.slice z.p.a1 z.s.feeds.length z.p.c1, .slice z.p.a2 z.s.brks.length z.p.c2, .slice z.p.a3 z.s.loops.length z.p.c3, .slice z.p.a4 z.s.racks.length z.p.c4, .int .i64 z.s.sw, .slice z.p.a5 z.s.links.length z.p.c5, .slice z.p.a6 z.s.hosts.length z.p.c6] 29) := ⟨_, rfl⟩
  obtain ⟨W2, h2⟩ : ∃ W, W = W1.alloc (.cells #[.slice z.A z.xs.length z.c] 32) := ⟨_, rfl⟩
  obtain ⟨W, h3⟩ : ∃ W, W = W2.alloc (.cells #[.slice z.q.a1 z.d.hosts.length z.q.c1, .slice z.q.a2 z.d.reps.length z.q.c2] 36) := ⟨_, rfl⟩
  obtain ⟨B0, X1⟩ := sn_boxes h1 h2 h3
  have z3 : W.heap.size = w.heap.size + 1 + 1 + 1 := sn_size h1 h2 h3
  have HB := Lib.hid B0
  have Z0 := hz.on B0 (Nat.le_refl _)
  have HZ := Lib.hid (fun (X : World) (hX : Below W.heap.size W X) => Z0.on hX (Nat.le_refl _))
  have HF := Lib.hid (fun (X : World) (hX : Below W.heap.size W X) => ((X1.on hX (Nat.le_refl _)).cells : X.cell? ⟨w.heap.size, 0, none⟩ = some (.slice z.p.a1 z.s.feeds.length z.p.c1) ∧ X.cell? ⟨w.heap.size, 1, none⟩ = some (.slice z.p.a2 z.s.brks.length z.p.c2) ∧ X.cell? ⟨w.heap.size, 2, none⟩ = some (.slice z.p.a3 z.s.loops.length z.p.c3) ∧ X.cell? ⟨w.heap.size, 3, none⟩ = some (.slice z.p.a4 z.s.racks.length z.p.c4) ∧ X.cell? ⟨w.heap.size, 4, none⟩ = some (.int .i64 z.s.sw) ∧ X.cell? ⟨w.heap.size, 5, none⟩ = some (.slice z.p.a5 z.s.links.length z.p.c5) ∧ X.cell? ⟨w.heap.size, 6, none⟩ = some (.slice z.p.a6 z.s.hosts.length z.p.c6) ∧ X.cell? ⟨w.heap.size + 1, 0, none⟩ = some (.slice z.A z.xs.length z.c) ∧ X.cell? ⟨w.heap.size + 1 + 1, 0, none⟩ = some (.slice z.q.a1 z.d.hosts.length z.q.c1) ∧ X.cell? ⟨w.heap.size + 1 + 1, 1, none⟩ = some (.slice z.q.a2 z.d.reps.length z.q.c2)))
  have HX := Lib.hid (fun (X : World) (hX : Below W.heap.size W X) => X1.on hX (Nat.le_refl _))
  have HKW := Lib.hid (Below.refl W.heap.size W)
  have hle := HB.out.size
  obtain ⟨n1, n2, n3, n4, n5, n6, n7, n8⟩ := hz.bounds
  have HVV := Lib.hid (fun (X : World) (hX : SnAt X z) => c_vTo z r0 HR0.out X hX)
  clear hz B0 X1 z3 Z0
  generalize hA6 : z.p.a6 = A6 at *
  have HA6 := Lib.hid hA6
  clear hA6
  obtain ⟨f0, f1, f2, f3, f4, f5, f6, g0, g1, g2⟩ := HF.out W HKW.out
  rw [h3, h2, h1] at f0 f1 f2 f3 f4 f5 f6 g0 g1 g2
  generalize hBB : w.heap.size = B at *
  go_enter Tryz.func29, Tryz.ntmps29
  go_wp2_with (fail)
  rw [← h1, ← h2, ← h3]
  clear h1 h2 h3 f0 f1 f2 f3 f4 f5 f6 g0 g1 g2
  go_at_call 36
  refine (HVV.out W (HZ.out W HKW.out)).mono ?_
  rintro e v1 ⟨rfl, bb⟩
  have HKv1 := Lib.hid (below_join HKW.out bb HKW.out.size)
  clear bb
  cases r0
  · have HVE := Lib.hid (show (0 : Int) = v from HV.out)
    go_wp2_with (fail)
    go_ret
    exact ⟨(show Ending.returned (.int .i64 0) = .returned (.int .i64 v) by rw [HVE.out]), below_join HB.out HKv1.out hle⟩
  have ok := HR0.out.1 rfl
  have HOK := Lib.hid ok
  have HVE := Lib.hid (show soFar z pd z.s.hosts.length = v from HV.out)
  have HDL := Lib.hid (show z.d.hosts.length = z.s.hosts.length from ok.2.2.1)
  have hd16 := (siteOk_iff.1 ok.1).nhosts.2
  clear ok
  obtain ⟨f0, f1, f2, f3, f4, f5, f6, g0, g1, g2⟩ := HF.out v1 HKv1.out
  go_wp2_with (fail)
  clear f0 f1 f2 f3 f4 f5 f6 g0 g1 g2
  go_loopw [9, 20] (fun sm i wr => ∃ k : Nat, k ≤ z.s.hosts.length ∧ sm = .int .i64 (soFar z pd k) ∧ i = .int .i64 (k : Int) ∧ Hid (Below W.heap.size W wr)) (fun _ i _ => z.s.hosts.length - (intOf i).toNat)
  case atStart => exact ⟨0, Nat.zero_le _, rfl, rfl, HKv1⟩
  case round =>
    obtain ⟨k, hk, rfl, rfl, hK⟩ := hrel
    have hki : ((k : Nat) : Int).toNat = k := by omega
    obtain ⟨S, hS⟩ : ∃ S, soFar z pd k = S := ⟨_, rfl⟩
    have HS := Lib.hid hS
    have bS := soFar_bd HOK.out pd hk
    rw [hS] at bS
    rw [hS]
    clear hS
    by_cases hlt : k < z.s.hosts.length
    · obtain ⟨x, y, hx, hy, -, bi, bp⟩ := host_ok HOK.out hlt
      have HXX := Lib.hid hx
      have HYY := Lib.hid hy
      obtain ⟨pb, po, e6, hpb, x0, x1, x2, x3⟩ := hs_at (HZ.out wr hK.out) hx
      rw [HA6.out] at e6
      subst e6
      obtain ⟨f0, f1, f2, f3, f4, f5, f6, g0, g1, g2⟩ := HF.out wr hK.out
      have hki2 : (k : Int) < (z.s.hosts.length : Int) := by omega
      have hki3 : (k : Int) < (z.d.hosts.length : Int) := by have := HDL.out; omega
      obtain ⟨V, hV⟩ : ∃ X, X = wr.alloc (.cells #[.int .i64 x.rack, .int .i64 x.cores, .int .i64 x.idle, .int .i64 x.per] 61) := ⟨_, rfl⟩
      have bV : Below wr.heap.size wr V := by rw [hV]; exact (Below.refl _ _).alloc (Nat.le_refl _) _
      have BV : V.heap[wr.heap.size]? = some (.cells #[.int .i64 x.rack, .int .i64 x.cores, .int .i64 x.idle, .int .i64 x.per] 61 (0, 0)) := by rw [hV]; exact box_new _ _ _
      have HKV := Lib.hid (below_join hK.out bV hK.out.size)
      have HBV := Lib.hid (fun (X : World) (hX : Below V.heap.size V X) => (⟨cell_of (box_on BV hX (Nat.le_refl _)) rfl, cell_of (box_on BV hX (Nat.le_refl _)) rfl, cell_of (box_on BV hX (Nat.le_refl _)) rfl, cell_of (box_on BV hX (Nat.le_refl _)) rfl⟩ : X.cell? ⟨wr.heap.size, 0, none⟩ = some (.int .i64 x.rack) ∧ X.cell? ⟨wr.heap.size, 1, none⟩ = some (.int .i64 x.cores) ∧ X.cell? ⟨wr.heap.size, 2, none⟩ = some (.int .i64 x.idle) ∧ X.cell? ⟨wr.heap.size, 3, none⟩ = some (.int .i64 x.per)))
      have HKVV := Lib.hid (Below.refl V.heap.size V)
      clear hx hy bV BV
      rcases hp : pd k with _ | _
      · have HP := Lib.hid hp
        have HSN := Lib.hid (soFar_no hp (z := z))
        clear hp
        go_wp2_with (fail)
        rw [← hV]
        clear hV x0 x1 x2 x3 f0 f1 f2 f3 f4 f5 f6 g0 g1 g2
        go_at_call 33
        refine (HCL.out V (below_join HB.out HKV.out hle) HOK.out k hlt false HP.out).mono ?_
        rintro e v2 ⟨rfl, bb⟩
        have HK2 := Lib.hid (below_join HKV.out bb HKV.out.size)
        clear bb
        go_wp2_with (fail)
        go_roundw
        case rel => exact ⟨k + 1, by omega, by rw [HSN.out, HS.out], by go_num, HK2⟩
        case measure => simp only [intOf]; omega
      · have HP := Lib.hid hp
        clear hp
        rcases h4 : ((y.phase : Int) == 4) with _ | _
        · obtain ⟨u, hu⟩ : ∃ u, usedD z.ss z.d.reps (k : Int) = u := ⟨_, rfl⟩
          have HU := Lib.hid hu
          have bu := used_bd HOK.out (k : Int)
          rw [show usedD (Sn.ss z) z.d.reps (k : Int) = u from hu] at bu
          obtain ⟨pr, hpr⟩ : ∃ t, x.per * u = t := ⟨_, rfl⟩
          have HPR := Lib.hid hpr
          have bpr : 0 ≤ pr ∧ pr ≤ 24000000 := by
            rw [← hpr]
            have p1 := Int.mul_nonneg bp.1 bu.1
            have p2 : x.per * u ≤ 1000 * u := Int.mul_le_mul_of_nonneg_right bp.2 bu.1
            omega
          have HSY := Lib.hid (show soFar z pd (k + 1) = S + (x.idle + pr) by
            rw [soFar_yes HXX.out HYY.out HP.out (by intro h; rw [h] at h4; simp at h4), HS.out, HU.out, HPR.out])
          have hne : ((y.phase : Int) != 4) = true := by unfold bne; rw [h4]; rfl
          clear hu hpr
          go_wp2_with (fail)
          rw [← hV]
          clear hV x0 x1 x2 x3 f0 f1 f2 f3 f4 f5 f6 g0 g1 g2
          go_at_call 33
          refine (HCL.out V (below_join HB.out HKV.out hle) HOK.out k hlt true HP.out).mono ?_
          rintro e v2 ⟨rfl, bb⟩
          have HKK2 := Lib.hid (below_join HKVV.out bb (Nat.le_refl _))
          have HK2 := Lib.hid (below_join HKV.out bb HKV.out.size)
          obtain ⟨f0, f1, f2, f3, f4, f5, f6, g0, g1, g2⟩ := HF.out v2 HK2.out
          obtain ⟨qb, qo, e1, hqb, y0⟩ := ho_at (HZ.out v2 HK2.out) HYY.out
          rw [e1] at g1
          clear bb e1
          go_wp2_with (fail)
          obtain ⟨j0, j1, j2, j3⟩ := HBV.out v2 HKK2.out
          obtain ⟨f0, f1, f2, f3, f4, f5, f6, g0, g1, g2⟩ := HF.out v2 HK2.out
          go_region_held3 (fun X => (X.cell? ⟨B, 0, none⟩ = some (.slice z.p.a1 z.s.feeds.length z.p.c1) ∧ X.cell? ⟨B, 1, none⟩ = some (.slice z.p.a2 z.s.brks.length z.p.c2) ∧ X.cell? ⟨B, 2, none⟩ = some (.slice z.p.a3 z.s.loops.length z.p.c3) ∧ X.cell? ⟨B, 3, none⟩ = some (.slice z.p.a4 z.s.racks.length z.p.c4) ∧ X.cell? ⟨B, 4, none⟩ = some (.int .i64 z.s.sw) ∧ X.cell? ⟨B, 5, none⟩ = some (.slice z.p.a5 z.s.links.length z.p.c5) ∧ X.cell? ⟨B, 6, none⟩ = some (.slice (some ⟨pb, po, none⟩) z.s.hosts.length z.p.c6) ∧ X.cell? ⟨B + 1, 0, none⟩ = some (.slice z.A z.xs.length z.c) ∧ X.cell? ⟨B + 1 + 1, 0, none⟩ = some (.slice z.q.a1 z.d.hosts.length z.q.c1) ∧ X.cell? ⟨B + 1 + 1, 1, none⟩ = some (.slice z.q.a2 z.d.reps.length z.q.c2)) ∧ X.cell? ⟨wr.heap.size, 2, none⟩ = some (.int .i64 x.idle) ∧ X.cell? ⟨wr.heap.size, 3, none⟩ = some (.int .i64 x.per))
            (first | exact ⟨HF.out v3 HK3.out, (HBV.out v3 HKK3.out).2.2⟩ | exact ⟨HF.out v2 HK2.out, (HBV.out v2 HKK2.out).2.2⟩ | fail)
            (first
              | (go_at_call 45; (with_reducible refine (c_usedTo z (k : Int) u HU.out v2.drew (HZ.out v2.drew HK2.out.drew)).mono ?_); rintro e v3 ⟨rfl, bb0⟩; have bb := below_join (Below.refl v2.heap.size v2).drew bb0 (Nat.le_refl _); have HK3 := Lib.hid (below_join HK2.out bb HK2.out.size); have HKK3 := Lib.hid (below_join HKK2.out bb HKK2.out.size); clear bb bb0)
              | fail)
          go_wp2_with (fail)
          go_roundw
          case rel => exact ⟨k + 1, by omega, by rw [HSY.out, HPR.out, wrap_in (x := pr) (by omega) (by omega), wrap_in (x := x.idle + pr) (by omega) (by omega), wrap_in (by omega) (by omega)], by go_num, HK3⟩
          case measure => simp only [intOf]; omega
        · have HSN := Lib.hid (soFar_off (z := z) (b := pd) HYY.out (by have := eq_of_beq h4; omega))
          have hne : ((y.phase : Int) != 4) = false := by unfold bne; rw [h4]; rfl
          go_wp2_with (fail)
          rw [← hV]
          clear hV x0 x1 x2 x3 f0 f1 f2 f3 f4 f5 f6 g0 g1 g2
          go_at_call 33
          refine (HCL.out V (below_join HB.out HKV.out hle) HOK.out k hlt true HP.out).mono ?_
          rintro e v2 ⟨rfl, bb⟩
          have HK2 := Lib.hid (below_join HKV.out bb HKV.out.size)
          obtain ⟨f0, f1, f2, f3, f4, f5, f6, g0, g1, g2⟩ := HF.out v2 HK2.out
          obtain ⟨qb, qo, e1, hqb, y0⟩ := ho_at (HZ.out v2 HK2.out) HYY.out
          rw [e1] at g1
          clear bb e1
          go_wp2_with (fail)
          go_roundw
          case rel => exact ⟨k + 1, by omega, by rw [HSN.out, HS.out], by go_num, HK2⟩
          case measure => simp only [intOf]; omega
    · obtain rfl : k = z.s.hosts.length := by omega
      have HVS := Lib.hid (show S = v by rw [← HVE.out, HS.out])
      go_wp2_with (fail)
      go_ret
      exact ⟨(show Ending.returned (.int .i64 S) = .returned (.int .i64 v) by rw [HVS.out]), below_join HB.out hK.out hle⟩
set_option maxHeartbeats 16000000 in
theorem c_loadFeed (z : Sn) (r0 : Bool) (hr0 : r0 = true ↔ z.Ok) (b g : Nat) (k : Int) (w : World) (hz : SnAt w z) (hb : w.heap[b]? = some (.cells #[.slice z.p.a1 z.s.feeds.length z.p.c1, .slice z.p.a2 z.s.brks.length z.p.c2, .slice z.p.a3 z.s.loops.length z.p.c3, .slice z.p.a4 z.s.racks.length z.p.c4, .int .i64 z.s.sw, .slice z.p.a5 z.s.links.length z.p.c5, .slice z.p.a6 z.s.hosts.length z.p.c6] 29 (0, 0))) (hg : w.cell? ⟨g, 0, none⟩ = some (.int .i64 k)) (hgb : g < w.heap.size) (v : Int) (hv : pwV z r0 (isFeed z.s k) = v) :
    Calls Tryz.prog 29 #[.agg #[.slice z.p.a1 z.s.feeds.length z.p.c1, .slice z.p.a2 z.s.brks.length z.p.c2, .slice z.p.a3 z.s.loops.length z.p.c3, .slice z.p.a4 z.s.racks.length z.p.c4, .int .i64 z.s.sw, .slice z.p.a5 z.s.links.length z.p.c5, .slice z.p.a6 z.s.hosts.length z.p.c6], .agg #[.slice z.A z.xs.length z.c], .agg #[.slice z.q.a1 z.d.hosts.length z.q.c1, .slice z.q.a2 z.d.reps.length z.q.c2], .func (.func 35) #[] #[.pointer (some ⟨b, 0, none⟩), .pointer (some ⟨g, 0, none⟩)]] w fun e w' => e = .returned (.int .i64 v) ∧ Below w.heap.size w w' := by
  have HCL := Lib.hid (fun (X : World) (hX : Below w.heap.size w X) (ok : z.Ok) (i : Nat) (hi : i < z.s.hosts.length) (r : Bool) (hr : (isFeed z.s k) i = r) => (c_isFeed z ok b g k i X (hz.on hX (Nat.le_refl _)) (box_on hb hX (Nat.le_refl _)) ((hX.cell (p := ⟨g, 0, none⟩) hgb).trans hg) (Nat.lt_of_lt_of_le hgb hX.size) hi r hr : Calls Tryz.prog 35 #[.int .i64 (i : Int), .pointer (some ⟨b, 0, none⟩), .pointer (some ⟨g, 0, none⟩)] X fun e w' => e = .returned (.bool r) ∧ Below X.heap.size X w'))
  have HV := Lib.hid hv
  have HR0 := Lib.hid hr0
  obtain ⟨pd, hpd⟩ : ∃ f, f = isFeed z.s k := ⟨_, rfl⟩
  rw [← hpd] at HCL HV
  clear hr0 hv hb hg hgb hpd
  obtain ⟨W1, h1⟩ : ∃ W, W = w.alloc (.cells #[.slice z.p.a1 z.s.feeds.length z.p.c1, .slice z.p.a2 z.s.brks.length z.p.c2, .slice z.p.a3 z.s.loops.length z.p.c3, .slice z.p.a4 z.s.racks.length z.p.c4, .int .i64 z.s.sw, .slice z.p.a5 z.s.links.length z.p.c5, .slice z.p.a6 z.s.hosts.length z.p.c6] 29) := ⟨_, rfl⟩
  obtain ⟨W2, h2⟩ : ∃ W, W = W1.alloc (.cells #[.slice z.A z.xs.length z.c] 32) := ⟨_, rfl⟩
  obtain ⟨W, h3⟩ : ∃ W, W = W2.alloc (.cells #[.slice z.q.a1 z.d.hosts.length z.q.c1, .slice z.q.a2 z.d.reps.length z.q.c2] 36) := ⟨_, rfl⟩
  obtain ⟨B0, X1⟩ := sn_boxes h1 h2 h3
  have z3 : W.heap.size = w.heap.size + 1 + 1 + 1 := sn_size h1 h2 h3
  have HB := Lib.hid B0
  have Z0 := hz.on B0 (Nat.le_refl _)
  have HZ := Lib.hid (fun (X : World) (hX : Below W.heap.size W X) => Z0.on hX (Nat.le_refl _))
  have HF := Lib.hid (fun (X : World) (hX : Below W.heap.size W X) => ((X1.on hX (Nat.le_refl _)).cells : X.cell? ⟨w.heap.size, 0, none⟩ = some (.slice z.p.a1 z.s.feeds.length z.p.c1) ∧ X.cell? ⟨w.heap.size, 1, none⟩ = some (.slice z.p.a2 z.s.brks.length z.p.c2) ∧ X.cell? ⟨w.heap.size, 2, none⟩ = some (.slice z.p.a3 z.s.loops.length z.p.c3) ∧ X.cell? ⟨w.heap.size, 3, none⟩ = some (.slice z.p.a4 z.s.racks.length z.p.c4) ∧ X.cell? ⟨w.heap.size, 4, none⟩ = some (.int .i64 z.s.sw) ∧ X.cell? ⟨w.heap.size, 5, none⟩ = some (.slice z.p.a5 z.s.links.length z.p.c5) ∧ X.cell? ⟨w.heap.size, 6, none⟩ = some (.slice z.p.a6 z.s.hosts.length z.p.c6) ∧ X.cell? ⟨w.heap.size + 1, 0, none⟩ = some (.slice z.A z.xs.length z.c) ∧ X.cell? ⟨w.heap.size + 1 + 1, 0, none⟩ = some (.slice z.q.a1 z.d.hosts.length z.q.c1) ∧ X.cell? ⟨w.heap.size + 1 + 1, 1, none⟩ = some (.slice z.q.a2 z.d.reps.length z.q.c2)))
  have HX := Lib.hid (fun (X : World) (hX : Below W.heap.size W X) => X1.on hX (Nat.le_refl _))
  have HKW := Lib.hid (Below.refl W.heap.size W)
  have hle := HB.out.size
  obtain ⟨n1, n2, n3, n4, n5, n6, n7, n8⟩ := hz.bounds
  have HVV := Lib.hid (fun (X : World) (hX : SnAt X z) => c_vTo z r0 HR0.out X hX)
  clear hz B0 X1 z3 Z0
  generalize hA6 : z.p.a6 = A6 at *
  have HA6 := Lib.hid hA6
  clear hA6
  obtain ⟨f0, f1, f2, f3, f4, f5, f6, g0, g1, g2⟩ := HF.out W HKW.out
  rw [h3, h2, h1] at f0 f1 f2 f3 f4 f5 f6 g0 g1 g2
  generalize hBB : w.heap.size = B at *
  go_enter Tryz.func29, Tryz.ntmps29
  go_wp2_with (fail)
  rw [← h1, ← h2, ← h3]
  clear h1 h2 h3 f0 f1 f2 f3 f4 f5 f6 g0 g1 g2
  go_at_call 36
  refine (HVV.out W (HZ.out W HKW.out)).mono ?_
  rintro e v1 ⟨rfl, bb⟩
  have HKv1 := Lib.hid (below_join HKW.out bb HKW.out.size)
  clear bb
  cases r0
  · have HVE := Lib.hid (show (0 : Int) = v from HV.out)
    go_wp2_with (fail)
    go_ret
    exact ⟨(show Ending.returned (.int .i64 0) = .returned (.int .i64 v) by rw [HVE.out]), below_join HB.out HKv1.out hle⟩
  have ok := HR0.out.1 rfl
  have HOK := Lib.hid ok
  have HVE := Lib.hid (show soFar z pd z.s.hosts.length = v from HV.out)
  have HDL := Lib.hid (show z.d.hosts.length = z.s.hosts.length from ok.2.2.1)
  have hd16 := (siteOk_iff.1 ok.1).nhosts.2
  clear ok
  obtain ⟨f0, f1, f2, f3, f4, f5, f6, g0, g1, g2⟩ := HF.out v1 HKv1.out
  go_wp2_with (fail)
  clear f0 f1 f2 f3 f4 f5 f6 g0 g1 g2
  go_loopw [9, 20] (fun sm i wr => ∃ k : Nat, k ≤ z.s.hosts.length ∧ sm = .int .i64 (soFar z pd k) ∧ i = .int .i64 (k : Int) ∧ Hid (Below W.heap.size W wr)) (fun _ i _ => z.s.hosts.length - (intOf i).toNat)
  case atStart => exact ⟨0, Nat.zero_le _, rfl, rfl, HKv1⟩
  case round =>
    obtain ⟨k, hk, rfl, rfl, hK⟩ := hrel
    have hki : ((k : Nat) : Int).toNat = k := by omega
    obtain ⟨S, hS⟩ : ∃ S, soFar z pd k = S := ⟨_, rfl⟩
    have HS := Lib.hid hS
    have bS := soFar_bd HOK.out pd hk
    rw [hS] at bS
    rw [hS]
    clear hS
    by_cases hlt : k < z.s.hosts.length
    · obtain ⟨x, y, hx, hy, -, bi, bp⟩ := host_ok HOK.out hlt
      have HXX := Lib.hid hx
      have HYY := Lib.hid hy
      obtain ⟨pb, po, e6, hpb, x0, x1, x2, x3⟩ := hs_at (HZ.out wr hK.out) hx
      rw [HA6.out] at e6
      subst e6
      obtain ⟨f0, f1, f2, f3, f4, f5, f6, g0, g1, g2⟩ := HF.out wr hK.out
      have hki2 : (k : Int) < (z.s.hosts.length : Int) := by omega
      have hki3 : (k : Int) < (z.d.hosts.length : Int) := by have := HDL.out; omega
      obtain ⟨V, hV⟩ : ∃ X, X = wr.alloc (.cells #[.int .i64 x.rack, .int .i64 x.cores, .int .i64 x.idle, .int .i64 x.per] 61) := ⟨_, rfl⟩
      have bV : Below wr.heap.size wr V := by rw [hV]; exact (Below.refl _ _).alloc (Nat.le_refl _) _
      have BV : V.heap[wr.heap.size]? = some (.cells #[.int .i64 x.rack, .int .i64 x.cores, .int .i64 x.idle, .int .i64 x.per] 61 (0, 0)) := by rw [hV]; exact box_new _ _ _
      have HKV := Lib.hid (below_join hK.out bV hK.out.size)
      have HBV := Lib.hid (fun (X : World) (hX : Below V.heap.size V X) => (⟨cell_of (box_on BV hX (Nat.le_refl _)) rfl, cell_of (box_on BV hX (Nat.le_refl _)) rfl, cell_of (box_on BV hX (Nat.le_refl _)) rfl, cell_of (box_on BV hX (Nat.le_refl _)) rfl⟩ : X.cell? ⟨wr.heap.size, 0, none⟩ = some (.int .i64 x.rack) ∧ X.cell? ⟨wr.heap.size, 1, none⟩ = some (.int .i64 x.cores) ∧ X.cell? ⟨wr.heap.size, 2, none⟩ = some (.int .i64 x.idle) ∧ X.cell? ⟨wr.heap.size, 3, none⟩ = some (.int .i64 x.per)))
      have HKVV := Lib.hid (Below.refl V.heap.size V)
      clear hx hy bV BV
      rcases hp : pd k with _ | _
      · have HP := Lib.hid hp
        have HSN := Lib.hid (soFar_no hp (z := z))
        clear hp
        go_wp2_with (fail)
        rw [← hV]
        clear hV x0 x1 x2 x3 f0 f1 f2 f3 f4 f5 f6 g0 g1 g2
        go_at_call 35
        refine (HCL.out V (below_join HB.out HKV.out hle) HOK.out k hlt false HP.out).mono ?_
        rintro e v2 ⟨rfl, bb⟩
        have HK2 := Lib.hid (below_join HKV.out bb HKV.out.size)
        clear bb
        go_wp2_with (fail)
        go_roundw
        case rel => exact ⟨k + 1, by omega, by rw [HSN.out, HS.out], by go_num, HK2⟩
        case measure => simp only [intOf]; omega
      · have HP := Lib.hid hp
        clear hp
        rcases h4 : ((y.phase : Int) == 4) with _ | _
        · obtain ⟨u, hu⟩ : ∃ u, usedD z.ss z.d.reps (k : Int) = u := ⟨_, rfl⟩
          have HU := Lib.hid hu
          have bu := used_bd HOK.out (k : Int)
          rw [show usedD (Sn.ss z) z.d.reps (k : Int) = u from hu] at bu
          obtain ⟨pr, hpr⟩ : ∃ t, x.per * u = t := ⟨_, rfl⟩
          have HPR := Lib.hid hpr
          have bpr : 0 ≤ pr ∧ pr ≤ 24000000 := by
            rw [← hpr]
            have p1 := Int.mul_nonneg bp.1 bu.1
            have p2 : x.per * u ≤ 1000 * u := Int.mul_le_mul_of_nonneg_right bp.2 bu.1
            omega
          have HSY := Lib.hid (show soFar z pd (k + 1) = S + (x.idle + pr) by
            rw [soFar_yes HXX.out HYY.out HP.out (by intro h; rw [h] at h4; simp at h4), HS.out, HU.out, HPR.out])
          have hne : ((y.phase : Int) != 4) = true := by unfold bne; rw [h4]; rfl
          clear hu hpr
          go_wp2_with (fail)
          rw [← hV]
          clear hV x0 x1 x2 x3 f0 f1 f2 f3 f4 f5 f6 g0 g1 g2
          go_at_call 35
          refine (HCL.out V (below_join HB.out HKV.out hle) HOK.out k hlt true HP.out).mono ?_
          rintro e v2 ⟨rfl, bb⟩
          have HKK2 := Lib.hid (below_join HKVV.out bb (Nat.le_refl _))
          have HK2 := Lib.hid (below_join HKV.out bb HKV.out.size)
          obtain ⟨f0, f1, f2, f3, f4, f5, f6, g0, g1, g2⟩ := HF.out v2 HK2.out
          obtain ⟨qb, qo, e1, hqb, y0⟩ := ho_at (HZ.out v2 HK2.out) HYY.out
          rw [e1] at g1
          clear bb e1
          go_wp2_with (fail)
          obtain ⟨j0, j1, j2, j3⟩ := HBV.out v2 HKK2.out
          obtain ⟨f0, f1, f2, f3, f4, f5, f6, g0, g1, g2⟩ := HF.out v2 HK2.out
          go_region_held3 (fun X => (X.cell? ⟨B, 0, none⟩ = some (.slice z.p.a1 z.s.feeds.length z.p.c1) ∧ X.cell? ⟨B, 1, none⟩ = some (.slice z.p.a2 z.s.brks.length z.p.c2) ∧ X.cell? ⟨B, 2, none⟩ = some (.slice z.p.a3 z.s.loops.length z.p.c3) ∧ X.cell? ⟨B, 3, none⟩ = some (.slice z.p.a4 z.s.racks.length z.p.c4) ∧ X.cell? ⟨B, 4, none⟩ = some (.int .i64 z.s.sw) ∧ X.cell? ⟨B, 5, none⟩ = some (.slice z.p.a5 z.s.links.length z.p.c5) ∧ X.cell? ⟨B, 6, none⟩ = some (.slice (some ⟨pb, po, none⟩) z.s.hosts.length z.p.c6) ∧ X.cell? ⟨B + 1, 0, none⟩ = some (.slice z.A z.xs.length z.c) ∧ X.cell? ⟨B + 1 + 1, 0, none⟩ = some (.slice z.q.a1 z.d.hosts.length z.q.c1) ∧ X.cell? ⟨B + 1 + 1, 1, none⟩ = some (.slice z.q.a2 z.d.reps.length z.q.c2)) ∧ X.cell? ⟨wr.heap.size, 2, none⟩ = some (.int .i64 x.idle) ∧ X.cell? ⟨wr.heap.size, 3, none⟩ = some (.int .i64 x.per))
            (first | exact ⟨HF.out v3 HK3.out, (HBV.out v3 HKK3.out).2.2⟩ | exact ⟨HF.out v2 HK2.out, (HBV.out v2 HKK2.out).2.2⟩ | fail)
            (first
              | (go_at_call 45; (with_reducible refine (c_usedTo z (k : Int) u HU.out v2.drew (HZ.out v2.drew HK2.out.drew)).mono ?_); rintro e v3 ⟨rfl, bb0⟩; have bb := below_join (Below.refl v2.heap.size v2).drew bb0 (Nat.le_refl _); have HK3 := Lib.hid (below_join HK2.out bb HK2.out.size); have HKK3 := Lib.hid (below_join HKK2.out bb HKK2.out.size); clear bb bb0)
              | fail)
          go_wp2_with (fail)
          go_roundw
          case rel => exact ⟨k + 1, by omega, by rw [HSY.out, HPR.out, wrap_in (x := pr) (by omega) (by omega), wrap_in (x := x.idle + pr) (by omega) (by omega), wrap_in (by omega) (by omega)], by go_num, HK3⟩
          case measure => simp only [intOf]; omega
        · have HSN := Lib.hid (soFar_off (z := z) (b := pd) HYY.out (by have := eq_of_beq h4; omega))
          have hne : ((y.phase : Int) != 4) = false := by unfold bne; rw [h4]; rfl
          go_wp2_with (fail)
          rw [← hV]
          clear hV x0 x1 x2 x3 f0 f1 f2 f3 f4 f5 f6 g0 g1 g2
          go_at_call 35
          refine (HCL.out V (below_join HB.out HKV.out hle) HOK.out k hlt true HP.out).mono ?_
          rintro e v2 ⟨rfl, bb⟩
          have HK2 := Lib.hid (below_join HKV.out bb HKV.out.size)
          obtain ⟨f0, f1, f2, f3, f4, f5, f6, g0, g1, g2⟩ := HF.out v2 HK2.out
          obtain ⟨qb, qo, e1, hqb, y0⟩ := ho_at (HZ.out v2 HK2.out) HYY.out
          rw [e1] at g1
          clear bb e1
          go_wp2_with (fail)
          go_roundw
          case rel => exact ⟨k + 1, by omega, by rw [HSN.out, HS.out], by go_num, HK2⟩
          case measure => simp only [intOf]; omega
    · obtain rfl : k = z.s.hosts.length := by omega
      have HVS := Lib.hid (show S = v by rw [← HVE.out, HS.out])
      go_wp2_with (fail)
      go_ret
      exact ⟨(show Ending.returned (.int .i64 S) = .returned (.int .i64 v) by rw [HVS.out]), below_join HB.out hK.out hle⟩
end Go.Proofs.YtidpiokkfnhobaaGreat
