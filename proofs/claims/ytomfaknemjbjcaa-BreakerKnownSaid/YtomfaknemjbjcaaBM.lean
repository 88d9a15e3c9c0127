/-
  DERIVED. A range over an iterator that writes its own boxes between two rounds: the caller's side.
-/
import Derived.Test.YtomfaknemjbjcaaBA
import Derived.ProofKit
import Derived.Below
import Derived.RangeFuncNested
import Derived.RangeFuncBound
import Derived.RangeFuncCalls
import Derived.RangeFuncLeaves
import Derived.RangeFuncBox
import Derived.Shelf.Abstract
import Derived.Shelf.RegionOpen
import Derived.OwnWalkIn
import Derived.TacticsInMore
import Derived.LoopNIn
import Derived.LoopIn
namespace Go.Proofs.Ytomfaknemjbjcaa
open Go.RowKit Go.Shelf

/-- What the iterator is: whatever holds between two rounds and abides the iterator's own steps E, holds behind all rounds, or a round has left. A value that is yielded is 'ok' for a number. -/
def SeqOwn {α : Type} (F : Fence) (n : Nat) (P : Program) (g : Nat) (lb : Array Value) (E Kp : World → World → Prop) (ok : Array Value → α → World → Prop) (ts : List α) (w : World) : Prop :=
  ∀ (l : Nat) (J Jx : List α → World → Prop) (W : World), Below w.heap.size w W →
    (∀ pre X Y, J pre X → E X Y → J pre Y) →
    (∀ pre v t W1, J pre W1 → ok v t W1 → pre ++ [t] <+: ts → YieldAt F (n - 1) P l v W1 fun e W' =>
      (e = .returned (.bool true) ∧ J (pre ++ [t]) W' ∧ Kp W1 W') ∨ (e = .returned (.bool false) ∧ Jx (pre ++ [t]) W')) →
    J [] W →
    CallsIn F n P g (#[.func (.yield l) #[] #[]] ++ lb) W fun e W' => (∃ v, e = .returned v) ∧ (J ts W' ∨ ∃ pre, pre <+: ts ∧ Jx pre W')

section
variable {α : Type} {F : Fence} {n : Nat} {P : Program}
/-- The heap at a block that is not the one that turns. -/
theorem put_other {W : World} {l k : Nat} {o' : Obj} {o : Obj} (hk : W.heap[k]? = some o) (hne : k ≠ l) : (W.putObj l o').heap[k]? = some o := (World.putObj_heap_other hne).trans hk
theorem put_same {W : World} {l : Nat} {o : Obj} (o' : Obj) (hl : W.heap[l]? = some o) : (W.putObj l o').heap[l]? = some o' := World.putObj_heap_same (Array.getElem?_eq_some_iff.1 hl).1

theorem wpIn_over {g : Operand} {ps : Array Tmp} {assign body : Code} {Q : Exit → Act → World → Prop} {a : Act} {w : World}
    (hro : F.round = none) (h1 : 1 ≤ n) {gf : Nat} {lb : Array Value} (hg : a.eval g = .func (.func gf) #[] lb) (hFg : F.fn gf) (eg : ∀ args w, (callFunc gf args).run P w = .ok (.enter gf args) w)
    {E Kp : World → World → Prop} {ok : Array Value → α → World → Prop} {ts : List α} {w0 : World} (hseq : SeqOwn F (n - 1) P gf lb E Kp ok ts w0) (hb0 : Below w0.heap.size w0 w) (hps : ∀ v t W, ok v t W → v.size = ps.size)
    (hEk : ∀ (X Y : World) (k : Nat) (o : Obj), E X Y → X.heap[k]? = some o → o.isCells = false → Y.heap[k]? = some o)
    (hKt : ∀ {A B C : World}, Kp A B → Kp B C → Kp A C) (hKb : ∀ (W : World) (l : Nat) (o o' : Obj), W.heap[l]? = some o → o.isCells = false → Kp W (W.putObj l o'))
    (hok : ∀ (v : Array Value) (t : α) (W : World) (l : Nat) (o o' : Obj), ok v t W → W.heap[l]? = some o → o.isCells = false → ok v t (W.putObj l o'))
    (I : List α → World → Prop) (Ix : Code → List α → World → Prop) (hIE : ∀ pre X Y, I pre X → E X Y → I pre Y)
    (hIP : ∀ (pre : List α) (X : World) (l : Nat) (o o' : Obj), I pre X → w.heap.size ≤ l → X.heap[l]? = some o → o.isCells = false → I pre (X.putObj l o'))
    (hXP : ∀ (c : Code) (pre : List α) (X : World) (l : Nat) (o o' : Obj), Ix c pre X → w.heap.size ≤ l → X.heap[l]? = some o → o.isCells = false → Ix c pre (X.putObj l o'))
    (hIA : ∀ (X : World) (o : Obj), I [] X → I [] (X.alloc o)) (h0 : I [] w)
    (hEB : ∀ A B : World, Below A.heap.size A B → E A B) (hKB : ∀ A B : World, Below A.heap.size A B → Kp A B) (hokB : ∀ (v : Array Value) (t : α) (A B : World), Below A.heap.size A B → ok v t A → ok v t B)
    (hround : ∀ (l : Nat) (pre : List α) (v : Array Value) (t : α) (W : World) (K : Act → World → Prop), pre ++ [t] <+: ts → ok v t W →
      (∀ (a' : Act) (W' : World), Below W.heap.size W W' → (∀ X : World, w.heap.size ≤ l → (∃ o o' : Obj, W'.heap[l]? = some o ∧ o.isCells = false ∧ X = W'.putObj l o') → I pre X → ok v t X → body.wpIn (F.inRound l) (n - 1 - 1) P (ownPostG w.heap.size Kp I Ix (pre ++ [t]) X) a' X) → K a' W') →
      assign.wpIn (F.inRound l) (n - 1 - 1) P (Exit.then K (fun _ _ _ => False)) { tmps := (ps.zip v).foldl (fun t (p, v) => t.setIfInBounds p v) a.tmps, defers := [] } W)
    (hdone : ∀ (D : Nat) (W : World), w.heap.size ≤ D → I ts W → W.heap[D]? = some (.deferred (some [])) → Q .normal { a with defers := { target := .collected D, args := #[] } :: a.defers } W)
    (hstop : ∀ (D : Nat) (c : Code) (pre : List α) (W : World), w.heap.size ≤ D → pre <+: ts → Ix c pre W → W.heap[D]? = some (.deferred (some [])) → c.wpIn F n P Q { a with defers := { target := .collected D, args := #[] } :: a.defers } W) :
    (Code.rangeFunc g ps assign body).wpIn F n P Q a w := by
  refine wpIn_rangeFunc fun fn hfn => ?_
  rw [hro]
  let D := w.heap.size
  let rec0 : LoopState → Option Code → Loop := fun st pe => { state := st, pending := pe, fn, tmps := a.tmps, params := ps, assign, body, defers := D }
  obtain ⟨V, hV⟩ : ∃ V, (w.alloc (.deferred (some []))).alloc (.loop (rec0 .ready none)) = V := ⟨_, rfl⟩
  have sV : (w.alloc (.deferred (some []))).heap.size = D + 1 := World.size_alloc ..
  have lV : V.heap[D + 1]? = some (.loop (rec0 .ready none)) := by
    have := World.alloc_heap_new (w.alloc (.deferred (some []))) (.loop (rec0 .ready none))
    rwa [sV, hV] at this
  have dV : V.heap[D]? = some (.deferred (some [])) := by
    rw [← hV]
    exact (Below.heap_alloc _ _ _ (by rw [sV]; exact Nat.lt_succ_self _)).trans (World.alloc_heap_new w _)
  have bV : Below w.heap.size w V := by rw [← hV]; exact ((Below.refl _ w).alloc (Nat.le_refl _) _).alloc (by rw [sV]; exact Nat.le_succ _) _
  have iV : I [] V := by rw [← hV]; exact hIA _ _ (hIA _ _ h0)
  refine ⟨D + 1, [{ target := .collected D, args := #[] }], V, { target := .fn (.func gf) lb, args := #[.func (.yield (D + 1)) #[] #[]] }, V, gf, #[.func (.yield (D + 1)) #[] #[]] ++ lb, V, ?_, ?_, ?_, ?_, fun _ => h1, ?_⟩
  · rw [← hV]; exact run_enterLoop_outer _ _ _ _ _
  · simp only [resolve, hg]; simp [go_sem]
  · intro f' hf'; simp [Target.leads] at hf'; subst hf'; exact hFg
  · simp [invoke, go_sem, eg]
  -- between two rounds the record is ready and nothing is deferred; a round that has left lays its jump
  refine (hseq (D + 1) (fun pre W => I pre W ∧ W.heap[D + 1]? = some (.loop (rec0 .ready none)) ∧ W.heap[D]? = some (.deferred (some [])))
    (fun pre W => ∃ c, Ix c pre W ∧ W.heap[D + 1]? = some (.loop (rec0 .done (some c))) ∧ W.heap[D]? = some (.deferred (some []))) V (hb0.trans (bV.mono hb0.size))
    (fun pre X Y h hE => ⟨hIE _ _ _ h.1 hE, hEk _ _ _ _ hE h.2.1 rfl, hEk _ _ _ _ hE h.2.2 rfl⟩) ?_ ⟨iV, lV, dV⟩).mono ?_
  · rintro pre v t W ⟨hi, hl, hd⟩ hv hpre
    refine ⟨fn, _, assign, body, run_yield hl (by simp [rec0, hps _ _ _ hv]), roundIn_of_wpIn hfn (hround (D + 1) pre v t W _ hpre hv fun a' W' hBW hbody => ⟨_, run_beginRound ((hBW.block _ (Array.getElem?_eq_some_iff.1 hl).1).trans hl) rfl, ?_⟩)⟩
    have hl1 := (hBW.block _ (Array.getElem?_eq_some_iff.1 hl).1).trans hl
    have hd1 := (hBW.block _ (Array.getElem?_eq_some_iff.1 hd).1).trans hd
    have hi1 := hIE pre W W' hi (hEB _ _ hBW)
    have hl2 := put_same (.loop { rec0 .ready none with state := .busy }) hl1
    have hd2 : (W'.putObj (D + 1) (.loop { rec0 .ready none with state := .busy })).heap[D]? = some (.deferred (some [])) := put_other hd1 (by omega)
    have hk2 : Kp W (W'.putObj (D + 1) (.loop { rec0 .ready none with state := .busy })) := hKt (hKB _ _ hBW) (hKb _ _ _ _ hl1 rfl)
    refine wpIn_mono (hbody _ (Nat.le_succ _) ⟨_, _, hl1, rfl, rfl⟩ (hIP _ _ _ _ _ hi1 (Nat.le_succ _) hl1 rfl) (hok _ _ _ _ _ _ (hokB _ _ _ _ hBW hv) hl1 rfl)) ?_
    generalize W'.putObj (D + 1) (.loop { rec0 .ready none with state := .busy }) = X at hl2 hd2 hk2
    -- the end of a round
    have fin : ∀ (jump : Option Code) (Y : World), KeepsFrom w.heap.size X Y → Y.heap[D + 1]? = some (.loop { rec0 .ready none with state := .busy }) ∧
        (Instr.endRound (D + 1) jump).run P Y = .ok (.bool jump.isNone) (Y.putObj (D + 1) (.loop (rec0 (if jump.isNone then .ready else .done) jump))) ∧
        (Y.putObj (D + 1) (.loop (rec0 (if jump.isNone then .ready else .done) jump))).heap[D + 1]? = some (.loop (rec0 (if jump.isNone then .ready else .done) jump)) ∧
        (Y.putObj (D + 1) (.loop (rec0 (if jump.isNone then .ready else .done) jump))).heap[D]? = some (.deferred (some [])) := fun jump Y hY => by
      have l3 := hY.same _ _ (Nat.le_succ _) hl2 rfl
      exact ⟨l3, run_endRound jump l3, put_same _ l3, put_other (hY.same _ _ (Nat.le_refl _) hd2 rfl) (by omega)⟩
    intro e a3 Y hp
    have left : ∀ c : Code, KeepsFrom w.heap.size X Y → Ix c (pre ++ [t]) Y → ∃ v w', (Instr.endRound (D + 1) (some c)).run P Y = .ok v w' ∧ ((Ending.returned v = .returned (.bool true) ∧ (I (pre ++ [t]) w' ∧ w'.heap[D + 1]? = some (.loop (rec0 .ready none)) ∧ w'.heap[D]? = some (.deferred (some []))) ∧ Kp W w') ∨
        (Ending.returned v = .returned (.bool false) ∧ ∃ c, Ix c (pre ++ [t]) w' ∧ w'.heap[D + 1]? = some (.loop (rec0 .done (some c))) ∧ w'.heap[D]? = some (.deferred (some [])))) := fun c hY hx => by
      obtain ⟨l3, r3, l4, d4⟩ := fin (some c) Y hY
      exact ⟨_, _, r3, .inr ⟨rfl, c, hXP _ _ _ _ _ _ hx (Nat.le_succ _) l3 rfl, l4, d4⟩⟩
    cases e with
    | normal =>
      obtain ⟨hY, hkp, hi3⟩ := hp
      obtain ⟨l3, r3, l4, d4⟩ := fin none Y hY
      exact ⟨_, _, r3, .inl ⟨rfl, ⟨hIP _ _ _ _ _ hi3 (Nat.le_succ _) l3 rfl, l4, d4⟩, hKt (hKt hk2 hkp) (hKb _ _ _ _ l3 rfl)⟩⟩
    | ret => exact left .ret hp.1 hp.2
    | exit id => exact left (.exit id) hp.1 hp.2
    | goto t => exact left (.goto t) hp.1 hp.2
    | panic ch => exact hp.elim
    | outgrown => exact hp.elim
  · rintro e Y ⟨⟨v, rfl⟩, ⟨hi, hl, hd⟩ | ⟨pre, hpre, c, hx, hl, hd⟩⟩
    · exact ⟨none, _, run_endLoop hl (by simp [rec0]), hdone D _ (Nat.le_refl _) (hIP _ _ _ _ _ hi (Nat.le_succ _) hl rfl) (put_other hd (by omega))⟩
    · exact ⟨some c, _, run_endLoop hl (by simp [rec0]), hstop D c pre _ (Nat.le_refl _) hpre (hXP _ _ _ _ _ _ hx (Nat.le_succ _) hl rfl) (put_other hd (by omega))⟩
end
end Go.Proofs.Ytomfaknemjbjcaa
