/- A range over an iterator that keeps a state of its own in cells: what it must answer, and the loop's law (any program). -/
import Derived.Test.YtillnjhmdgmgeaaDoorBC2
import Derived.RangeFuncBox
import Derived.RangeFuncNested
import Derived.RangeFuncWrites
import Derived.RangeFuncLeaves
import Derived.Shelf.Abstract
import Derived.OwnWalkIn
import Derived.TacticsInMore
import Derived.LoopNIn
import Derived.LoopIn
import Derived.Maps.AppendAt
namespace Go.Proofs.YtillnjhmdgmgeaaDoor
set_option linter.unusedVariables false
set_option linter.unusedSimpArgs false
open Go.RowKit Go.Shelf
/-- an iterator that gives l, or as much of it as is asked for; its own cells lie from B on and below m -/
def SeqC {α : Type} (n : Nat) (P : Program) (gf : Nat) (lb : Array Value) (encs : α → Array Value) (B m : Nat) (l : List α) (w : World) : Prop :=
  ∀ (lp : Nat) (J Jx : List α → World → Prop) (W : World), Below w.heap.size w W →
    (∀ s X Y, J s X → X.grownBy Y none → J s Y) →
    (∀ s X b u, J s X → B ≤ b → b < m → J s (X.setCell ⟨b, 0, none⟩ u)) →
    (∀ pre x X, J pre X → pre ++ [x] <+: l → YieldAt Fence.wide (n - 1) P lp (encs x) X fun e Y =>
      (e = .returned (.bool true) ∧ J (pre ++ [x]) Y ∧ Below m X Y) ∨ (e = .returned (.bool false) ∧ Jx (pre ++ [x]) Y)) →
    J [] W →
    CallsIn Fence.wide n P gf (#[.func (.yield lp) #[] #[]] ++ lb) W fun e Y => (∃ v, e = .returned v) ∧ (J l Y ∨ ∃ pre, pre <+: l ∧ Jx pre Y)
/-- what a loop keeps while its iterator works: D is the heap's size where the loop begins -/
structure Stays {α : Type} (B m D : Nat) (I : List α → World → Prop) : Prop where
  put : ∀ s X r o o', I s X → D ≤ r → X.heap[r]? = some o → o.isCells = false → I s (X.putObj r o')
  grown : ∀ s X Y, I s X → X.grownBy Y none → I s Y
  cell : ∀ s X b u, I s X → B ≤ b → b < m → I s (X.setCell ⟨b, 0, none⟩ u)
theorem Stays.and {α : Type} {B m D : Nat} {I I' : List α → World → Prop} (h : Stays B m D I) (h' : Stays B m D I') : Stays B m D (fun s W => I s W ∧ I' s W) :=
  ⟨fun s X r o o' hs hr ho hc => ⟨h.put s X r o o' hs.1 hr ho hc, h'.put s X r o o' hs.2 hr ho hc⟩, fun s X Y hs hg => ⟨h.grown s X Y hs.1 hg, h'.grown s X Y hs.2 hg⟩, fun s X b u hs hB hm => ⟨h.cell s X b u hs.1 hB hm, h'.cell s X b u hs.2 hB hm⟩⟩
theorem stays_pure {α : Type} (B m D : Nat) (p : List α → Prop) : Stays B m D (fun s (_ : World) => p s) := ⟨fun _ _ _ _ _ hs _ _ _ => hs, fun _ _ _ hs _ => hs, fun _ _ _ _ hs _ _ => hs⟩
theorem stays_below {α : Type} {B m D : Nat} {w : World} (h1 : B ≤ w.heap.size) (h2 : w.heap.size ≤ D) : Stays B m D (fun (_ : List α) W => Below B w W) := by
  refine ⟨fun s X r o o' hs hr ho hc => ?_, fun s X Y hs hg => ?_, fun s X b u hs hB hm => hs.setCell (p := ⟨b, 0, none⟩) hB u⟩
  · have hg := grownBy_putObj' X r o'
    refine hs.trans ⟨hg.os, hg.tape, hg.output, hg.size, fun k hk => hg.block k ?_ ?_⟩
    · have := hs.size; omega
    · intro e; injection e with e; omega
  · exact hs.trans ⟨hg.os, hg.tape, hg.output, hg.size, fun k hk => hg.block k (by have := hs.size; omega) (by intro e; cases e)⟩
theorem stays_own {α : Type} {B m D : Nat} {I : List α → World → Prop} (h : Own I) (hc : ∀ s X b u, I s X → B ≤ b → b < m → I s (X.setCell ⟨b, 0, none⟩ u)) : Stays B m D I :=
  ⟨fun s X r o o' hs hr ho hc' => h s X _ (some r) hs (grownBy_putObj' X r o') (fun r' e => by cases e; exact ⟨o, ho, hc'⟩), fun s X Y hs hg => h s X Y none hs hg (fun r e => by cases e), hc⟩
theorem stays_box {α : Type} {B m D : Nat} (b : Nat) (t : TypeId) (f : List α → Value) (hb : m ≤ b) : Stays B m D (fun s W => Boxed W b t (f s)) :=
  stays_own (boxed_own b t f) fun s X b' u hs _ hm => hs.other (by omega) u
set_option maxHeartbeats 1000000 in
theorem wpIn_rangeSeq {α : Type} {n : Nat} {P : Program} {g : Operand} {ps : Array Tmp} {assign body : Code} {Q : Exit → Act → World → Prop} {a : Act} {w : World}
    (h1 : 1 ≤ n) {gf : Nat} {lb : Array Value} (hg : a.eval g = .func (.func gf) #[] lb) (eg : ∀ args w, (callFunc gf args).run P w = .ok (.enter gf args) w)
    {encs : α → Array Value} {B m : Nat} {l : List α} (hseq : SeqC (n - 1) P gf lb encs B m l w) (hm : m ≤ w.heap.size) (hps : ∀ x, (encs x).size = ps.size)
    (I : List α → World → Prop) (Ix : Code → List α → World → Prop) (hI : Stays B m w.heap.size I) (hIx : ∀ c s X r o o', Ix c s X → w.heap.size ≤ r → X.heap[r]? = some o → o.isCells = false → Ix c s (X.putObj r o')) (h0 : I [] w) (a₁ : α → Act)
    (hassign : ∀ (lp : Nat) (x : α) (W : World) (K : Act → World → Prop), K (a₁ x) W →
      assign.wpIn (Fence.wide.inRound lp) (n - 1 - 1) P (Exit.then K (fun _ _ _ => False)) { tmps := (ps.zip (encs x)).foldl (fun t (p, v) => t.setIfInBounds p v) a.tmps, defers := [] } W)
    (hbody : ∀ (lp : Nat) (pre : List α) (x : α) (W : World), I pre W → pre ++ [x] <+: l → body.wpIn (Fence.wide.inRound lp) (n - 1 - 1) P (ownPostG w.heap.size (Below m) I Ix (pre ++ [x]) W) (a₁ x) W)
    (hdone : ∀ (D : Nat) (W : World), w.heap.size ≤ D → I l W → W.heap[D]? = some (.deferred (some [])) → Q .normal { a with defers := { target := .collected D, args := #[] } :: a.defers } W)
    (hstop : ∀ (D : Nat) (c : Code) (pre : List α) (W : World), w.heap.size ≤ D → pre <+: l → Ix c pre W → W.heap[D]? = some (.deferred (some [])) → c.wpIn Fence.wide n P Q { a with defers := { target := .collected D, args := #[] } :: a.defers } W) :
    (Code.rangeFunc g ps assign body).wpIn Fence.wide n P Q a w := by
  refine wpIn_rangeFunc fun fn hfn => ?_
  obtain ⟨D, hD⟩ : ∃ D, w.heap.size = D := ⟨_, rfl⟩
  let rec' : LoopState → Option Code → Loop := fun st pe => { state := st, pending := pe, fn, tmps := a.tmps, params := ps, assign, body, defers := w.heap.size }
  obtain ⟨W1, hW1⟩ : ∃ W1, (w.alloc (.deferred (some []))).alloc (.loop (rec' .ready none)) = W1 := ⟨_, rfl⟩
  have grew : ∀ {X Y : World} {k : Nat} {o : Obj}, X.grownBy Y none → X.heap[k]? = some o → Y.heap[k]? = some o := fun {X Y k o} hg ho => (hg.block k (Array.getElem?_eq_some_iff.1 ho).1 (by intro e; cases e)).trans ho
  have setc : ∀ {X : World} {b k : Nat} {u : Value} {o : Obj}, b ≠ k → X.heap[k]? = some o → (X.setCell ⟨b, 0, none⟩ u).heap[k]? = some o := fun {X b k u o} hne ho => ((grownBy_setCell' X b u).block k (Array.getElem?_eq_some_iff.1 ho).1 (by intro e; injection e with e; exact hne e.symm)).trans ho
  have lrec : W1.heap[w.heap.size + 1]? = some (.loop (rec' .ready none)) := by
    have := World.alloc_heap_new (w.alloc (.deferred (some []))) (.loop (rec' .ready none))
    rw [World.size_alloc] at this
    rwa [hW1] at this
  have ldef : W1.heap[w.heap.size]? = some (.deferred (some [])) := by
    rw [← hW1]
    exact grew (World.grownBy_alloc _ _ none) (World.alloc_heap_new w _)
  have below1 : Below w.heap.size w W1 := by
    rw [← hW1]
    exact ((Below.refl _ w).alloc (Nat.le_refl _) _).alloc (by simp) _
  have inv1 : I [] W1 := by
    rw [← hW1]
    exact hI.grown _ _ _ (hI.grown _ _ _ h0 (World.grownBy_alloc _ _ none)) (World.grownBy_alloc _ _ none)
  refine ⟨w.heap.size + 1, [{ target := .collected w.heap.size, args := #[] }], W1, { target := .fn (.func gf) lb, args := #[.func (.yield (w.heap.size + 1)) #[] #[]] }, W1, gf, #[.func (.yield (w.heap.size + 1)) #[] #[]] ++ lb, W1, ?_, ?_, ?_, ?_, fun _ => h1, ?_⟩
  · rw [← hW1]
    exact run_enterLoop_outer _ _ _ _ _
  · simp only [resolve, hg]
    simp [go_sem]
  · intro f' _
    trivial
  · simp [invoke, go_sem, eg]
  refine (hseq (w.heap.size + 1)
    (fun pre W => I pre W ∧ W.heap[w.heap.size + 1]? = some (.loop (rec' .ready none)) ∧ W.heap[w.heap.size]? = some (.deferred (some [])))
    (fun pre W => ∃ c, Ix c pre W ∧ W.heap[w.heap.size + 1]? = some (.loop (rec' .done (some c))) ∧ W.heap[w.heap.size]? = some (.deferred (some [])))
    W1 below1
    (fun s X Y hs hg' => ⟨hI.grown s X Y hs.1 hg', grew hg' hs.2.1, grew hg' hs.2.2⟩)
    (fun s X b u hs hB hb => ⟨hI.cell s X b u hs.1 hB hb, setc (by omega) hs.2.1, setc (by omega) hs.2.2⟩)
    ?_ ⟨inv1, lrec, ldef⟩).mono ?_
  · rintro pre x W ⟨hi, hl, hk⟩ hlen
    have hlt : w.heap.size + 1 < W.heap.size := (Array.getElem?_eq_some_iff.1 hl).1
    have hy := run_yield (P := P) (args := encs x) hl (hps x)
    refine ⟨fn, _, assign, body, hy, roundIn_of_wpIn hfn (hassign _ x W _ ?_)⟩
    clear hy
    refine ⟨_, run_beginRound hl rfl, ?_⟩
    have hl2 : (W.putObj (w.heap.size + 1) (.loop { rec' .ready none with state := .busy })).heap[w.heap.size + 1]? = some (.loop { rec' .ready none with state := .busy }) := World.putObj_heap_same hlt
    have hk2 : (W.putObj (w.heap.size + 1) (.loop { rec' .ready none with state := .busy })).heap[w.heap.size]? = some (.deferred (some [])) := (World.putObj_heap_other (by omega)).trans hk
    have bel : ∀ (X : World) (o' : Obj), w.heap.size + 1 < X.heap.size → Below m X (X.putObj (w.heap.size + 1) o') := fun X o' hx => by
      have hgr := grownBy_putObj' X (w.heap.size + 1) o'
      exact ⟨hgr.os, hgr.tape, hgr.output, hgr.size, fun k hk' => hgr.block k (by omega) (by intro e; injection e with e; omega)⟩
    refine wpIn_mono (hbody _ pre x _ (hI.put _ _ _ _ _ hi (by omega) hl rfl) hlen) ?_
    have fin : ∀ (jump : Option Code) (W3 : World), KeepsFrom w.heap.size (W.putObj (w.heap.size + 1) (.loop { rec' .ready none with state := .busy })) W3 →
        (Instr.endRound (w.heap.size + 1) jump).run P W3 = .ok (.bool jump.isNone) (W3.putObj (w.heap.size + 1) (.loop (rec' (if jump.isNone then .ready else .done) jump))) ∧
        W3.heap[w.heap.size + 1]? = some (.loop { rec' .ready none with state := .busy }) ∧
        (W3.putObj (w.heap.size + 1) (.loop (rec' (if jump.isNone then .ready else .done) jump))).heap[w.heap.size + 1]? = some (.loop (rec' (if jump.isNone then .ready else .done) jump)) ∧
        (W3.putObj (w.heap.size + 1) (.loop (rec' (if jump.isNone then .ready else .done) jump))).heap[w.heap.size]? = some (.deferred (some [])) := fun jump W3 hk3 => by
      have hl3 := hk3.same _ _ (by omega) hl2 rfl
      exact ⟨run_endRound (P := P) jump hl3, hl3, World.putObj_heap_same (Array.getElem?_eq_some_iff.1 hl3).1, (World.putObj_heap_other (by omega)).trans (hk3.same _ _ (Nat.le_refl _) hk2 rfl)⟩
    rintro e a3 W3 hp
    cases e with
    | normal =>
      obtain ⟨hk3, hkp3, hi3⟩ := hp
      obtain ⟨hr, hl3, hl4, hk4⟩ := fin none W3 hk3
      exact ⟨_, _, hr, .inl ⟨rfl, ⟨hI.put _ _ _ _ _ hi3 (by omega) hl3 rfl, hl4, hk4⟩, ((bel W _ hlt).trans hkp3).trans (bel W3 _ (Array.getElem?_eq_some_iff.1 hl3).1)⟩⟩
    | ret =>
      obtain ⟨hk3, hi3⟩ := hp
      obtain ⟨hr, hl3, hl4, hk4⟩ := fin (some .ret) W3 hk3
      exact ⟨_, _, hr, .inr ⟨rfl, .ret, hIx _ _ _ _ _ _ hi3 (by omega) hl3 rfl, hl4, hk4⟩⟩
    | exit id =>
      obtain ⟨hk3, hi3⟩ := hp
      obtain ⟨hr, hl3, hl4, hk4⟩ := fin (some (.exit id)) W3 hk3
      exact ⟨_, _, hr, .inr ⟨rfl, .exit id, hIx _ _ _ _ _ _ hi3 (by omega) hl3 rfl, hl4, hk4⟩⟩
    | goto t =>
      obtain ⟨hk3, hi3⟩ := hp
      obtain ⟨hr, hl3, hl4, hk4⟩ := fin (some (.goto t)) W3 hk3
      exact ⟨_, _, hr, .inr ⟨rfl, .goto t, hIx _ _ _ _ _ _ hi3 (by omega) hl3 rfl, hl4, hk4⟩⟩
    | panic ch => exact hp.elim
    | outgrown => exact hp.elim
  · rintro e W2 ⟨⟨v, rfl⟩, (⟨hi, hl, hk⟩ | ⟨pre, hSp, c, hi, hl, hk⟩)⟩
    · exact ⟨none, _, run_endLoop (P := P) hl (by simp [rec']), hdone _ _ (Nat.le_refl _) (hI.put _ _ _ _ _ hi (by omega) hl rfl) ((World.putObj_heap_other (by omega)).trans hk)⟩
    · exact ⟨some c, _, run_endLoop (P := P) hl (by simp [rec']), hstop _ c pre _ (Nat.le_refl _) hSp (hIx _ _ _ _ _ _ hi (by omega) hl rfl) ((World.putObj_heap_other (by omega)).trans hk)⟩
end Go.Proofs.YtillnjhmdgmgeaaDoor
