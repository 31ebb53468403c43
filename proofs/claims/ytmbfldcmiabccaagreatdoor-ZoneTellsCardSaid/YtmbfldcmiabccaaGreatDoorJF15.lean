/- BSeq BShelf BC3 BC4 OC1 OC3 (merged). -/
import Derived.RangeFuncBox
import Derived.RangeFuncNested
import Derived.RangeFuncWrites
import Derived.RangeFuncLeaves
import Derived.Shelf.Abstract
import Derived.OwnWalkIn
import Derived.TacticsInMore
import Derived.LoopNIn
import Derived.LoopIn
import Derived.Maps.AppendAt
import Derived.Shelf.Strconv.Itoa0
import Derived.Shelf.Strconv.Itoa1
import Derived.Shelf.LaysM
import Derived.Shelf.Strconv.Itoa2
import Derived.Shelf.Strconv.Itoa3
import Derived.Shelf.Slices.Turned
import Derived.Test.YtmbfldcmiabccaaGreatDoorProg
import Derived.Lib.Bytealg
import Derived.Lib.AppendStr
import Derived.Lib.AppendZeros
import Derived.Lib.LazyBuf
import Derived.LoopN
import Derived.Test.YtmbfldcmiabccaaGreatDoorJF08
import Derived.Test.YtmbfldcmiabccaaGreatDoorJF14
namespace Go.Proofs.YtmbfldcmiabccaaGreatDoor
set_option linter.unusedVariables false
set_option linter.unusedSimpArgs false
open Go.RowKit Go.Shelf
/-- an iterator that gives l, or as much of it as is asked for; its own cells lie from B on and below m -/
def SeqC {α : Type} (n : Nat) (P : Program) (gf : Nat) (lb : Array Value) (encs : α → Array Value) (B m : Nat) (l : List α) (w : World) : Prop :=
  ∀ (lp : Nat) (J Jx : List α → World → Prop) (W : World), Below w.heap.size w W →
    (∀ s X Y, J s X → X.grownBy Y none → J s Y) →
    (∀ s X b u, J s X → B ≤ b → b < m → J s (X.setCell ⟨b, 0, none⟩ u)) →
    (∀ pre x X, J pre X → pre ++ [x] <+: l → YieldAt Fence.wide (n - 1) P lp (encs x) X fun e Y =>
      (e = .returned (.bool true) ∧ J (pre ++ [x]) Y ∧ Below m X Y) ∨ (e = .returned (.bool false) ∧ Jx (pre ++ [x]) Y)) →
    J [] W →
    CallsIn Fence.wide n P gf (#[.func (.yield lp) #[] #[]] ++ lb) W fun e Y => (∃ v, e = .returned v) ∧ (J l Y ∨ ∃ pre, pre <+: l ∧ Jx pre Y)
/-- what a loop keeps while its iterator works: D is the heap's size where the loop begins -/
structure Stays {α : Type} (B m D : Nat) (I : List α → World → Prop) : Prop where
  put : ∀ s X r o o', I s X → D ≤ r → X.heap[r]? = some o → o.isCells = false → I s (X.putObj r o')
  grown : ∀ s X Y, I s X → X.grownBy Y none → I s Y
  cell : ∀ s X b u, I s X → B ≤ b → b < m → I s (X.setCell ⟨b, 0, none⟩ u)
theorem Stays.and {α : Type} {B m D : Nat} {I I' : List α → World → Prop} (h : Stays B m D I) (h' : Stays B m D I') : Stays B m D (fun s W => I s W ∧ I' s W) :=
  ⟨fun s X r o o' hs hr ho hc => ⟨h.put s X r o o' hs.1 hr ho hc, h'.put s X r o o' hs.2 hr ho hc⟩, fun s X Y hs hg => ⟨h.grown s X Y hs.1 hg, h'.grown s X Y hs.2 hg⟩, fun s X b u hs hB hm => ⟨h.cell s X b u hs.1 hB hm, h'.cell s X b u hs.2 hB hm⟩⟩
theorem stays_pure {α : Type} (B m D : Nat) (p : List α → Prop) : Stays B m D (fun s (_ : World) => p s) := ⟨fun _ _ _ _ _ hs _ _ _ => hs, fun _ _ _ hs _ => hs, fun _ _ _ _ hs _ _ => hs⟩
theorem stays_below {α : Type} {B m D : Nat} {w : World} (h1 : B ≤ w.heap.size) (h2 : w.heap.size ≤ D) : Stays B m D (fun (_ : List α) W => Below B w W) := by
  refine ⟨fun s X r o o' hs hr ho hc => ?_, fun s X Y hs hg => ?_, fun s X b u hs hB hm => hs.setCell (p := ⟨b, 0, none⟩) hB u⟩
  · have hg := grownBy_putObj' X r o'
    refine hs.trans ⟨hg.os, hg.tape, hg.output, hg.size, fun k hk => hg.block k ?_ ?_⟩
    · have := hs.size; omega
    · intro e; injection e with e; omega
  · exact hs.trans ⟨hg.os, hg.tape, hg.output, hg.size, fun k hk => hg.block k (by have := hs.size; omega) (by intro e; cases e)⟩
theorem stays_own {α : Type} {B m D : Nat} {I : List α → World → Prop} (h : Own I) (hc : ∀ s X b u, I s X → B ≤ b → b < m → I s (X.setCell ⟨b, 0, none⟩ u)) : Stays B m D I :=
  ⟨fun s X r o o' hs hr ho hc' => h s X _ (some r) hs (grownBy_putObj' X r o') (fun r' e => by cases e; exact ⟨o, ho, hc'⟩), fun s X Y hs hg => h s X Y none hs hg (fun r e => by cases e), hc⟩
theorem stays_box {α : Type} {B m D : Nat} (b : Nat) (t : TypeId) (f : List α → Value) (hb : m ≤ b) : Stays B m D (fun s W => Boxed W b t (f s)) :=
  stays_own (boxed_own b t f) fun s X b' u hs _ hm => hs.other (by omega) u
set_option maxHeartbeats 1000000 in
theorem wpIn_rangeSeq {α : Type} {n : Nat} {P : Program} {g : Operand} {ps : Array Tmp} {assign body : Code} {Q : Exit → Act → World → Prop} {a : Act} {w : World}
    (h1 : 1 ≤ n) {gf : Nat} {lb : Array Value} (hg : a.eval g = .func (.func gf) #[] lb) (eg : ∀ args w, (callFunc gf args).run P w = .ok (.enter gf args) w)
    {encs : α → Array Value} {B m : Nat} {l : List α} (hseq : SeqC (n - 1) P gf lb encs B m l w) (hm : m ≤ w.heap.size) (hps : ∀ x, (encs x).size = ps.size)
    (I : List α → World → Prop) (Ix : Code → List α → World → Prop) (hI : Stays B m w.heap.size I) (hIx : ∀ c s X r o o', Ix c s X → w.heap.size ≤ r → X.heap[r]? = some o → o.isCells = false → Ix c s (X.putObj r o')) (h0 : I [] w) (a₁ : α → Act)
    (hassign : ∀ (lp : Nat) (x : α) (W : World) (K : Act → World → Prop), K (a₁ x) W →
      assign.wpIn (Fence.wide.inRound lp) (n - 1 - 1) P (Exit.then K (fun _ _ _ => False)) { tmps := (ps.zip (encs x)).foldl (fun t (p, v) => t.setIfInBounds p v) a.tmps, defers := [] } W)
    (hbody : ∀ (lp : Nat) (pre : List α) (x : α) (W : World), I pre W → pre ++ [x] <+: l → body.wpIn (Fence.wide.inRound lp) (n - 1 - 1) P (ownPostG w.heap.size (Below m) I Ix (pre ++ [x]) W) (a₁ x) W)
    (hdone : ∀ (D : Nat) (W : World), w.heap.size ≤ D → I l W → W.heap[D]? = some (.deferred (some [])) → Q .normal { a with defers := { target := .collected D, args := #[] } :: a.defers } W)
    (hstop : ∀ (D : Nat) (c : Code) (pre : List α) (W : World), w.heap.size ≤ D → pre <+: l → Ix c pre W → W.heap[D]? = some (.deferred (some [])) → c.wpIn Fence.wide n P Q { a with defers := { target := .collected D, args := #[] } :: a.defers } W) :
    (Code.rangeFunc g ps assign body).wpIn Fence.wide n P Q a w := by
  refine wpIn_rangeFunc fun fn hfn => ?_
  obtain ⟨D, hD⟩ : ∃ D, w.heap.size = D := ⟨_, rfl⟩
  let rec' : LoopState → Option Code → Loop := fun st pe => { state := st, pending := pe, fn, tmps := a.tmps, params := ps, assign, body, defers := w.heap.size }
  obtain ⟨W1, hW1⟩ : ∃ W1, (w.alloc (.deferred (some []))).alloc (.loop (rec' .ready none)) = W1 := ⟨_, rfl⟩
  have grew : ∀ {X Y : World} {k : Nat} {o : Obj}, X.grownBy Y none → X.heap[k]? = some o → Y.heap[k]? = some o := fun {X Y k o} hg ho => (hg.block k (Array.getElem?_eq_some_iff.1 ho).1 (by intro e; cases e)).trans ho
  have setc : ∀ {X : World} {b k : Nat} {u : Value} {o : Obj}, b ≠ k → X.heap[k]? = some o → (X.setCell ⟨b, 0, none⟩ u).heap[k]? = some o := fun {X b k u o} hne ho => ((grownBy_setCell' X b u).block k (Array.getElem?_eq_some_iff.1 ho).1 (by intro e; injection e with e; exact hne e.symm)).trans ho
  have lrec : W1.heap[w.heap.size + 1]? = some (.loop (rec' .ready none)) := by
    have := World.alloc_heap_new (w.alloc (.deferred (some []))) (.loop (rec' .ready none))
    rw [World.size_alloc] at this
    rwa [hW1] at this
  have ldef : W1.heap[w.heap.size]? = some (.deferred (some [])) := by
    rw [← hW1]
    exact grew (World.grownBy_alloc _ _ none) (World.alloc_heap_new w _)
  have below1 : Below w.heap.size w W1 := by
    rw [← hW1]
    exact ((Below.refl _ w).alloc (Nat.le_refl _) _).alloc (by simp) _
  have inv1 : I [] W1 := by
    rw [← hW1]
    exact hI.grown _ _ _ (hI.grown _ _ _ h0 (World.grownBy_alloc _ _ none)) (World.grownBy_alloc _ _ none)
  refine ⟨w.heap.size + 1, [{ target := .collected w.heap.size, args := #[] }], W1, { target := .fn (.func gf) lb, args := #[.func (.yield (w.heap.size + 1)) #[] #[]] }, W1, gf, #[.func (.yield (w.heap.size + 1)) #[] #[]] ++ lb, W1, ?_, ?_, ?_, ?_, fun _ => h1, ?_⟩
  · rw [← hW1]
    exact run_enterLoop_outer _ _ _ _ _
  · simp only [resolve, hg]
    simp [go_sem]
  · intro f' _
    trivial
  · simp [invoke, go_sem, eg]
  refine (hseq (w.heap.size + 1)
    (fun pre W => I pre W ∧ W.heap[w.heap.size + 1]? = some (.loop (rec' .ready none)) ∧ W.heap[w.heap.size]? = some (.deferred (some [])))
    (fun pre W => ∃ c, Ix c pre W ∧ W.heap[w.heap.size + 1]? = some (.loop (rec' .done (some c))) ∧ W.heap[w.heap.size]? = some (.deferred (some [])))
    W1 below1
    (fun s X Y hs hg' => ⟨hI.grown s X Y hs.1 hg', grew hg' hs.2.1, grew hg' hs.2.2⟩)
    (fun s X b u hs hB hb => ⟨hI.cell s X b u hs.1 hB hb, setc (by omega) hs.2.1, setc (by omega) hs.2.2⟩)
    ?_ ⟨inv1, lrec, ldef⟩).mono ?_
  · rintro pre x W ⟨hi, hl, hk⟩ hlen
    have hlt : w.heap.size + 1 < W.heap.size := (Array.getElem?_eq_some_iff.1 hl).1
    have hy := run_yield (P := P) (args := encs x) hl (hps x)
    refine ⟨fn, _, assign, body, hy, roundIn_of_wpIn hfn (hassign _ x W _ ?_)⟩
    clear hy
    refine ⟨_, run_beginRound hl rfl, ?_⟩
    have hl2 : (W.putObj (w.heap.size + 1) (.loop { rec' .ready none with state := .busy })).heap[w.heap.size + 1]? = some (.loop { rec' .ready none with state := .busy }) := World.putObj_heap_same hlt
    have hk2 : (W.putObj (w.heap.size + 1) (.loop { rec' .ready none with state := .busy })).heap[w.heap.size]? = some (.deferred (some [])) := (World.putObj_heap_other (by omega)).trans hk
    have bel : ∀ (X : World) (o' : Obj), w.heap.size + 1 < X.heap.size → Below m X (X.putObj (w.heap.size + 1) o') := fun X o' hx => by
      have hgr := grownBy_putObj' X (w.heap.size + 1) o'
      exact ⟨hgr.os, hgr.tape, hgr.output, hgr.size, fun k hk' => hgr.block k (by omega) (by intro e; injection e with e; omega)⟩
    refine wpIn_mono (hbody _ pre x _ (hI.put _ _ _ _ _ hi (by omega) hl rfl) hlen) ?_
    have fin : ∀ (jump : Option Code) (W3 : World), KeepsFrom w.heap.size (W.putObj (w.heap.size + 1) (.loop { rec' .ready none with state := .busy })) W3 →
        (Instr.endRound (w.heap.size + 1) jump).run P W3 = .ok (.bool jump.isNone) (W3.putObj (w.heap.size + 1) (.loop (rec' (if jump.isNone then .ready else .done) jump))) ∧
        W3.heap[w.heap.size + 1]? = some (.loop { rec' .ready none with state := .busy }) ∧
        (W3.putObj (w.heap.size + 1) (.loop (rec' (if jump.isNone then .ready else .done) jump))).heap[w.heap.size + 1]? = some (.loop (rec' (if jump.isNone then .ready else .done) jump)) ∧
        (W3.putObj (w.heap.size + 1) (.loop (rec' (if jump.isNone then .ready else .done) jump))).heap[w.heap.size]? = some (.deferred (some [])) := fun jump W3 hk3 => by
      have hl3 := hk3.same _ _ (by omega) hl2 rfl
      exact ⟨run_endRound (P := P) jump hl3, hl3, World.putObj_heap_same (Array.getElem?_eq_some_iff.1 hl3).1, (World.putObj_heap_other (by omega)).trans (hk3.same _ _ (Nat.le_refl _) hk2 rfl)⟩
    rintro e a3 W3 hp
    cases e with
    | normal =>
      obtain ⟨hk3, hkp3, hi3⟩ := hp
      obtain ⟨hr, hl3, hl4, hk4⟩ := fin none W3 hk3
      exact ⟨_, _, hr, .inl ⟨rfl, ⟨hI.put _ _ _ _ _ hi3 (by omega) hl3 rfl, hl4, hk4⟩, ((bel W _ hlt).trans hkp3).trans (bel W3 _ (Array.getElem?_eq_some_iff.1 hl3).1)⟩⟩
    | ret =>
      obtain ⟨hk3, hi3⟩ := hp
      obtain ⟨hr, hl3, hl4, hk4⟩ := fin (some .ret) W3 hk3
      exact ⟨_, _, hr, .inr ⟨rfl, .ret, hIx _ _ _ _ _ _ hi3 (by omega) hl3 rfl, hl4, hk4⟩⟩
    | exit id =>
      obtain ⟨hk3, hi3⟩ := hp
      obtain ⟨hr, hl3, hl4, hk4⟩ := fin (some (.exit id)) W3 hk3
      exact ⟨_, _, hr, .inr ⟨rfl, .exit id, hIx _ _ _ _ _ _ hi3 (by omega) hl3 rfl, hl4, hk4⟩⟩
    | goto t =>
      obtain ⟨hk3, hi3⟩ := hp
      obtain ⟨hr, hl3, hl4, hk4⟩ := fin (some (.goto t)) W3 hk3
      exact ⟨_, _, hr, .inr ⟨rfl, .goto t, hIx _ _ _ _ _ _ hi3 (by omega) hl3 rfl, hl4, hk4⟩⟩
    | panic ch => exact hp.elim
    | outgrown => exact hp.elim
  · rintro e W2 ⟨⟨v, rfl⟩, (⟨hi, hl, hk⟩ | ⟨pre, hSp, c, hi, hl, hk⟩)⟩
    · exact ⟨none, _, run_endLoop (P := P) hl (by simp [rec']), hdone _ _ (Nat.le_refl _) (hI.put _ _ _ _ _ hi (by omega) hl rfl) ((World.putObj_heap_other (by omega)).trans hk)⟩
    · exact ⟨some c, _, run_endLoop (P := P) hl (by simp [rec']), hstop _ c pre _ (Nat.le_refl _) hSp (hIx _ _ _ _ _ _ hi (by omega) hl rfl) ((World.putObj_heap_other (by omega)).trans hk)⟩
end Go.Proofs.YtmbfldcmiabccaaGreatDoor

namespace Go.Proofs.YtmbfldcmiabccaaGreatDoor
set_option linter.unusedVariables false
open Go.Shelf Go.RowKit
open Go.Shelf
def lays171_ren : Go.Shelf.Ren := ⟨fun | 171 => 23 | 243 => 56 | 246 => 80 | 283 => 88 | 284 => 89 | 285 => 90 | 286 => 91 | 129 => 97 | 317 => 96 | 318 => 98 | 319 => 99 | 320 => 100 | 337 => 105 | 338 => 106 | n => n, fun | 3 => 3 | 9 => 9 | 2 => 2 | 4 => 4 | 171 => 118 | 0 => 0 | 53 => 119 | 37 => 58 | 5 => 5 | 173 => 122 | 212 => 131 | 51 => 132 | 20 => 20 | 213 => 133 | 46 => 99 | 232 => 137 | 233 => 138 | n => n, fun | 17 => 0 | 18 => 1 | 19 => 2 | n => n⟩
theorem lays171 : Go.Proofs.Lays.n171 Tryz.prog lays171_ren := {
  mixed := by kernel_rfl
  f129 := Tryz.func97.trans (congrArg some (by kernel_rfl))
  f171 := Tryz.func23.trans (congrArg some (by kernel_rfl))
  f243 := Tryz.func56.trans (congrArg some (by kernel_rfl))
  f246 := Tryz.func80.trans (congrArg some (by kernel_rfl))
  f283 := Tryz.func88.trans (congrArg some (by kernel_rfl))
  f284 := Tryz.func89.trans (congrArg some (by kernel_rfl))
  f285 := Tryz.func90.trans (congrArg some (by kernel_rfl))
  f286 := Tryz.func91.trans (congrArg some (by kernel_rfl))
  f317 := Tryz.func96.trans (congrArg some (by kernel_rfl))
  f318 := Tryz.func98.trans (congrArg some (by kernel_rfl))
  f319 := Tryz.func99.trans (congrArg some (by kernel_rfl))
  f320 := Tryz.func100.trans (congrArg some (by kernel_rfl))
  f337 := Tryz.func105.trans (congrArg some (by kernel_rfl))
  f338 := Tryz.func106.trans (congrArg some (by kernel_rfl))
  t0 := Tryz.underlying0
  a0 := Tryz.isAgg0
  z0 := Tryz.sizeOf0
  v0 := Tryz.zeroValue0
  t2 := Tryz.underlying2
  a2 := Tryz.isAgg2
  z2 := Tryz.sizeOf2
  v2 := Tryz.zeroValue2
  t3 := Tryz.underlying3
  a3 := Tryz.isAgg3
  z3 := Tryz.sizeOf3
  v3 := Tryz.zeroValue3
  t4 := Tryz.underlying4
  a4 := Tryz.isAgg4
  z4 := Tryz.sizeOf4
  v4 := Tryz.zeroValue4
  t5 := Tryz.underlying5
  a5 := Tryz.isAgg5
  z5 := Tryz.sizeOf5
  v5 := Tryz.zeroValue5
  t9 := Tryz.underlying9
  a9 := Tryz.isAgg9
  z9 := Tryz.sizeOf9
  v9 := Tryz.zeroValue9
  t20 := Tryz.underlying20
  a20 := Tryz.isAgg20
  z20 := Tryz.sizeOf20
  v20 := Tryz.zeroValue20
  t37 := Tryz.underlying58
  a37 := Tryz.isAgg58
  z37 := Tryz.sizeOf58
  v37 := Tryz.zeroValue58
  t46 := Tryz.underlying99
  a46 := Tryz.isAgg99
  z46 := Tryz.sizeOf99
  v46 := Tryz.zeroValue99
  t51 := Tryz.underlying132
  a51 := Tryz.isAgg132
  z51 := Tryz.sizeOf132
  v51 := Tryz.zeroValue132
  t53 := Tryz.underlying119
  a53 := Tryz.isAgg119
  z53 := Tryz.sizeOf119
  v53 := Tryz.zeroValue119
  t171 := Tryz.underlying118
  a171 := Tryz.isAgg118
  z171 := Tryz.sizeOf118
  v171 := Tryz.zeroValue118
  t173 := Tryz.underlying122
  a173 := Tryz.isAgg122
  z173 := Tryz.sizeOf122
  v173 := Tryz.zeroValue122
  t212 := Tryz.underlying131
  a212 := Tryz.isAgg131
  z212 := Tryz.sizeOf131
  v212 := Tryz.zeroValue131
  t213 := Tryz.underlying133
  a213 := Tryz.isAgg133
  z213 := Tryz.sizeOf133
  t232 := Tryz.underlying137
  a232 := Tryz.isAgg137
  z232 := Tryz.sizeOf137
  v232 := Tryz.zeroValue137
  t233 := Tryz.underlying138
  a233 := Tryz.isAgg138
  z233 := Tryz.sizeOf138
  v233 := Tryz.zeroValue138
  g17 := by kernel_rfl
  g18 := by kernel_rfl
  g19 := by kernel_rfl }
theorem strconv_Itoa_small (i : Nat) (hi : i < 100) (w : World) :
    Calls Tryz.prog 23 #[.int .i64 i] w fun e w' => e = .returned (.string ⟨(Lib.decDigits i).toArray⟩) ∧ w' = w := Any.strconv_Itoa_small lays171 i hi w
end Go.Proofs.YtmbfldcmiabccaaGreatDoor

namespace Go.Proofs.YtmbfldcmiabccaaGreatDoor
set_option linter.unusedVariables false
set_option linter.unusedSimpArgs false
open Go.RowKit Go.Shelf
attribute [local go_sem] Oper.semAt_some
namespace Lab
end Lab
/-- what a round is handed -/
abbrev encsB (x : List UInt8) : Array Value := #[.string (strB x)]
theorem Boxed.keep {W W' : World} {m b : Nat} {t : TypeId} {v : Value} (h : Boxed W b t v) (hk : Below m W W') (hb : b < m) : Boxed W' b t v := (hk.block b hb).trans h
set_option maxRecDepth 100000 in
set_option maxHeartbeats 2000000 in
theorem blvalues1_in (n : Nat) (hn : 1 ≤ n) (lp Bs m : Nat) (A : Option Addr) (len cap : Nat) (l : List (List UInt8)) (hlen : len ≤ 1000000) (J Jx : List (List UInt8) → World → Prop)
    (hY : ∀ pre x W, J pre W → pre ++ [x] <+: l → YieldAt Fence.wide (n - 1) Tryz.prog lp (encsB x) W fun e W' =>
      (e = .returned (.bool true) ∧ J (pre ++ [x]) W' ∧ Below m W W') ∨ (e = .returned (.bool false) ∧ Jx (pre ++ [x]) W'))
    (W : World) (hBs : W.cell? ⟨Bs, 0, none⟩ = some (.slice A len cap)) (hr : Rd W m 1 A len (Tt l)) (h0 : J [] W) :
    CallsIn Fence.wide n Tryz.prog 87 #[.func (.yield lp) #[] #[], .pointer (some ⟨Bs, 0, none⟩)] W fun e W' => (∃ v, e = .returned v) ∧ (J l W' ∨ ∃ pre, pre <+: l ∧ Jx pre W') := by
  have hl : l.length = len := by have := hr.len1; rwa [Tt_len] at this
  have HL := Lib.hid hl
  clear hl
  refine callsIn_of_wp Tryz.func87 rfl trivial ?_ rfl
  simp only [Tryz.ntmps87, List.size_toArray, List.length_cons, List.length_nil, Nat.reduceAdd, Nat.reduceSub, Array.replicate_succ, Array.replicate_zero, List.push_toArray, List.append_toArray, List.nil_append, List.cons_append]
  gi_wp2
  gi_loopw [7] (fun i wr => ∃ k : Nat, k ≤ len ∧ i = .int .i64 k ∧ J (l.take k) wr ∧ Below m W wr)
    (fun i _ => len - (intOf i).toNat)
  case atStart => exact ⟨0, Nat.zero_le _, rfl, h0, Below.refl _ _⟩
  case round =>
    obtain ⟨k, hk, rfl, hJs, hnx⟩ := hrel
    by_cases hlt : k < len
    · obtain ⟨b, o, x, e1, hb, hx, hcx⟩ := (hr.below hnx).atT hlt
      have HX := Lib.hid hx
      obtain ⟨fn, tmps, assign, body, hy, hR⟩ := hY _ x wr hJs (by rw [← take_more HX.out]; exact List.take_prefix _ _)
      clear hx
      subst e1
      gi_wp2
      refine hR.mono ?_
      rintro e W3 (⟨rfl, hJ3, hk3⟩ | ⟨rfl, hJx3⟩)
      · gi_wp2
        go_roundw
        case rel => exact ⟨k + 1, by omega, by simp, by rw [take_more HX.out]; exact hJ3, hnx.trans hk3⟩
        case measure => simp [intOf]; omega
      · gi_wp2
        refine bodyPost_ret (results_none rfl _ _ _) rfl ?_
        exact ⟨⟨_, rfl⟩, .inr ⟨_, by rw [← take_more HX.out]; exact List.take_prefix _ _, hJx3⟩⟩
    · obtain rfl : k = len := by omega
      rw [List.take_of_length_le (by have := HL.out; omega)] at hJs
      gi_wp2
      go_end0
      exact ⟨⟨_, rfl⟩, .inl hJs⟩
theorem blvalues_in (n : Nat) (A : Option Addr) (len cap : Nat) (w : World) :
    CallsIn Fence.wide n Tryz.prog 78 #[.slice A len cap] w fun e w' => e = .returned (.func (.func 87) #[] #[.pointer (some ⟨w.heap.size, 0, none⟩)]) ∧ w' = w.alloc (.cells #[.slice A len cap] 81) := by
  refine callsIn_of_wp Tryz.func78 rfl trivial ?_ rfl
  simp only [Tryz.ntmps78, List.size_toArray, List.length_cons, List.length_nil, Nat.reduceAdd, Nat.reduceSub, Array.replicate_succ, Array.replicate_zero, List.push_toArray, List.append_toArray, List.nil_append, List.cons_append]
  gi_wp2
  go_ret
  exact ⟨rfl, rfl⟩
theorem blvalues_seq (n : Nat) (hn : 1 ≤ n) (Bs B m : Nat) (A : Option Addr) (len cap : Nat) (l : List (List UInt8)) (hlen : len ≤ 1000000) (w : World) (hBs : Bs < w.heap.size) (hm : m ≤ w.heap.size)
    (hc : w.cell? ⟨Bs, 0, none⟩ = some (.slice A len cap)) (hr : Rd w m 1 A len (Tt l)) :
    SeqC n Tryz.prog 87 #[.pointer (some ⟨Bs, 0, none⟩)] encsB B m l w := fun lp J Jx W hW _ _ hY h0 =>
  blvalues1_in n hn lp Bs m A len cap l hlen J Jx hY W ((hW.cell (p := ⟨Bs, 0, none⟩) hBs).trans hc) (hr.below (hW.mono hm)) h0
end Go.Proofs.YtmbfldcmiabccaaGreatDoor

namespace Go.Proofs.YtmbfldcmiabccaaGreatDoor
set_option linter.unusedVariables false
set_option linter.unusedSimpArgs false
open Go.RowKit Go.Shelf
attribute [local go_sem] Oper.semAt_some
namespace Lab
/-- one label more: the bytes that are kept, and whether all is too long -/
def stp (s : List UInt8 × Bool) (x : List UInt8) : List UInt8 × Bool :=
  if (s.2 || decide (63 < x.length) || decide (255 < s.1.length + 1 + x.length + 1)) = true then (s.1, true) else (s.1 ++ wire x, false)
def st (l : List (List UInt8)) : List UInt8 × Bool := l.foldl stp ([], false)
theorem st_snoc (l : List (List UInt8)) (x : List UInt8) : st (l ++ [x]) = stp (st l) x := by unfold st; rw [List.foldl_append]; rfl
theorem stp_long {s : List UInt8 × Bool} {x : List UInt8} (h : s.2 = true) : stp s x = (s.1, true) := by unfold stp; rw [h]; rfl
theorem stp_no {s : List UInt8 × Bool} {x : List UInt8} (h : 63 < x.length ∨ 255 < s.1.length + 1 + x.length + 1) : stp s x = (s.1, true) := by
  unfold stp
  rw [if_pos (by rcases h with h | h <;> simp [h])]
theorem stp_yes {s : List UInt8 × Bool} {x : List UInt8} (h0 : s.2 = false) (h1 : ¬ 63 < x.length) (h2 : ¬ 255 < s.1.length + 1 + x.length + 1) : stp s x = (s.1 ++ wire x, false) := by
  unfold stp
  rw [if_neg (by rw [h0, decide_eq_false h1, decide_eq_false h2]; simp)]
theorem wire_len (x : List UInt8) : (wire x).length = x.length + 1 := by simp [wire]
theorem wires_snoc (l : List (List UInt8)) (x : List UInt8) : wires (l ++ [x]) = wires l ++ wire x := by rw [wires_app]; simp [wires]
def StIs (l : List (List UInt8)) : Prop := (st l).1.length ≤ 254 ∧ (((st l).2 = false ∧ (st l).1 = wires l ∧ ∀ x ∈ l, x.length ≤ 63) ∨ ((st l).2 = true ∧ ∀ r, ¬ ok (l ++ r)))
theorem st_step {l : List (List UInt8)} (x : List UInt8) (ih : StIs l) : StIs (l ++ [x]) := by
  unfold StIs
  rw [st_snoc]
  obtain ⟨h0, h⟩ := ih
  rcases h with ⟨h1, h2, h3⟩ | ⟨h1, h2⟩
  · by_cases hx : 63 < x.length
    · rw [stp_no (Or.inl hx)]
      exact ⟨h0, Or.inr ⟨rfl, fun r ho => by have := (ho.1 x (by simp)).2; omega⟩⟩
    · by_cases hy : 255 < (st l).1.length + 1 + x.length + 1
      · rw [stp_no (Or.inr hy)]
        refine ⟨h0, Or.inr ⟨rfl, fun r ho => ?_⟩⟩
        have h4 := ho.2
        rw [names_len, wires_app, wires_snoc, List.length_append, List.length_append, wire_len, ← h2] at h4
        omega
      · rw [stp_yes h1 hx hy]
        refine ⟨by rw [List.length_append, wire_len]; omega, Or.inl ⟨rfl, by rw [wires_snoc, h2], fun y hy' => ?_⟩⟩
        rcases List.mem_append.1 hy' with h5 | h5
        · exact h3 y h5
        · obtain rfl : y = x := by simpa using h5
          omega
  · rw [stp_long h1]
    exact ⟨h0, Or.inr ⟨rfl, fun r => by rw [List.append_assoc]; exact h2 _⟩⟩
theorem st_all : ∀ (l o : List (List UInt8)), StIs o → StIs (o ++ l)
  | [], o, h => by rwa [List.append_nil]
  | x :: l, o, h => by
    have := st_all l (o ++ [x]) (st_step x h)
    rwa [List.append_assoc] at this
theorem st_is (l : List (List UInt8)) : StIs l := st_all l [] ⟨by simp [st], Or.inl ⟨rfl, rfl, by simp⟩⟩
theorem join_long {l : List (List UInt8)} (hn : ¬ [] ∈ l) (h : (st l).2 = true) : join l = ([], 4) := by
  rcases (st_is l).2 with ⟨h1, _⟩ | ⟨_, h2⟩
  · rw [h] at h1; cases h1
  · exact join_no hn (by have := h2 []; rwa [List.append_nil] at this)
theorem join_short {l : List (List UInt8)} (hn : ¬ [] ∈ l) (h : (st l).2 = false) : join l = ((st l).1 ++ [0], 0) := by
  obtain ⟨h0, ⟨_, h1, h2⟩ | ⟨h1, _⟩⟩ := st_is l
  · rw [join_ok (ok_yes hn h2 (by rw [← h1]; exact h0)), h1]
    rfl
  · rw [h] at h1; cases h1
theorem join_empty {l pre : List (List UInt8)} (h : pre <+: l) (hm : [] ∈ pre) : join l = ([], 3) := by
  unfold join
  rw [if_pos (h.subset hm)]
end Lab
theorem u8T' : SlT Tryz.prog 58 5 (.int .u8 0) 1 1 := ⟨Tryz.underlying58, by kernel_rfl, rfl, by omega⟩
theorem row_cells {w : World} {base e : TypeId} {size n : Nat} {v : Value} {xs : List Value} (h : w.ownsRow base e size v n xs) {j : Nat} {o : Obj} (ej : v.ownBlock = some j) (hj : w.heap[j]? = some o) : o.isCells = true := by
  rcases h.2 with ⟨rfl, _⟩ | ⟨g, cap, cur, rfl, _, hg, _⟩
  · simp [Value.ownBlock] at ej
  · obtain rfl : g = j := by simpa [Value.ownBlock] using ej
    rw [hg] at hj; cases hj; rfl
theorem box_rowed {X Y : World} {b n₀ : Nat} {t e : TypeId} {size k : Nat} {u v : Value} {xs : List Value} (h : Boxed X b t u) (hte : t ≠ e) (hr : X.ownsRow n₀ e size v k xs) (hg : X.grownBy Y v.ownBlock) : Boxed Y b t u := h.kept hg (h.not_row hte hr)
/-- two appends to a row, behind a literal -/
theorem two_grown {W w1 w2 : World} {n₀ : Nat} {e : TypeId} {size k k1 : Nat} {v v1 : Value} {xs ys : List Value} {tmp : Obj} (hn₀ : n₀ ≤ W.heap.size) (hrow : W.ownsRow n₀ e size v k xs) (g1 : (W.alloc tmp).grownBy w1 v.ownBlock) (o1 : w1.ownsRow n₀ e size v1 k1 ys) (g2 : w1.grownBy w2 v1.ownBlock) :
    KeepsOthers W w2 ∧ Below n₀ W w2 := by
  have r0 := hrow.alloc tmp
  have s1 : n₀ ≤ w1.heap.size := by have := g1.size; simp at this; omega
  refine ⟨((KeepsOthers.alloc W tmp).trans (KeepsOthers.of_grownBy g1 fun j o ej hj => row_cells r0 ej hj)).trans (KeepsOthers.of_grownBy g2 fun j o ej hj => row_cells o1 ej hj), ?_⟩
  exact (((Below.refl n₀ W).alloc hn₀ tmp).grown g1 (by simp; omega) fun j ej => (r0.lt j ej).1).grown g2 s1 fun j ej => (o1.lt j ej).1
/-- 'append(b, s...)' of a text, in a fence -/
theorem wpListIn_append_txt {F : Fence} {n' : Nat} {ops : Array Oper} {rest : List Oper} {o : Oper} {a : Act} {Q : Exit → Act → World → Prop} {w : World} (hgd : o.guard = none) (sl x : Operand)
    (ho : o.op = .call { callee := .builtin .append, args := #[sl, x], argTypes := #[58, 9] })
    (base : Nat) (v : Value) (k : Nat) (xs : List Value) (hs : a.eval sl = v) (hown : w.ownsRow base 5 1 v k xs) (t : List UInt8) (hx : a.eval x = .string (strB t)) (hb : k + t.length ≤ 140737488355328) (hbase : base ≤ w.heap.size)
    (h : ∀ v' w', w'.ownsRow base 5 1 v' (k + t.length) (xs ++ U t) → w.grownBy w' v.ownBlock → wpListIn F n' Tryz.prog ops Q rest (a.put o.dst v') w') : wpListIn F n' Tryz.prog ops Q (o :: rest) a w := by
  obtain ⟨i, hi, hz, hsz, hby⟩ := u8T'.parts
  refine wpListIn_plain hgd fun K hK => ?_
  obtain ⟨v', w', hr, h2, h3, _⟩ := Lib.run_append_own_string (P := Tryz.prog) w base 58 9 o.type 5 i u8T'.ht Tryz.underlying9 hi hz hsz hby v k xs hown (strB t) (by unfold maxLen; rw [strB_sz]; omega) (by rw [strB_sz]; omega) hbase
  rw [strB_sz] at h2
  unfold Oper.wpIn
  refine ⟨?_, ?_⟩
  · simp [Oper.about, ho, resolve, Target.leads, Sem.run_pure]
  · rw [Oper.semAt_plain F _ _ (by rw [ho]; intro c hc'; cases hc')]
    simp [execOp, ho, resolve, invoke, builtin, hs, hx, hr, Result.andThen]
    exact hK _ _ (h v' w' (by simpa [Lib.strCells, strB, U] using h2) h3)
set_option maxRecDepth 100000 in
set_option maxHeartbeats 4000000 in
theorem bljoin_in (n : Nat) (hn : 6 ≤ n) (gf : Nat) (lb : Array Value) (eg : ∀ args w, (callFunc gf args).run Tryz.prog w = .ok (.enter gf args) w) (B : Nat) (l : List (List UInt8)) (hl : ∀ x ∈ l, x.length ≤ 1000000) (w : World) (hB : B ≤ w.heap.size)
    (hseq : ∀ W, Below w.heap.size w W → SeqC (n - 1) Tryz.prog gf lb encsB B w.heap.size l W) :
    CallsIn Fence.wide n Tryz.prog 77 #[.func (.func gf) #[] lb] w fun e W' => e = .returned (.tuple #[.string (strB (Lab.join l).1), .int .i64 (Lab.join l).2]) ∧ Below B w W' := by
  have h1 : 1 ≤ n := by omega
  obtain ⟨i0, hi, hz0, hz1, hz2⟩ := u8T'.parts
  refine callsIn_of_wp_marks Tryz.func77 rfl trivial ?_ rfl
  simp only [Tryz.ntmps77, List.size_toArray, List.length_cons, List.length_nil, Nat.reduceAdd, Nat.reduceSub, Array.replicate_succ, Array.replicate_zero, List.push_toArray, List.append_toArray, List.nil_append, List.cons_append]
  gi_wp2_with fail
  have bS := (((Boxed.new w 9 (.string ⟨#[]⟩)).alloc (.cells #[.int .i64 0] 42)).alloc (.cells #[.slice none 0 0] 58)).alloc (.cells #[.bool false] 4)
  have bE := ((Boxed.new (w.alloc (.cells #[.string ⟨#[]⟩] 9)) 42 (.int .i64 0)).alloc (.cells #[.slice none 0 0] 58)).alloc (.cells #[.bool false] 4)
  have bB := (Boxed.new ((w.alloc (.cells #[.string ⟨#[]⟩] 9)).alloc (.cells #[.int .i64 0] 42)) 58 (.slice none 0 0)).alloc (.cells #[.bool false] 4)
  have bL := Boxed.new (((w.alloc (.cells #[.string ⟨#[]⟩] 9)).alloc (.cells #[.int .i64 0] 42)).alloc (.cells #[.slice none 0 0] 58)) 4 (.bool false)
  have hB0 : Below w.heap.size w ((((w.alloc (.cells #[.string ⟨#[]⟩] 9)).alloc (.cells #[.int .i64 0] 42)).alloc (.cells #[.slice none 0 0] 58)).alloc (.cells #[.bool false] 4)) := ((((Below.refl _ w).alloc (Nat.le_refl _) _).alloc (by simp) _).alloc (by simp; omega) _).alloc (by simp; omega) _
  have hsz : ((((w.alloc (.cells #[.string ⟨#[]⟩] 9)).alloc (.cells #[.int .i64 0] 42)).alloc (.cells #[.slice none 0 0] 58)).alloc (.cells #[.bool false] 4)).heap.size = w.heap.size + 4 := by simp
  simp only [World.size_alloc] at bS bE bB bL
  obtain ⟨W0, hW0⟩ : ∃ W0, ((((w.alloc (.cells #[.string ⟨#[]⟩] 9)).alloc (.cells #[.int .i64 0] 42)).alloc (.cells #[.slice none 0 0] 58)).alloc (.cells #[.bool false] 4)) = W0 := ⟨_, rfl⟩
  rw [hW0] at bS bE bB bL hB0 hsz
  rw [hW0]
  clear hW0
  have hq := hseq W0 hB0
  clear hseq
  refine wpIn_rangeSeq h1 (gf := gf) (lb := lb) rfl eg hq (by omega) (fun _ => rfl)
    (fun pre W => ¬ [] ∈ pre ∧ ((((Boxed W w.heap.size 9 (.string ⟨#[]⟩) ∧ Boxed W (w.heap.size + 1) 42 (.int .i64 0)) ∧ Boxed W (w.heap.size + 1 + 1 + 1) 4 (.bool (Lab.st pre).2)) ∧ (∃ v, Boxed W (w.heap.size + 1 + 1) 58 v ∧ W.ownsRow w.heap.size 5 1 v (Lab.st pre).1.length (U (Lab.st pre).1))) ∧ Below B w W))
    (fun c pre W => (c = .ret ∧ [] ∈ pre) ∧ (Boxed W w.heap.size 9 (.string ⟨#[]⟩) ∧ Boxed W (w.heap.size + 1) 42 (.int .i64 3)) ∧ Below B w W)
    (Stays.and (stays_pure B w.heap.size W0.heap.size (fun pre => ¬ [] ∈ pre)) (Stays.and (Stays.and (Stays.and (Stays.and (stays_box _ _ (fun _ => .string ⟨#[]⟩) (by omega)) (stays_box _ _ (fun _ => .int .i64 0) (by omega))) (stays_box _ _ (fun pre => .bool (Lab.st pre).2) (by omega)))
      (stays_own (fun s X Y row hs hg hr => by
        obtain ⟨v, h1, h2⟩ := hs
        obtain ⟨v, h1, h2, _⟩ := holdsRow_own w.heap.size (w.heap.size + 1 + 1) 58 5 1 (fun pre : List (List UInt8) => (Lab.st pre).1.length) (fun pre => U (Lab.st pre).1) (fun _ _ => True) s X Y row ⟨v, h1, h2, trivial⟩ hg hr
        exact ⟨v, h1, h2⟩) (fun s X b u hs _ hb => by
        obtain ⟨v, h1, h2⟩ := hs
        exact ⟨v, h1.other (by omega) u, h2.kept (grownBy_setCell' X b u) (.inr fun e => by have := (h2.lt b e).1; omega)⟩))) (stays_below hB (by omega))))
    (fun c s X r o o' hs hr ho hc => by
      obtain ⟨hp, ⟨h1, h2⟩, h3⟩ := hs
      have hg := grownBy_putObj' X r o'
      refine ⟨hp, ⟨h1.kept hg (fun e => by injection e with e; omega), h2.kept hg (fun e => by injection e with e; omega)⟩, h3.trans ⟨hg.os, hg.tape, hg.output, hg.size, fun k hk => hg.block k (by have := h3.size; omega) (fun e => by injection e with e; omega)⟩⟩)
    ⟨by simp, ⟨⟨⟨bS, bE⟩, bL⟩, ⟨_, bB, World.ownsRow_nil _ _ _ _⟩⟩, hB0.mono hB⟩
    (fun x => { tmps := #[.func (.func gf) #[] lb, undef, .pointer (some ⟨w.heap.size, 0, none⟩), .pointer (some ⟨w.heap.size + 1, 0, none⟩), .pointer (some ⟨w.heap.size + 1 + 1, 0, none⟩), .pointer (some ⟨w.heap.size + 1 + 1 + 1, 0, none⟩), .string (strB x), .func (.func gf) #[] lb, .string (strB x), undef, undef, undef, undef, undef, undef, undef, undef, undef, undef, undef, undef, undef, undef, undef, undef, undef, undef, undef, undef, undef, undef, undef, undef, undef, undef, undef, undef, undef, undef, undef, undef, undef], defers := [] }) ?assign ?body ?done ?stop
  case assign =>
    intro lp x W K hK
    gi_wp2
    exact hK
  case body =>
    rintro lp pre x W ⟨hno, ⟨⟨⟨bS, bE⟩, bL⟩, ⟨v, bB, hrow⟩⟩, hB⟩ hlt
    have hst := Lab.st_is pre
    obtain ⟨q, hq'⟩ : ∃ q, (Lab.st pre).1 = q := ⟨_, rfl⟩
    obtain ⟨lg, hlg⟩ : ∃ lg, (Lab.st pre).2 = lg := ⟨_, rfl⟩
    have HS : Hid (Lab.st pre = (q, lg)) := Lib.hid (by rw [← hq', ← hlg])
    have h254 : q.length ≤ 254 := by rw [← hq']; exact hst.1
    rw [hq'] at hrow
    rw [hlg] at bL
    have HNO := Lib.hid hno
    clear hst hq' hlg hno
    obtain ⟨A, cp, rfl⟩ := own_slice hrow
    have cS := bS.cell
    have cE := bE.cell
    have cB := bB.cell
    have cL := bL.cell
    have fS := bS.frozen
    have fE := bE.frozen
    have fL := bL.frozen
    have hwz : w.heap.size ≤ W.heap.size := by have := bL.lt; omega
    have hxm : x ∈ l := hlt.subset (by simp)
    have hx1 := hl x hxm
    clear hl hlt hxm
    by_cases hx0 : x = []
    · have s1 : (strB x == (⟨#[]⟩ : ByteArray)) = true := by rw [hx0]; rfl
      have s2 : x.isEmpty = true := by rw [hx0]; rfl
      have HM : Hid ([] ∈ pre ++ [x]) := Lib.hid (by rw [hx0]; simp)
      clear hx0
      gi_wp2
      refine ⟨((KeepsOthers.setCell _ _ _).trans (KeepsOthers.setCell _ _ _)).from _, ⟨rfl, HM.out⟩, ⟨?_, ?_⟩, ?_⟩
      · exact (bS.set (.string ⟨#[]⟩)).other (by omega) _
      · exact (bE.other (B' := w.heap.size) (by omega) (.string ⟨#[]⟩)).set (.int .i64 3)
      · exact (hB.setCell (p := ⟨w.heap.size, 0, none⟩) (by simp; omega) _).setCell (p := ⟨w.heap.size + 1, 0, none⟩) (by simp; omega) _
    have s1 : (strB x == (⟨#[]⟩ : ByteArray)) = false := by have h1 := strB_beq x []; rw [decide_eq_false hx0] at h1; exact h1
    have s2 : x.isEmpty = false := by cases x with | nil => exact absurd rfl hx0 | cons a b => rfl
    have HN2 : Hid (¬ [] ∈ pre ++ [x]) := Lib.hid (by
      intro hm
      rcases List.mem_append.1 hm with hm | hm
      · exact HNO.out hm
      · exact hx0 (List.mem_singleton.1 hm).symm)
    clear hx0
    obtain ⟨xn, hxn⟩ : ∃ xn, x.length = xn := ⟨_, rfl⟩
    have hsz1 : (strB x).size = xn := by rw [strB_sz, hxn]
    rw [hxn] at hx1
    have HXN := Lib.hid hxn
    clear hxn
    obtain ⟨k, hk⟩ : ∃ k, q.length = k := ⟨_, rfl⟩
    rw [hk] at h254 hrow bB cB
    have HK := Lib.hid hk
    clear hk
    have bT := bL.set (.bool true)
    have cT := bT.cell
    have keepT : ∀ r, Lab.st (pre ++ [x]) = (r, true) → r = q → (fun pre W => ¬ [] ∈ pre ∧ ((((Boxed W w.heap.size 9 (.string ⟨#[]⟩) ∧ Boxed W (w.heap.size + 1) 42 (.int .i64 0)) ∧ Boxed W (w.heap.size + 1 + 1 + 1) 4 (.bool (Lab.st pre).2)) ∧ (∃ v, Boxed W (w.heap.size + 1 + 1) 58 v ∧ W.ownsRow w.heap.size 5 1 v (Lab.st pre).1.length (U (Lab.st pre).1))) ∧ Below B w W)) (pre ++ [x]) (W.setCell ⟨w.heap.size + 1 + 1 + 1, 0, none⟩ (.bool true)) := fun r hr hrq => by
      subst hrq
      show _ ∧ _
      rw [hr]
      refine ⟨HN2.out, ⟨⟨⟨bS.other (by omega) _, bE.other (by omega) _⟩, bT⟩, ⟨_, bB.other (by omega) _, ?_⟩⟩, hB.setCell (p := ⟨w.heap.size + 1 + 1 + 1, 0, none⟩) (by simp; omega) _⟩
      have h5 := hrow.kept (grownBy_setCell' W (w.heap.size + 1 + 1 + 1) (.bool true)) (.inr (bL.not_row (by decide) hrow).symm)
      rw [HK.out]
      exact h5
    cases lg with
    | true =>
      have HST : Hid (Lab.st (pre ++ [x]) = (q, true)) := Lib.hid (by rw [Lab.st_snoc, HS.out, Lab.stp_long rfl])
      gi_wp2
      exact ⟨(KeepsOthers.setCell _ _ _).from _, (Below.refl w.heap.size W).setCell (p := ⟨w.heap.size + 1 + 1 + 1, 0, none⟩) (by simp; omega) _, keepT q HST.out rfl⟩
    | false =>
      by_cases hx63 : 63 < xn
      · have HST : Hid (Lab.st (pre ++ [x]) = (q, true)) := Lib.hid (by rw [Lab.st_snoc, HS.out, Lab.stp_no (Or.inl (by rw [HXN.out]; exact hx63))])
        have g1 : decide (63 < (xn : Int)) = true := decide_eq_true (by omega)
        have g2 : decide (63 < xn) = true := decide_eq_true hx63
        clear hx63
        gi_wp2
        exact ⟨(KeepsOthers.setCell _ _ _).from _, (Below.refl w.heap.size W).setCell (p := ⟨w.heap.size + 1 + 1 + 1, 0, none⟩) (by simp; omega) _, keepT q HST.out rfl⟩
      have g1 : decide (63 < (xn : Int)) = false := decide_eq_false (by omega)
      have g2 : decide (63 < xn) = false := decide_eq_false hx63
      obtain ⟨k1, hk1⟩ : ∃ z : Int, (k : Int) + 1 = z := ⟨_, rfl⟩
      obtain ⟨k2, hk2⟩ : ∃ z : Int, k1 + (xn : Int) = z := ⟨_, rfl⟩
      obtain ⟨k3, hk3⟩ : ∃ z : Int, k2 + 1 = z := ⟨_, rfl⟩
      have U1 : Hid (wrap64 ((k : Int) + 1) = k1 ∧ IntKind.i64.wrap ((k : Int) + 1) = k1) := Lib.hid ⟨by rw [← hk1]; exact w64_of (by omega) (by omega), by rw [← hk1]; exact i64_of (by omega) (by omega)⟩
      have U2 : Hid (wrap64 (k1 + (xn : Int)) = k2 ∧ IntKind.i64.wrap (k1 + (xn : Int)) = k2) := Lib.hid ⟨by rw [← hk2]; exact w64_of (by omega) (by omega), by rw [← hk2]; exact i64_of (by omega) (by omega)⟩
      have U3 : Hid (wrap64 (k2 + 1) = k3 ∧ IntKind.i64.wrap (k2 + 1) = k3) := Lib.hid ⟨by rw [← hk3]; exact w64_of (by omega) (by omega), by rw [← hk3]; exact i64_of (by omega) (by omega)⟩
      by_cases hbig : 255 < k + 1 + xn + 1
      · have HST : Hid (Lab.st (pre ++ [x]) = (q, true)) := Lib.hid (by rw [Lab.st_snoc, HS.out, Lab.stp_no (Or.inr (by rw [HXN.out]; show 255 < q.length + 1 + xn + 1; rw [HK.out]; exact hbig))])
        have g3 : decide (255 < k3) = true := decide_eq_true (by omega)
        clear hx63 hbig hk1 hk2 hk3
        obtain ⟨u1, u2⟩ := U1.out
        obtain ⟨u3, u4⟩ := U2.out
        obtain ⟨u5, u6⟩ := U3.out
        gi_wp2
        exact ⟨(KeepsOthers.setCell _ _ _).from _, (Below.refl w.heap.size W).setCell (p := ⟨w.heap.size + 1 + 1 + 1, 0, none⟩) (by simp; omega) _, keepT q HST.out rfl⟩
      · have HST : Hid (Lab.st (pre ++ [x]) = (q ++ Lab.wire x, false)) := Lib.hid (by rw [Lab.st_snoc, HS.out, Lab.stp_yes rfl (by rw [HXN.out]; exact hx63) (by rw [HXN.out]; show ¬ 255 < q.length + 1 + xn + 1; rw [HK.out]; exact hbig)])
        have g3 : decide (255 < k3) = false := decide_eq_false (by omega)
        clear keepT bT cT
        obtain ⟨ci, hci⟩ : ∃ z : Int, ((UInt8.ofNat xn).toNat : Int) = z := ⟨_, rfl⟩
        have CI : Hid (IntKind.u8.wrap (xn : Int) = ci) := Lib.hid (by rw [← hci, Lab.ofNat_len (by omega)]; exact u8_fit (by omega))
        have HCI := Lib.hid hci
        have bF := bL.set (.bool false)
        have bS1 := bS.other (B' := w.heap.size + 1 + 1 + 1) (by omega) (.bool false)
        have bE1 := bE.other (B' := w.heap.size + 1 + 1 + 1) (by omega) (.bool false)
        have bB1 := bB.other (B' := w.heap.size + 1 + 1 + 1) (by omega) (.bool false)
        have row1 := hrow.kept (grownBy_setCell' W (w.heap.size + 1 + 1 + 1) (.bool false)) (.inr (bL.not_row (by decide) hrow).symm)
        have hB1 := hB.setCell (p := ⟨w.heap.size + 1 + 1 + 1, 0, none⟩) (by simp; omega) (.bool false)
        have kB1 := (Below.refl w.heap.size W).setCell (p := ⟨w.heap.size + 1 + 1 + 1, 0, none⟩) (by simp; omega) (.bool false)
        have kO1 := KeepsOthers.setCell W ⟨w.heap.size + 1 + 1 + 1, 0, none⟩ (.bool false)
        have hWs : (W.setCell ⟨w.heap.size + 1 + 1 + 1, 0, none⟩ (.bool false)).heap.size = W.heap.size := by simp
        have cF := bF.cell
        have cB1 := bB1.cell
        have k1le : k + 1 + xn ≤ 1000 := by omega
        clear hx63 hbig hk1 hk2 hk3 hci hB bS bE bB hrow
        obtain ⟨u1, u2⟩ := U1.out
        obtain ⟨u3, u4⟩ := U2.out
        obtain ⟨u5, u6⟩ := U3.out
        have ci1 := CI.out
        gi_wp2_with (first
          | (gi_at_builtin; refine wpListIn_append_txt rfl _ _ rfl w.heap.size _ _ _ rfl o1 x rfl (by have := HXN.out; omega) (by have := g1'.size; simp at this; omega) ?_; intro v2 w2 o2 g2'; obtain ⟨A2, c2, rfl⟩ := own_slice o2; have kk := two_grown (by omega) row1 g1' o1 g2'; have bB2 := (box_rowed (box_rowed (bB1.alloc (.cells #[.int .u8 ci] 5)) (by decide) (row1.alloc _) g1') (by decide) o1 g2'); have cB2 := bB2.cell; have fB2 := bB2.frozen)
          | (gi_at_builtin; refine wpListIn_append_own _ rfl _ _ 58 rfl w.heap.size 5 i0 (.int .u8 0) 1 1 Tryz.underlying58 hi hz0 hz1 hz2 rfl (by decide) _ _ _ rfl (row1.alloc _) ⟨W.heap.size, 0, none⟩ 1 1 [.int .u8 ci] rfl rfl (by have h9 := cell_one_new (W.setCell ⟨w.heap.size + 1 + 1 + 1, 0, none⟩ (.bool false)) (.int .u8 ci) 5; rw [hWs] at h9; exact h9) (by simp [Value.oneCell']) (by unfold maxLen; omega) (by omega) (by simp; omega) ?_; intro v1 w1 o1 g1' _))
        have kB2 := kB1.trans kk.2
        have kO2 := kO1.trans kk.1
        have zS := (box_rowed (box_rowed (bS1.alloc (.cells #[.int .u8 ci] 5)) (by decide) (row1.alloc _) g1') (by decide) o1 g2').other (B' := w.heap.size + 1 + 1) (by omega) (.slice A2 (k + 1 + x.length) c2)
        have zE := (box_rowed (box_rowed (bE1.alloc (.cells #[.int .u8 ci] 5)) (by decide) (row1.alloc _) g1') (by decide) o1 g2').other (B' := w.heap.size + 1 + 1) (by omega) (.slice A2 (k + 1 + x.length) c2)
        have zL := (box_rowed (box_rowed (bF.alloc (.cells #[.int .u8 ci] 5)) (by decide) (row1.alloc _) g1') (by decide) o1 g2').other (B' := w.heap.size + 1 + 1) (by omega) (.slice A2 (k + 1 + x.length) c2)
        have zB := bB2.set (.slice A2 (k + 1 + x.length) c2)
        have zR := o2.kept (grownBy_setCell' w2 (w.heap.size + 1 + 1) (.slice A2 (k + 1 + x.length) c2)) (.inr (bB2.not_row (by decide) o2).symm)
        refine ⟨(kO2.trans (KeepsOthers.setCell _ _ _)).from _, kB2.setCell (p := ⟨w.heap.size + 1 + 1, 0, none⟩) (by simp; omega) _, HN2.out, ⟨⟨⟨zS, zE⟩, by rw [HST.out]; exact zL⟩, ⟨_, zB, ?_⟩⟩, (hB1.trans (kk.2.mono (by omega))).setCell (p := ⟨w.heap.size + 1 + 1, 0, none⟩) (by simp; omega) _⟩
        have e9 : (q ++ Lab.wire x).length = k + 1 + x.length := by rw [List.length_append, Lab.wire_len, HK.out]; omega
        have e8 : U (q ++ Lab.wire x) = U q ++ [.int .u8 ci] ++ U x := by
          rw [← HCI.out, ← HXN.out]
          simp [U, Lab.wire]
        rw [HST.out]
        show _ ∧ _
        rw [e9, e8]
        exact zR
  case done =>
    rintro D W hD ⟨hno, ⟨⟨⟨bS, bE⟩, bL⟩, ⟨v, bB, hrow⟩⟩, hB⟩ hK
    have h254 := (Lab.st_is l).1
    cases hlg : (Lab.st l).2 with
    | true =>
      have HF := Lib.hid (Lab.join_long hno hlg)
      rw [hlg] at bL
      have cS := bS.cell
      have cE := bE.cell
      have cL := bL.cell
      have fS := bS.frozen
      have fE := bE.frozen
      clear hno hlg hrow bB
      gi_wp2
      have k2 := (bS.set (.string ⟨#[]⟩)).other (B' := w.heap.size + 1) (by omega) (.int .i64 4)
      have f2 := (bE.other (B' := w.heap.size) (by omega) (.string ⟨#[]⟩)).set (.int .i64 4)
      have hK' := ((KeepsOthers.setCell W ⟨w.heap.size, 0, none⟩ (.string ⟨#[]⟩)).trans (KeepsOthers.setCell _ ⟨w.heap.size + 1, 0, none⟩ (.int .i64 4))).same D _ hK rfl
      have hB2 : Below B w ((W.setCell ⟨w.heap.size, 0, none⟩ (.string ⟨#[]⟩)).setCell ⟨w.heap.size + 1, 0, none⟩ (.int .i64 4)) := (hB.setCell (p := ⟨w.heap.size, 0, none⟩) (by simp; omega) _).setCell (p := ⟨w.heap.size + 1, 0, none⟩) (by simp; omega) _
      refine ⟨by simp, .inl ⟨_, _, rfl, run_takeDeferred hK', ?_⟩⟩
      have c5 := cell_kept k2.cell (grownBy_putObj' _ D (.deferred none)) (fun r e => by cases e; exact ⟨_, hK', rfl⟩)
      have c6 := cell_kept f2.cell (grownBy_putObj' _ D (.deferred none)) (fun r e => by cases e; exact ⟨_, hK', rfl⟩)
      have hgp := grownBy_putObj' ((W.setCell ⟨w.heap.size, 0, none⟩ (.string ⟨#[]⟩)).setCell ⟨w.heap.size + 1, 0, none⟩ (.int .i64 4)) D (.deferred none)
      refine ⟨.tuple #[.string ⟨#[]⟩, .int .i64 4], ?_, by rw [HF.out]; rfl, hB2.trans ⟨hgp.os, hgp.tape, hgp.output, hgp.size, fun k hk => hgp.block k (by have := hB2.size; omega) (fun e => by injection e with e; omega)⟩⟩
      simp [results, Tryz.f77, go_sem, c5, c6]
    | false =>
      have HF := Lib.hid (Lab.join_short hno hlg)
      rw [hlg] at bL
      obtain ⟨q, hq'⟩ : ∃ q, (Lab.st l).1 = q := ⟨_, rfl⟩
      rw [hq'] at hrow h254 HF
      obtain ⟨k, hk⟩ : ∃ k, q.length = k := ⟨_, rfl⟩
      rw [hk] at hrow h254
      have HKK := Lib.hid hk
      obtain ⟨A, cp, rfl⟩ := own_slice hrow
      have cS := bS.cell
      have cE := bE.cell
      have cL := bL.cell
      have cB := bB.cell
      have hwz : w.heap.size ≤ W.heap.size := by have := bL.lt; omega
      clear hno hlg hq' hk
      obtain ⟨tb, htb⟩ : ∃ tb, strB (q ++ [0]) = tb := ⟨_, rfl⟩
      have HTB := Lib.hid htb
      clear htb
      gi_wp2_with (gi_at_builtin; refine wpListIn_append_own _ rfl _ _ 58 rfl w.heap.size 5 i0 (.int .u8 0) 1 1 Tryz.underlying58 hi hz0 hz1 hz2 rfl (by decide) _ _ _ rfl (hrow.alloc _) ⟨W.heap.size, 0, none⟩ 1 1 [.int .u8 0] rfl rfl (cell_one_new _ _ _) (by simp [Value.oneCell']) (by unfold maxLen; omega) (by omega) (by simp; omega) ?_; intro v1 w1 o1 g1 _; obtain ⟨A1, c1, rfl⟩ := own_slice o1; have o2 : w1.ownsRow w.heap.size 5 1 (.slice A1 (k + 1) c1) (k + 1) (U (q ++ [0])) := (by simpa [U] using o1); have RS : (convert 58 9 (.slice A1 (k + 1) c1)).run Tryz.prog w1 = .ok (.string tb) w1 := (by rw [← HTB.out]; exact run_str 58 9 5 Tryz.underlying58 Tryz.underlying5 Tryz.underlying9 (c := c1) (Rd.of_own o2)); have zS := box_rowed (bS.alloc (.cells #[.int .u8 0] 5)) (by decide) (hrow.alloc _) g1; have zE := box_rowed (bE.alloc (.cells #[.int .u8 0] 5)) (by decide) (hrow.alloc _) g1; have yS := zS.cell; have yE := zE.cell; have xS := zS.frozen; have xE := zE.frozen)
      have hK1 : w1.heap[D]? = some (.deferred (some [])) := by
        have h5 : (W.alloc (.cells #[.int .u8 0] 5)).heap[D]? = some (.deferred (some [])) := (Below.heap_alloc W _ D (Array.getElem?_eq_some_iff.1 hK).1).trans hK
        refine (g1.block D (Array.getElem?_eq_some_iff.1 h5).1 fun e => ?_).trans h5
        have h6 := row_cells (hrow.alloc (.cells #[.int .u8 0] 5)) e.symm h5
        cases h6
      have hBw : Below B w w1 := (hB.alloc (by have := hB.size; omega) (.cells #[.int .u8 0] 5)).grown g1 (by simp; omega) fun j ej => by have := ((hrow.alloc (.cells #[.int .u8 0] 5)).lt j ej).1; omega
      have k2 := (zS.set (.string tb)).other (B' := w.heap.size + 1) (by omega) (.int .i64 0)
      have f2 := (zE.other (B' := w.heap.size) (by omega) (.string tb)).set (.int .i64 0)
      have hK' := ((KeepsOthers.setCell w1 ⟨w.heap.size, 0, none⟩ (.string tb)).trans (KeepsOthers.setCell _ ⟨w.heap.size + 1, 0, none⟩ (.int .i64 0))).same D _ hK1 rfl
      have hB2 : Below B w ((w1.setCell ⟨w.heap.size, 0, none⟩ (.string tb)).setCell ⟨w.heap.size + 1, 0, none⟩ (.int .i64 0)) := (hBw.setCell (p := ⟨w.heap.size, 0, none⟩) (by simp; omega) _).setCell (p := ⟨w.heap.size + 1, 0, none⟩) (by simp; omega) _
      refine ⟨by simp, .inl ⟨_, _, rfl, run_takeDeferred hK', ?_⟩⟩
      have c5 := cell_kept k2.cell (grownBy_putObj' _ D (.deferred none)) (fun r e => by cases e; exact ⟨_, hK', rfl⟩)
      have c6 := cell_kept f2.cell (grownBy_putObj' _ D (.deferred none)) (fun r e => by cases e; exact ⟨_, hK', rfl⟩)
      have hgp := grownBy_putObj' ((w1.setCell ⟨w.heap.size, 0, none⟩ (.string tb)).setCell ⟨w.heap.size + 1, 0, none⟩ (.int .i64 0)) D (.deferred none)
      refine ⟨.tuple #[.string tb, .int .i64 0], ?_, by rw [HF.out, ← HTB.out], hB2.trans ⟨hgp.os, hgp.tape, hgp.output, hgp.size, fun k hk => hgp.block k (by have := hB2.size; omega) (fun e => by injection e with e; omega)⟩⟩
      simp [results, Tryz.f77, go_sem, c5, c6]
  case stop =>
    rintro D c pre W hD hpre ⟨⟨rfl, hm⟩, ⟨bS, bE⟩, hB⟩ hK
    have HF := Lib.hid (Lab.join_empty hpre hm)
    clear hm hpre
    gi_wp2
    refine ⟨by simp, .inl ⟨_, _, rfl, run_takeDeferred hK, ?_⟩⟩
    have c5 := cell_kept bS.cell (grownBy_putObj' _ D (.deferred none)) (fun r e => by cases e; exact ⟨_, hK, rfl⟩)
    have c6 := cell_kept bE.cell (grownBy_putObj' _ D (.deferred none)) (fun r e => by cases e; exact ⟨_, hK, rfl⟩)
    have hgp := grownBy_putObj' W D (.deferred none)
    refine ⟨.tuple #[.string ⟨#[]⟩, .int .i64 3], ?_, by rw [HF.out]; rfl, hB.trans ⟨hgp.os, hgp.tape, hgp.output, hgp.size, fun k hk => hgp.block k (by have := hB.size; omega) (fun e => by injection e with e; omega)⟩⟩
    simp [results, Tryz.f77, go_sem, c5, c6]
theorem egValues : ∀ args w, (callFunc 87 args).run Tryz.prog w = .ok (.enter 87 args) w := enters_of Tryz.func87 (by kernel_rfl) rfl
set_option maxHeartbeats 1000000 in
theorem bljoin_wide (l : List (List UInt8)) (A : Option Addr) (n c : Nat) (w : World) (h : Rd w w.heap.size 1 A n (Tt l)) (hn : n ≤ 100000) (hl : ∀ x ∈ l, x.length ≤ 100000) : CallsIn Fence.wide 8 Tryz.prog 53 #[.slice A n c] w (TxE (Lab.join l).1 (Lab.join l).2 w) := by
  refine callsIn_of_wp Tryz.func53 rfl trivial ?_ rfl
  simp only [Tryz.ntmps53, List.size_toArray, List.length_cons, List.length_nil, Nat.reduceAdd, Nat.reduceSub, Array.replicate_succ, Array.replicate_zero, List.push_toArray, List.append_toArray, List.nil_append, List.cons_append]
  gi_wp2_with fail
  refine ⟨trivial, (blvalues_in _ A n c _).mono ?_⟩
  rintro _ w' ⟨rfl, rfl⟩
  have bA := Boxed.new w 81 (.slice A n c)
  have hb0 := (Below.refl w.heap.size w).alloc (Nat.le_refl _) (.cells #[.slice A n c] 81)
  have hsz : (w.alloc (.cells #[.slice A n c] 81)).heap.size = w.heap.size + 1 := by simp
  generalize w.alloc (.cells #[.slice A n c] 81) = W1 at *
  gi_wp2_with fail
  refine ⟨trivial, (bljoin_in _ (by omega) _ _ egValues w.heap.size l (fun x hx => by have := hl x hx; omega) W1 (by omega) (fun W hW => blvalues_seq _ (by omega) w.heap.size w.heap.size W1.heap.size A n c l (by omega) W (by have := hW.size; omega) hW.size ((Boxed.keep bA hW (by omega)).cell) ((h.below (hb0.trans (hW.mono (by omega)))).more (by omega)))).mono ?_⟩
  rintro _ w2 ⟨rfl, hb⟩
  gi_wp2
  go_ret2
  exact ⟨rfl, hb0.trans hb⟩
theorem bljoin_any (l : List (List UInt8)) (A : Option Addr) (n c : Nat) (w : World) (h : Rd w w.heap.size 1 A n (Tt l)) (hn : n ≤ 100000) (hl : ∀ x ∈ l, x.length ≤ 100000) : Calls Tryz.prog 53 #[.slice A n c] w (TxE (Lab.join l).1 (Lab.join l).2 w) := (callsIn_wide (n := 8)).1 (bljoin_wide l A n c w h hn hl)
end Go.Proofs.YtmbfldcmiabccaaGreatDoor

namespace Go.Proofs.YtmbfldcmiabccaaGreatDoor
set_option linter.unusedVariables false
set_option linter.unusedSimpArgs false
open Go.RowKit
/-- texts that were made -/
def MadeT (l : List (List UInt8)) (w : World) (e : Ending) (w' : World) : Prop :=
  ∃ (A : Option Addr) (n c : Nat), e = .returned (.slice A n c) ∧ l.length = n ∧ w'.ownsRow w.heap.size 9 1 (.slice A n c) n (Tt l) ∧ Below w.heap.size w w'
set_option maxHeartbeats 1000000 in
set_option maxRecDepth 20000 in
theorem tgrow_any (n : Nat) (hn : n ≤ 1000000) (w : World) :
    Calls Tryz.prog 79 #[.slice none 0 0, .int .i64 n] w fun e w' => ∃ A c, e = .returned (.slice A 0 c) ∧ w'.ownsRow w.heap.size 9 1 (.slice A 0 c) 0 [] ∧ Below w.heap.size w w' := by
  by_cases h0 : n = 0
  · subst h0
    go_enter Tryz.func79, Tryz.ntmps79
    go_wp2
    go_ret
    exact ⟨none, 0, rfl, World.ownsRow_nil _ _ _ _, Below.refl _ _⟩
  · obtain ⟨i0, hi, hz0, hz1, hz2⟩ := (strT).parts
    have happ := Lib.run_append_nil_zeros (P := Tryz.prog) w 81 3 81 9 i0 (.string ⟨#[]⟩) .i64 .i64 Tryz.underlying81 (by kernel_rfl) hi hz0 n (by omega) (by omega) (by omega) (by rw [hz2]; omega)
    generalize hcap : grownCap w n 0 9 = cap2 at happ
    have hcapge : n ≤ cap2 := by rw [← hcap]; exact grownCap_ge w _ 0 9
    have hcaple : cap2 ≤ maxLen := by rw [← hcap]; exact grownCap_le_maxLen w _ 0 9 (by unfold maxLen; omega)
    generalize hZ : (Builtin.zeroCells (Value.string ⟨#[]⟩).cells n ++ Builtin.zeroCells (Value.string ⟨#[]⟩).cells (cap2 - n)) = Z at happ
    have hZs : Z.size = cap2 := by rw [← hZ]; simp [size_zeroCells, Value.cells]; omega
    have hcut : ∀ W, (Instr.slice 81 (.slice (some ⟨w.heap.size, 0, none⟩) n cap2) none (some (.int .i64 0)) none).run Tryz.prog W = .ok (.slice (some ⟨w.heap.size, 0, none⟩) 0 cap2) W := fun W => run_cut_h strT W _ n cap2 0 0 rfl (by omega)
    have HC := Lib.hid (And.intro hcapge hcaple)
    clear hcap hZ hi hz0 hz1 hz2 hcapge hcaple
    have hnp : 0 < n := by omega
    go_enter Tryz.func79, Tryz.ntmps79
    go_wp2_with (at_builtin; refine Lib.wpList_append_run _ rfl _ _ _ _ rfl _ _ rfl rfl _ _ happ ?_)
    go_ret
    refine ⟨some ⟨w.heap.size, 0, none⟩, cap2, rfl, ⟨by simp, .inr ⟨w.heap.size, cap2, Z, rfl, Nat.le_refl _, heap_alloc_new w _, Nat.zero_le _, HC.out.2, by omega, by simp⟩⟩, ((Below.refl _ _).alloc (Nat.le_refl _) _).drew⟩
set_option maxHeartbeats 2000000 in
theorem tconcat_any (l l' : List (List UInt8)) (bp : Nat) (A A' : Option Addr) (n n' c c' : Nat) (w : World) (hp : bp < w.heap.size) (h0 : w.cell? ⟨bp, 0, none⟩ = some (.slice A n c)) (h1 : w.cell? ⟨bp, 1, none⟩ = some (.slice A' n' c'))
    (h : Rd w w.heap.size 1 A n (Tt l)) (h' : Rd w w.heap.size 1 A' n' (Tt l')) (hn : n ≤ 1000) (hn' : n' ≤ 1000) :
    Calls Tryz.prog 54 #[.slice (some ⟨bp, 0, none⟩) 2 2] w (MadeT (l ++ l') w) := by
  have hl : l.length = n := by have := h.len1; rwa [Tt_len] at this
  have hl' : l'.length = n' := by have := h'.len1; rwa [Tt_len] at this
  have HL := Lib.hid hl
  have HL' := Lib.hid hl'
  clear hl hl'
  go_enter Tryz.func54, Tryz.ntmps54
  go_wp2
  go_loop [3, 11] (fun s i => (i = .int .i64 0 ∧ s = .int .i64 0) ∨ (i = .int .i64 1 ∧ s = .int .i64 n) ∨ (i = .int .i64 2 ∧ s = .int .i64 (n + n' : Nat))) (fun _ i => 2 - (intOf i).toNat)
  case atStart => exact Or.inl ⟨rfl, rfl⟩
  case round =>
    rcases hrel with ⟨rfl, rfl⟩ | ⟨rfl, rfl⟩ | ⟨rfl, rfl⟩
    · go_wp2
      go_round
      case rel => exact Or.inr (Or.inl ⟨rfl, by simp⟩)
      case measure => simp [intOf]
    · go_wp2
      go_round
      case rel => exact Or.inr (Or.inr ⟨rfl, by simp⟩)
      case measure => simp [intOf]
    · go_wp2_with fail
      refine (tgrow_any (n + n') (by omega) w).mono ?_
      rintro e w2 ⟨A1, c1, rfl, own, hb⟩
      go_wp2
      go_loopw [6, 27] (fun s i wr => ∃ (k : Nat) (A1 : Option Addr) (m1 c1 : Nat) (xs : List (List UInt8)), s = .slice A1 m1 c1 ∧ i = .int .i64 k ∧ (k = 0 ∧ m1 = 0 ∧ xs = [] ∨ k = 1 ∧ m1 = n ∧ xs = l ∨ k = 2 ∧ m1 = n + n' ∧ xs = l ++ l') ∧ wr.ownsRow w.heap.size 9 1 (.slice A1 m1 c1) m1 (Tt xs) ∧ Below w.heap.size w wr) (fun _ i _ => 2 - (intOf i).toNat)
      case atStart => exact ⟨0, A1, 0, c1, [], rfl, rfl, Or.inl ⟨rfl, rfl, rfl⟩, own, hb⟩
      case round =>
        clear own hb
        obtain ⟨k, A2, m2, c2, xs, rfl, rfl, hk, own, hb⟩ := hrel
        have r0 := h.below hb
        have r1 := h'.below hb
        have y0 := (hb.cell (p := ⟨bp, 0, none⟩) hp).trans h0
        have y1 := (hb.cell (p := ⟨bp, 1, none⟩) hp).trans h1
        have hs := hb.size
        rcases hk with ⟨rfl, rfl, rfl⟩ | ⟨rfl, rfl, rfl⟩ | ⟨rfl, rfl, rfl⟩
        · go_wp2_with (at_builtin; refine app_law0 strT rfl (.tmp 31) (.tmp 32) rfl w.heap.size rfl own rfl r0 (Tt_one _) (by omega) (by omega) hs ?_; rintro A3 c3 w3 ⟨own3, hg3, _, _⟩)
          go_roundw
          case rel => exact ⟨1, A3, _, c3, l, rfl, rfl, Or.inr (Or.inl ⟨rfl, rfl, rfl⟩), by simpa using own3, below_app hb own hg3 (Nat.le_refl _) hs⟩
          case measure => simp [intOf]
        · go_wp2_with (at_builtin; refine app_law strT rfl (.tmp 31) (.tmp 32) rfl w.heap.size rfl own rfl r1 (Tt_one _) (by omega) (by omega) hs ?_; rintro A3 c3 w3 ⟨own3, hg3, _, _⟩)
          go_roundw
          case rel => exact ⟨2, A3, _, c3, xs ++ l', rfl, rfl, Or.inr (Or.inr ⟨rfl, rfl, rfl⟩), by rw [show Tt (xs ++ l') = Tt xs ++ Tt l' by simp [Tt]]; exact own3, below_app hb own hg3 (Nat.le_refl _) hs⟩
          case measure => simp [intOf]
        · go_wp2
          go_ret
          exact ⟨A2, _, c2, rfl, by rw [List.length_append, HL.out, HL'.out], own, hb⟩

end Go.Proofs.YtmbfldcmiabccaaGreatDoor

namespace Go.Proofs.YtmbfldcmiabccaaGreatDoor
set_option linter.unusedVariables false
set_option linter.unusedSimpArgs false
open Go.RowKit
set_option maxHeartbeats 4000000 in
theorem oahead_any (dom : List UInt8) (ls : List (List UInt8)) (L : Option Addr) (nl cl : Nat) (w : World) (hL : Rd w w.heap.size 1 L nl (Tt ls)) (hn : nl ≤ 4) (hls : ∀ x ∈ ls, x.length ≤ 1000) (hd : dom.length ≤ 1000) :
    Calls Tryz.prog 22 #[.string (strB dom), .slice L nl cl] w (TxB (Zo.ahead dom ls).1 (Zo.ahead dom ls).2 w) := by
  have HL := Lib.hid hls
  have HLN : Hid (ls.length = nl) := Lib.hid (by have h1 := hL.len1; rwa [Tt_len] at h1)
  clear hls
  obtain ⟨r, er⟩ : ∃ z, Lab.right dom = z := ⟨_, rfl⟩
  have C1 := cright_at er (by omega) w
  have ER := Lib.hid er
  clear er
  go_enter Tryz.func22, Tryz.ntmps22
  go_wp2_with fail
  refine C1.mono ?_
  clear C1
  rintro e w1 ⟨rfl, b1⟩
  cases r
  · have A := Lib.hid (ahead_no ER.out ls)
    go_wp2
    go_ret2
    exact ⟨by rw [A.out]; rfl, b1⟩
  · obtain ⟨⟨t, jr⟩, ej⟩ : ∃ z, Lab.join (ls ++ Lab.labels dom) = z := ⟨_, rfl⟩
    have A := Lib.hid (ahead_yes ER.out ej)
    have EJ := Lib.hid ej
    have FW := Lib.hid (labels_few' dom)
    have SH := Lib.hid (labels_short dom)
    have C2 := bllabels_any dom (by omega) w1
    obtain ⟨ld, eld⟩ : ∃ z, Lab.labels dom = z := ⟨_, rfl⟩
    rw [eld] at C2 FW SH EJ
    clear ej eld
    go_wp2_with fail
    refine C2.mono ?_
    clear C2
    rintro e w2 ⟨⟨A3, n3, c3, rfl, hn3, h3, _⟩, hb2⟩
    have b2 := b1.trans (hb2.mono b1.size)
    have hn3' : n3 ≤ 254 := by have := FW.out; omega
    have X := Box.new w2 #[.slice L nl cl, .slice A3 n3 c3] 81
    have y0 := X.at 0 rfl
    have y1 := X.at 1 rfl
    have bx := (Below.refl w2.heap.size w2).alloc (Nat.le_refl _) (.cells #[.slice L nl cl, .slice A3 n3 c3] 81)
    have hLx := (Rd.belowH hL b2).belowH bx
    have h3x := h3.belowH bx
    have b3 := b2.trans (bx.mono b2.size)
    have HN3 := Lib.hid hn3
    clear hn3 h3 hL bx hb2 b1 b2 X
    have C3 := tconcat_any ls ld w2.heap.size L A3 nl n3 cl c3 _ (by simp) y0 y1 hLx h3x (by omega) (by omega)
    clear hLx h3x
    go_wp2_with fail
    refine C3.mono ?_
    clear C3 y0 y1
    rintro e w4 ⟨A4, n4, c4, rfl, hn4, hown4, hb4⟩
    have b4 := b3.trans (hb4.mono b3.size)
    have R4 := Rd.of_own hown4
    have J := bljoin_any (ls ++ ld) A4 n4 c4 w4 R4 (by
      rw [← hn4, List.length_append]
      have h5 := HN3.out
      have h6 := HLN.out
      omega) (fun x hx => (List.mem_append.1 hx).elim (fun hx => by have := HL.out x hx; omega) (fun hx => by have := SH.out x hx; omega))
    rw [EJ.out] at J
    clear R4 hown4 hb4 b3 hn4
    go_wp2_with fail
    refine J.mono ?_
    clear J
    rintro e w5 ⟨rfl, hb5⟩
    go_wp2
    go_ret2
    exact ⟨by rw [A.out]; rfl, b4.trans (hb5.mono b4.size)⟩
end Go.Proofs.YtmbfldcmiabccaaGreatDoor

