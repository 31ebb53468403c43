/- The fixed fact of ratio's laws. -/
import Derived.Test.YtmhlhhfolbeifaaRRef4
namespace Go.Proofs.Ytmhlhhfolbeifaa
set_option linter.unusedVariables false
set_option linter.unusedSimpArgs false
open Go.RowKit

theorem below_q {w w' : World} {q : Nat} (h : w' = w.drewN q) : Below w.heap.size w w' := by
  subst h
  have r := Below.refl w.heap.size w
  exact ⟨r.os, r.tape, r.output, r.size, r.block⟩
theorem mean_b (A : Option Addr) (n c B : Nat) (l : List Int) (w : World) (h : Rd w B 1 A n (I l)) (hn : n ≤ 140737488355328) {x : Int} (e : R.mean l = x) :
    Calls Try.prog 23 #[.slice A n c] w (IntBR x w) :=
  (mean_any A n c B l w h hn).mono fun _ _ ⟨h, q, hq⟩ => ⟨by rw [← e]; exact h, below_q hq⟩

end Go.Proofs.Ytmhlhhfolbeifaa
