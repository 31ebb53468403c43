/- The code's functions that go over tables with a predicate: IndexFunc, Get, add, Above, Clone, Equal, Same. -/
import Derived.Test.YtoemefoppkgfaaaECode2
import Derived.Shelf.Abstract
namespace Go.Proofs.Ytoemefoppkgfaaa
set_option linter.unusedVariables false
set_option linter.unusedSimpArgs false
open Go.RowKit

/-- a predicate that captures one variable, in whatever later world -/
def Meant (base g : Nat) (bp : Value) (p : Ent → Bool) (w : World) : Prop :=
  ∀ (x : Ent) (W : World), Below base w W → Calls Try.prog g #[ev x, bp] W fun e w' => e = .returned (.bool (p x)) ∧ Below W.heap.size W w'
/-- where the first one is of which p holds -/
def Found (p : Ent → Bool) (l : List Ent) (i : Int) : Prop :=
  (i = -1 ∧ ∀ y ∈ l, p y = false) ∨ ∃ (k : Nat) (x : Ent), i = k ∧ l[k]? = some x ∧ p x = true ∧ ∀ y ∈ l.take k, p y = false

end Go.Proofs.Ytoemefoppkgfaaa
