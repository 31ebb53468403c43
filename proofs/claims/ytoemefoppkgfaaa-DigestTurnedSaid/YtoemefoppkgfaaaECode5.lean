/- The code's add, Above, Clone, Equal, Same. -/
import Derived.Test.YtoemefoppkgfaaaECode4
namespace Go.Proofs.Ytoemefoppkgfaaa
set_option linter.unusedVariables false
set_option linter.unusedSimpArgs false
open Go.RowKit

/-- a table that was made behind what lay there already -/
def MadeB (base : Nat) (W : World) (l : List Ent) (e : Ending) (w' : World) : Prop :=
  ∃ A' n' c', e = .returned (.slice A' n' c') ∧ n' = l.length ∧ w'.ownsRow base 57 3 (.slice A' n' c') n' (EC l) ∧ Below base W w'
theorem filter_more {p : Ent → Bool} {l : List Ent} {k : Nat} {x : Ent} (h : l[k]? = some x) : (l.take (k + 1)).filter p = (l.take k).filter p ++ if p x then [x] else [] := by
  rw [take_more h, List.filter_append]
  cases hp : p x <;> simp [hp]

end Go.Proofs.Ytoemefoppkgfaaa
