/- The code's Get, add, Above, Clone, Equal, Same. -/
import Derived.Test.YtoemefoppkgfaaaECode3
namespace Go.Proofs.Ytoemefoppkgfaaa
set_option linter.unusedVariables false
set_option linter.unusedSimpArgs false
open Go.RowKit

theorem found_key {l : List Ent} {key i : Int} (h : Found (fun y => y.key == key) l i) : (i = -1 ∧ E.get l key = none) ∨ ∃ (k : Nat) (x : Ent), i = k ∧ l[k]? = some x ∧ E.get l key = some x := by
  rcases h with ⟨rfl, h⟩ | ⟨k, x, rfl, hx, he, hno⟩
  · exact Or.inl ⟨rfl, E.get_rising_none fun y hy => by simpa using h y hy⟩
  · exact Or.inr ⟨k, x, rfl, hx, E.get_at hx (by simpa using he) fun y hy => by simpa using hno y hy⟩

end Go.Proofs.Ytoemefoppkgfaaa
