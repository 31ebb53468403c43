/- The reference's Join on states. -/
import Derived.Test.YtoemefoppkgfaaaTRef2
namespace Go.Proofs.Ytoemefoppkgfaaa
set_option linter.unusedVariables false
set_option linter.unusedSimpArgs false
open Go.RowKit

theorem Box.other3 {w : World} {b b' : Nat} {T : TypeId} {cs : Array Value} (h : Box w b T cs) (hne : b ≠ b') (u0 u1 u2 : Value) : Box (((w.setCell ⟨b', 0, none⟩ u0).setCell ⟨b', 1, none⟩ u1).setCell ⟨b', 2, none⟩ u2) b T cs := ((h.other hne u0).other hne u1).other hne u2

end Go.Proofs.Ytoemefoppkgfaaa
