/- ZPke (merged). -/
import Derived.Test.YtbioblknhfmelaaJZRef2
namespace Go.Proofs.Ytbioblknhfmelaa
set_option linter.unusedVariables false
set_option linter.unusedSimpArgs false
open Go.RowKit
/-- a packet and a reason came back -/
def PkE (x : Pck) (z : Int) (w : World) (e : Ending) (w' : World) : Prop := (∃ u : Pv, u.x = x ∧ e = .returned (.tuple #[pval u, .int .i64 z]) ∧ PRd w' u ∧ PMod u) ∧ Below w.heap.size w w'
end Go.Proofs.Ytbioblknhfmelaa

