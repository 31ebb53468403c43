/- The reference's Above, Get, Same, Right. -/
import Derived.Test.YtfgpncbcelafoaaERef
namespace Go.Proofs.Ytfgpncbcelafoaa
set_option linter.unusedVariables false
set_option linter.unusedSimpArgs false
open Go.RowKit


/-- what Get answers -/
def getV (o : Option Ent) : Value := .tuple #[match o with | some x => ev x | none => .agg #[.int .i64 0, .int .i64 0, .string ⟨#[]⟩], .bool o.isSome]
end Go.Proofs.Ytfgpncbcelafoaa
