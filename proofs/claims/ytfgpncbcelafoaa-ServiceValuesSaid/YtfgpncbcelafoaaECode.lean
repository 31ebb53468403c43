/- The code's words on tables: May, isAbove, Top, Right. -/
import Derived.Test.YtfgpncbcelafoaaERef6
namespace Go.Proofs.Ytfgpncbcelafoaa
set_option linter.unusedVariables false
set_option linter.unusedSimpArgs false
open Go.RowKit

end Go.Proofs.Ytfgpncbcelafoaa
