/- The code's Right. -/
import Derived.Test.YtfgpncbcelafoaaECode
namespace Go.Proofs.Ytfgpncbcelafoaa
set_option linter.unusedVariables false
set_option linter.unusedSimpArgs false
open Go.RowKit

end Go.Proofs.Ytfgpncbcelafoaa
