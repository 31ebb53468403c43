/- The code's Right. -/
import Derived.Test.YtoemefoppkgfaaaECode
namespace Go.Proofs.Ytoemefoppkgfaaa
set_option linter.unusedVariables false
set_option linter.unusedSimpArgs false
open Go.RowKit

end Go.Proofs.Ytoemefoppkgfaaa
