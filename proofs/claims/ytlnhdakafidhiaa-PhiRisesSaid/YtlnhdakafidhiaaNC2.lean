/- Slices of ints: Concat of two; one gap more. -/
import Derived.Test.YtlnhdakafidhiaaNC1
namespace Go.Proofs.Ytlnhdakafidhiaa
set_option linter.unusedVariables false
set_option linter.unusedSimpArgs false
open Go.RowKit

end Go.Proofs.Ytlnhdakafidhiaa
