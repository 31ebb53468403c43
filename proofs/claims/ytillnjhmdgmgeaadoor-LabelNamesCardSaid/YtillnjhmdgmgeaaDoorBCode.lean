/- Package label: the contracts of the code that landed. -/
import Derived.Test.YtillnjhmdgmgeaaDoorBC5
namespace Go.Proofs.YtillnjhmdgmgeaaDoor
set_option linter.unusedVariables false
set_option linter.unusedSimpArgs false
open Go.RowKit
theorem blright_any (s : List UInt8) (hs : s.length ≤ 100000) (w : World) : Calls Tryd.prog 13 #[.string (strB s)] w (BoB (Lab.right s) w) := cright_any s (by omega) w
end Go.Proofs.YtillnjhmdgmgeaaDoor
