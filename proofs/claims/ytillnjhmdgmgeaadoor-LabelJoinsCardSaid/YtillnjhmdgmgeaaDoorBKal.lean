/- The fixed fact of label's laws, plainly. -/
import Derived.Test.YtillnjhmdgmgeaaDoorBMath2
import Derived.KernelRfl
namespace Go.Proofs.YtillnjhmdgmgeaaDoor
set_option linter.unusedVariables false
set_option linter.unusedSimpArgs false
namespace Lab
theorem kal1 : of [97, 46, 98, 99] = ([1, 97, 2, 98, 99, 0], 0) := by kernel_rfl
theorem kal2 : text [1, 97, 2, 98, 99, 0] = ([97, 46, 98, 99, 46], 0) := by kernel_rfl
theorem kal3 : of [97, 46, 46, 98] = ([], 3) := by kernel_rfl
theorem kal4 : same [1, 97, 2, 98, 99, 0] [1, 65, 2, 66, 99, 0] = true := by kernel_rfl
theorem kal5 : under [1, 97, 2, 98, 99, 0] [2, 66, 67, 0] = true := by kernel_rfl
theorem kal6 : labels [1, 97, 2, 98, 99, 0] = [[97], [98, 99]] := by kernel_rfl
theorem kal7 : right [1, 97, 2, 98, 99, 0] = true := by kernel_rfl
end Lab
end Go.Proofs.YtillnjhmdgmgeaaDoor
