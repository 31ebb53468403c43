/- The fixed fact of service's laws, plainly. -/
import Derived.Test.YtfgpncbcelafoaaYMath2
import Derived.KernelRfl
namespace Go.Proofs.Ytfgpncbcelafoaa
set_option linter.unusedVariables false
set_option linter.unusedSimpArgs false
namespace Y
def httpv : List UInt8 := [4, 104, 116, 116, 112, 3, 116, 99, 112, 80, 0, 0, 1]
def tab : List Ent := [⟨0, 0, [117, 112]⟩, ⟨3, 0, httpv⟩]
theorem kal1 : enc ⟨[104, 116, 116, 112], [116, 99, 112], 80, 0, 0, true⟩ = (httpv, 0) := by kernel_rfl
theorem kal2 : dec httpv = (⟨[104, 116, 116, 112], [116, 99, 112], 80, 0, 0, true⟩, 0) := by kernel_rfl
theorem kal3 : key [104, 116, 116, 112] [116, 99, 112] tab = (3, true) := by kernel_rfl
theorem kal4 : place tab = (4, true) := by kernel_rfl
theorem kal5 : up tab = true := by kernel_rfl
theorem kal6 : all tab = [⟨[104, 116, 116, 112], [116, 99, 112], 80, 0, 0, true⟩] := by kernel_rfl
end Y
end Go.Proofs.Ytfgpncbcelafoaa
