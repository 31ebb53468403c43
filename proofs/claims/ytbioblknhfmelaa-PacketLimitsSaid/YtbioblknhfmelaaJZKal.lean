/- ZKal (merged). -/
import Derived.ProofKit
import Derived.Test.YtbioblknhfmelaaJPlain
namespace Go.Proofs.Ytbioblknhfmelaa
set_option linter.unusedVariables false
namespace Pk
def k0 : Pck := ⟨7, 0, [⟨[1, 97, 0], 1, 1⟩], [⟨[1, 65, 0], 1, 1, 5, [97, 98, 99, 100]⟩], [], []⟩
def k1 : Pck := ⟨7, 0, [⟨[1, 97, 0], 1, 1⟩], [⟨[1, 97, 0], 1, 1, 5, [97, 98, 99, 100]⟩], [], []⟩
def kb : List UInt8 := [0, 7, 0, 0, 0, 1, 0, 1, 0, 0, 0, 0, 1, 97, 0, 0, 1, 0, 1, 192, 12, 0, 1, 0, 1, 0, 0, 0, 5, 0, 4, 97, 98, 99, 100]
def kc : List UInt8 := [0, 7, 2, 0, 0, 1, 0, 0, 0, 0, 0, 0, 1, 97, 0, 0, 1, 0, 1]
theorem kal1 : build k0 512 = (kb, 0) := by kernel_rfl
theorem kal2 : parse kb = (k1, 0) := by kernel_rfl
theorem kal3 : build k0 20 = (kc, 0) := by kernel_rfl
theorem kal4 : nameAt [192, 0] 0 = ([], 0, 15) := by kernel_rfl
end Pk
end Go.Proofs.Ytbioblknhfmelaa

