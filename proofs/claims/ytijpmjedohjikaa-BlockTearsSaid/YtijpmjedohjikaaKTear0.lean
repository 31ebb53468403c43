/- A whole sector loaded, by the lone laws. -/
import Derived.Test.YtijpmjedohjikaaKWalk
namespace Go.Proofs.Ytijpmjedohjikaa
set_option linter.unusedVariables false
set_option linter.unusedSimpArgs false
open Go.RowKit
theorem exec_sec {w : World} {ρ : Operand → Value} {d : Nat} {ty : TypeId} {pos : String} {af : Array Edge} {g : Option (Nat × Bool)} {x : Operand} (b o : Nat) (s : List UInt8) (hs : s.length = 64) (hc : w.rangeAt b o (U s)) (hx : ρ x = .pointer (some ⟨b, o, none⟩)) :
    (execOp ρ ⟨some d, .load 26 x, ty, pos, af, g⟩).run Try.prog w = .ok (.value (.agg (U s).toArray)) w := by
  unfold execOp
  simp only [hx, Instr.loadAt, Instr.sureAddr, Sem.run_bind, Sem.run_pure, Result.andThen_ok, run_loadVar_mid w b o 26 (U s) _ hc Try.underlying26 rfl (by rw [U_length, hs]; rfl)]
end Go.Proofs.Ytijpmjedohjikaa
