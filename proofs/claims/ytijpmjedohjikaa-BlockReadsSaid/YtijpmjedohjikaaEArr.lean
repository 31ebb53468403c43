/- [2]uint8 that came in. -/
import Derived.Test.YtijpmjedohjikaaChecked
import Derived.Test.YtijpmjedohjikaaOpenA
namespace Go.Proofs.Ytijpmjedohjikaa
open Go.ChangeShapes Go.WideShapes
/-- two small integers that came in -/
def Two (p q : Int) : Prop := 0 ≤ p ∧ p ≤ 255 ∧ 0 ≤ q ∧ q ≤ 255
theorem opens_Two {H : Type} {enc : TypeId × Value → H} {W : World} {base b0 : Nat} {held : Bool} {r : Reach} {v : Value} {d : DataW H} {p : List MemPlace} (hv : Value.okWide Try.prog W r b0 47 v)
    (h : DataW.Trod enc Try.prog W base (fun _ => true) held 47 v d p) : ∃ p q, v = .agg #[.int .u8 p, .int .u8 q] ∧ Two p q := by
  obtain ⟨zs, rfl, hl, hw⟩ := array_ints Try.underlying47 Try.underlying5 (by kernel_rfl) (by kernel_rfl) hv h
  match zs, hl, hw with
  | [a, b], _, hw =>
    have h1 := hw a (by simp)
    have h2 := hw b (by simp)
    refine ⟨a, b, rfl, ?_⟩
    have e1 : IntKind.u8.min = 0 := by decide
    have e2 : IntKind.u8.max = 255 := by decide
    simp [Lit.wf, e1, e2] at h1 h2
    exact ⟨by omega, by omega, by omega, by omega⟩
end Go.Proofs.Ytijpmjedohjikaa
