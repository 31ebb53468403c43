/- PRows (merged). -/
import Derived.Test.YtbioblknhfmelaaChecked
import Derived.Test.YtbioblknhfmelaaJMem
import Derived.Test.YtbioblknhfmelaaJOpenA
namespace Go.Proofs.Ytbioblknhfmelaa
open Go.ChangeShapes Go.WideShapes
def P16 (p : Int) : Prop := 0 ≤ p ∧ p ≤ 65535
def Pair16 (p q : Int) : Prop := P16 p ∧ P16 q
theorem opens_Pair16 {H : Type} {enc : TypeId × Value → H} {W : World} {base b0 : Nat} {held : Bool} {r : Reach} {v : Value} {d : DataW H} {p : List MemPlace} (hv : Value.okWide Try.prog W r b0 41 v)
    (h : DataW.Trod enc Try.prog W base (fun _ => true) held 41 v d p) : ∃ p q, v = .agg #[.int .u16 p, .int .u16 q] ∧ Pair16 p q := by
  obtain ⟨zs, rfl, hl, hw⟩ := array_ints Try.underlying41 Try.underlying35 (by kernel_rfl) (by kernel_rfl) hv h
  match zs, hl, hw with
  | [a, b], _, hw => exact ⟨a, b, rfl, wf_bounds_u16 (hw a (by simp)), wf_bounds_u16 (hw b (by simp))⟩
end Go.Proofs.Ytbioblknhfmelaa

