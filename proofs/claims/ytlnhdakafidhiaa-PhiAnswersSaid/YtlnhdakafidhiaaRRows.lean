/- [3]int, [4]int and [6]uint32 that came in. -/
import Derived.Test.YtlnhdakafidhiaaChecked
import Derived.Test.YtlnhdakafidhiaaOpenA
namespace Go.Proofs.Ytlnhdakafidhiaa
open Go.ChangeShapes Go.WideShapes
/-- an int -/
def In64 (p : Int) : Prop := -9223372036854775808 ≤ p ∧ p ≤ 9223372036854775807
def In32 (p : Int) : Prop := 0 ≤ p ∧ p ≤ 4294967295
theorem in64 {p : Int} (h : (Lit.int .i64 p).wf = true) : In64 p := by
  have e1 : IntKind.i64.min = -9223372036854775808 := by decide
  have e2 : IntKind.i64.max = 9223372036854775807 := by decide
  simp [Lit.wf, e1, e2] at h
  exact h
theorem in32 {p : Int} (h : (Lit.int .u32 p).wf = true) : In32 p := by
  have e1 : IntKind.u32.min = 0 := by decide
  have e2 : IntKind.u32.max = 4294967295 := by decide
  simp [Lit.wf, e1, e2] at h
  exact h
def Three (p q r : Int) : Prop := In64 p ∧ In64 q ∧ In64 r
def Four (p q r s : Int) : Prop := In64 p ∧ In64 q ∧ In64 r ∧ In64 s
def Six (p q r s t u : Int) : Prop := In32 p ∧ In32 q ∧ In32 r ∧ In32 s ∧ In32 t ∧ In32 u
theorem opens_Three {H : Type} {enc : TypeId × Value → H} {W : World} {base b0 : Nat} {held : Bool} {r : Reach} {v : Value} {d : DataW H} {p : List MemPlace} (hv : Value.okWide Try.prog W r b0 25 v)
    (h : DataW.Trod enc Try.prog W base (fun _ => true) held 25 v d p) : ∃ p q r, v = .agg #[.int .i64 p, .int .i64 q, .int .i64 r] ∧ Three p q r := by
  obtain ⟨zs, rfl, hl, hw⟩ := array_ints Try.underlying25 Try.underlying3 (by kernel_rfl) (by kernel_rfl) hv h
  match zs, hl, hw with
  | [a, b, c], _, hw => exact ⟨a, b, c, rfl, in64 (hw a (by simp)), in64 (hw b (by simp)), in64 (hw c (by simp))⟩
end Go.Proofs.Ytlnhdakafidhiaa
