/- Pairs and triples of small numbers that came in. -/
import Derived.Test.YtlnhdakafidhiaaChecked
import Derived.Test.YtlnhdakafidhiaaOpenA
import Derived.Test.YtlnhdakafidhiaaMem
namespace Go.Proofs.Ytlnhdakafidhiaa
open Go.ChangeShapes Go.WideShapes
def P32 (p : Int) : Prop := 0 ≤ p ∧ p ≤ 4294967295
def P16 (p : Int) : Prop := 0 ≤ p ∧ p ≤ 65535
def Pair32 (p q : Int) : Prop := P32 p ∧ P32 q
def Pair16 (p q : Int) : Prop := P16 p ∧ P16 q
def Three16 (p q r : Int) : Prop := P16 p ∧ P16 q ∧ P16 r
theorem opens_Pair32 {H : Type} {enc : TypeId × Value → H} {W : World} {base b0 : Nat} {held : Bool} {r : Reach} {v : Value} {d : DataW H} {p : List MemPlace} (hv : Value.okWide Try.prog W r b0 34 v)
    (h : DataW.Trod enc Try.prog W base (fun _ => true) held 34 v d p) : ∃ p q, v = .agg #[.int .u32 p, .int .u32 q] ∧ Pair32 p q := by
  obtain ⟨zs, rfl, hl, hw⟩ := array_ints Try.underlying34 Try.underlying33 (by kernel_rfl) (by kernel_rfl) hv h
  match zs, hl, hw with
  | [a, b], _, hw => exact ⟨a, b, rfl, wf_bounds_u32 (hw a (by simp)), wf_bounds_u32 (hw b (by simp))⟩
theorem opens_Pair16 {H : Type} {enc : TypeId × Value → H} {W : World} {base b0 : Nat} {held : Bool} {r : Reach} {v : Value} {d : DataW H} {p : List MemPlace} (hv : Value.okWide Try.prog W r b0 48 v)
    (h : DataW.Trod enc Try.prog W base (fun _ => true) held 48 v d p) : ∃ p q, v = .agg #[.int .u16 p, .int .u16 q] ∧ Pair16 p q := by
  obtain ⟨zs, rfl, hl, hw⟩ := array_ints Try.underlying48 Try.underlying35 (by kernel_rfl) (by kernel_rfl) hv h
  match zs, hl, hw with
  | [a, b], _, hw => exact ⟨a, b, rfl, wf_bounds_u16 (hw a (by simp)), wf_bounds_u16 (hw b (by simp))⟩
theorem opens_Three16 {H : Type} {enc : TypeId × Value → H} {W : World} {base b0 : Nat} {held : Bool} {r : Reach} {v : Value} {d : DataW H} {p : List MemPlace} (hv : Value.okWide Try.prog W r b0 46 v)
    (h : DataW.Trod enc Try.prog W base (fun _ => true) held 46 v d p) : ∃ p q r, v = .agg #[.int .u16 p, .int .u16 q, .int .u16 r] ∧ Three16 p q r := by
  obtain ⟨zs, rfl, hl, hw⟩ := array_ints Try.underlying46 Try.underlying35 (by kernel_rfl) (by kernel_rfl) hv h
  match zs, hl, hw with
  | [a, b, c], _, hw => exact ⟨a, b, c, rfl, wf_bounds_u16 (hw a (by simp)), wf_bounds_u16 (hw b (by simp)), wf_bounds_u16 (hw c (by simp))⟩
end Go.Proofs.Ytlnhdakafidhiaa
