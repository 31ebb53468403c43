/- Digests that came in. -/
import Derived.Test.YtoemefoppkgfaaaChecked
import Derived.Test.YtoemefoppkgfaaaDMem
import Derived.Lib.SmallJoins
namespace Go.Proofs.Ytoemefoppkgfaaa
open Go.RowKit Go.ChangeShapes Go.WideShapes Go.Joins

theorem opens_Digests {H : Type} {enc : TypeId × Value → H} {W : World} {base b0 : Nat} {held : Bool} {r : Reach} {v : Value} {d : DataW H} {p : List MemPlace} (hv : Value.okWide Try.prog W r b0 23 v)
    (h : DataW.Trod enc Try.prog W base (fun _ => true) held 23 v d p) (hw : ∀ n ∈ d.weights Try.prog 23, n ≤ 140737488351232) : ∃ A n c l, v = .slice A n c ∧ DIn W A n c l := by
  obtain ⟨a, len, cap, rfl⟩ := okWide_slice Try.underlying23 hv
  obtain ⟨fuel, hf⟩ := h
  obtain ⟨a', len', cap', l, e, hr, h1, h2, h3, h4⟩ := rows_of (f := dcl) (k := 3) (by_ := 24) (R := fun _ => True) (by omega) dcl_len Try.underlying23 (by kernel_rfl) (by kernel_rfl) (by omega)
    (fun cs y fl hl ht hwy => dg_of Try.underlying34 (by kernel_rfl) Try.underlying3 Try.underlying3 Try.underlying3 hl ht)
    hw (v := .slice a len cap) hf
  obtain ⟨rfl, rfl, rfl⟩ : a = a' ∧ len = len' ∧ cap = cap' := by simpa using e
  exact ⟨a, len, cap, l, rfl, hr, h1, h3⟩
end Go.Proofs.Ytoemefoppkgfaaa
