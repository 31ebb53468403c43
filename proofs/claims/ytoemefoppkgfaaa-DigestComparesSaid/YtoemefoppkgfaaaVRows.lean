/- Views that came in. -/
import Derived.Test.YtoemefoppkgfaaaChecked
import Derived.Test.YtoemefoppkgfaaaVOpen
import Derived.Lib.SmallJoins
namespace Go.Proofs.Ytoemefoppkgfaaa
open Go.RowKit Go.ChangeShapes Go.WideShapes Go.Joins

theorem opens_Nameds {H : Type} {enc : TypeId × Value → H} {W : World} {base b0 : Nat} {held : Bool} {r : Reach} {v : Value} {d : DataW H} {p : List MemPlace} (hv : Value.okWide Try.prog W r b0 22 v)
    (h : DataW.Trod enc Try.prog W base (fun _ => true) held 22 v d p) (hw : ∀ n ∈ d.weights Try.prog 22, n ≤ 140737488351232) : ∃ U : Vw, v = vval U ∧ VIn W U := by
  obtain ⟨a, len, cap, rfl⟩ := okWide_slice Try.underlying22 hv
  obtain ⟨fuel, hf⟩ := h
  obtain ⟨a', len', cap', l, e, hr, h1, h2, h3, h4⟩ := rows_of (f := ncl) (k := 4) (by_ := 48) (R := fun x => SIn W x.v ∧ (Lit.int .i64 x.node).wf = true) (by omega) ncl_len Try.underlying22 (by kernel_rfl) (by kernel_rfl) (by omega)
    (fun cs y fl hl ht hwy => nv_of Try.underlying39 rfl (by kernel_rfl) rfl (by kernel_rfl) Try.underlying3 rfl
      (fun cs y fl hl hwy ht => state_of Try.underlying37 (by kernel_rfl) Try.underlying3 Try.underlying3 rfl Try.underlying35 Try.underlying57 (by kernel_rfl) (by kernel_rfl) Try.underlying3 Try.underlying3 Try.underlying9 (by kernel_rfl) hl hwy ht) hl hwy ht)
    hw (v := .slice a len cap) hf
  obtain ⟨rfl, rfl, rfl⟩ : a = a' ∧ len = len' ∧ cap = cap' := by simpa using e
  exact ⟨⟨l, a, len, cap⟩, rfl, ⟨hr, fun x hx => (h4 x hx).1.1⟩, h1, h3, fun x hx => ⟨⟨(h4 x hx).1.2.1, (h4 x hx).1.2.2.1⟩, (h4 x hx).2⟩⟩
end Go.Proofs.Ytoemefoppkgfaaa
