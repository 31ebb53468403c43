/- What came in, where tables and entries came in. -/
import Derived.Test.YtfgpncbcelafoaaChecked
import Derived.Test.YtfgpncbcelafoaaEMem
namespace Go.Proofs.Ytfgpncbcelafoaa
open Go.RowKit Go.ChangeShapes Go.WideShapes Go.Joins

/-- an entry that came in -/
def EntIn (x : Ent) : Prop := x.val.length ≤ 140737488351232 ∧ (Lit.int .i64 x.key).wf = true ∧ (Lit.int .i64 x.ver).wf = true

theorem opens_Entries {H : Type} {enc : TypeId × Value → H} {W : World} {base b0 : Nat} {held : Bool} {r : Reach} {v : Value} {d : DataW H} {p : List MemPlace} (hv : Value.okWide Try.prog W r b0 33 v)
    (h : DataW.Trod enc Try.prog W base (fun _ => true) held 33 v d p) (hw : ∀ n ∈ d.weights Try.prog 33, n ≤ 140737488351232) : ∃ A n c l, v = .slice A n c ∧ TableIn W A n c l := by
  obtain ⟨a, len, cap, rfl⟩ := okWide_slice Try.underlying33 hv
  obtain ⟨fuel, hf⟩ := h
  exact table_of Try.underlying33 Try.underlying40 (by kernel_rfl) (by kernel_rfl) Try.underlying3 Try.underlying3 Try.underlying9 (by kernel_rfl) hw (v := .slice a len cap) hf

theorem opens_Entry {H : Type} {enc : TypeId × Value → H} {W : World} {base b0 : Nat} {held : Bool} {r : Reach} {v : Value} {d : DataW H} {p : List MemPlace} (hv : Value.okWide Try.prog W r b0 40 v)
    (h : DataW.Trod enc Try.prog W base (fun _ => true) held 40 v d p) (hw : ∀ n ∈ d.weights Try.prog 40, n ≤ 140737488351232) : ∃ x, v = ev x ∧ EntIn x := by
  obtain ⟨cs, rfl, hsz⟩ := okWide_struct Try.underlying40 hv
  obtain ⟨fuel, hf⟩ := h
  have hC : Try.prog.cellsOf 40 = 3 := by kernel_rfl
  rw [hC] at hsz
  obtain ⟨e, he, g1, g2, g3⟩ := ent_of Try.underlying40 (by kernel_rfl) hC Try.underlying3 Try.underlying3 Try.underlying9 (by simpa [Value.cells] using hsz) hf
  refine ⟨e, ?_, hw _ g1, g2, g3⟩
  have : cs.toList = ec e := by simpa [Value.cells] using he
  unfold ev
  rw [← show (ec e).toArray = #[.int .i64 e.key, .int .i64 e.ver, .string (strB e.val)] from rfl, ← this]
end Go.Proofs.Ytfgpncbcelafoaa
