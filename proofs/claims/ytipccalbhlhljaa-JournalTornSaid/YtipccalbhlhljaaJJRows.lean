/- JRows (merged). -/
import Derived.Test.YtipccalbhlhljaaJKMem
import Derived.Test.YtipccalbhlhljaaJKRows
namespace Go.Proofs.Ytipccalbhlhljaa
set_option linter.unusedVariables false
set_option linter.unusedSimpArgs false
open Go.RowKit Go.ChangeShapes Go.WideShapes Go.Joins
theorem opens_Rec {H : Type} {enc : TypeId × Value → H} {W : World} {base b0 : Nat} {held : Bool} {r : Reach} {v : Value} {d : DataW H} {p : List MemPlace} (hv : Value.okWide Try.prog W r b0 23 v)
    (h : DataW.Trod enc Try.prog W base (fun _ => true) held 23 v d p) : ∃ x, v = .agg #[.int .i64 x.seq, .int .i64 x.gen, .string (strB x.note)] ∧ RcIn x := by
  obtain ⟨v0, v1, v2, y0, y1, y2, n, rfl, _, _, h0, h1, h2⟩ := open_agg3 Try.underlying23 (by kernel_rfl) (by kernel_rfl) hv h
  obtain ⟨q, e0, _, hq⟩ := DataW.trod_int Try.underlying3 h0
  obtain ⟨g, e1, _, hg⟩ := DataW.trod_int Try.underlying3 h1
  obtain ⟨s, e2, _, hm⟩ := DataW.trod_string Try.underlying9 h2
  obtain rfl : v0 = .int .i64 q := by simpa using e0
  obtain rfl : v1 = .int .i64 g := by simpa using e1
  obtain rfl : v2 = .string s := by simpa using e2
  have hb : strB s.data.toList = s := by unfold strB; rw [Array.toArray_toList]
  refine ⟨⟨q, g, s.data.toList⟩, by rw [hb], wf_bounds_i64 hq, wf_bounds_i64 hg, ?_⟩
  have e : s.data.toList.length = s.size := by rw [Array.length_toList]; rfl
  show s.data.toList.length ≤ _
  rw [e]
  unfold maxLen at hm
  omega
end Go.Proofs.Ytipccalbhlhljaa

