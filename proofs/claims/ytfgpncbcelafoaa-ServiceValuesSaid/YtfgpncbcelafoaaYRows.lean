/- A service that came in. -/
import Derived.Test.YtfgpncbcelafoaaChecked
import Derived.Test.YtfgpncbcelafoaaYMem
import Derived.Test.YtfgpncbcelafoaaKOpenY
namespace Go.Proofs.Ytfgpncbcelafoaa
set_option linter.unusedVariables false
set_option linter.unusedSimpArgs false
open Go.RowKit Go.ChangeShapes Go.WideShapes Go.Joins
/-- a service that came in -/
def SvIn (x : Svc) : Prop := YIn x ∧ (-9223372036854775808 ≤ x.port ∧ x.port ≤ 9223372036854775807) ∧ (-9223372036854775808 ≤ x.prio ∧ x.prio ≤ 9223372036854775807) ∧ (-9223372036854775808 ≤ x.wt ∧ x.wt ≤ 9223372036854775807)
theorem opens_Service {H : Type} {enc : TypeId × Value → H} {W : World} {base b0 : Nat} {held : Bool} {r : Reach} {v : Value} {d : DataW H} {p : List MemPlace} (hv : Value.okWide Try.prog W r b0 23 v)
    (h : DataW.Trod enc Try.prog W base (fun _ => true) held 23 v d p) (hw : ∀ n ∈ d.weights Try.prog 23, n ≤ 140737488351232) :
    ∃ x : Svc, v = .agg #[.string (strB x.name), .string (strB x.proto), .int .i64 x.port, .int .i64 x.prio, .int .i64 x.wt, .bool x.well] ∧ SvIn x := by
  obtain ⟨v0, v1, v2, v3, v4, v5, y0, y1, y2, y3, y4, y5, n, rfl, rfl, h0, h1, h2, h3, h4, h5⟩ := open_agg6 Try.underlying23 (by kernel_rfl) (by kernel_rfl) hv h
  rw [weights_struct Try.underlying23] at hw
  obtain ⟨s, e0, d0, _⟩ := DataW.trod_string Try.underlying9 h0
  obtain ⟨t, e1, d1, _⟩ := DataW.trod_string Try.underlying9 h1
  obtain ⟨a, e2, _, ha⟩ := DataW.trod_int Try.underlying3 h2
  obtain ⟨b, e3, _, hb⟩ := DataW.trod_int Try.underlying3 h3
  obtain ⟨c, e4, _, hc⟩ := DataW.trod_int Try.underlying3 h4
  obtain ⟨z, e5, _⟩ := DataW.trod_bool Try.underlying4 h5
  obtain rfl : v0 = .string s := by simpa using e0
  obtain rfl : v1 = .string t := by simpa using e1
  obtain rfl : v2 = .int .i64 a := by simpa using e2
  obtain rfl : v3 = .int .i64 b := by simpa using e3
  obtain rfl : v4 = .int .i64 c := by simpa using e4
  obtain rfl : v5 = .bool z := by simpa using e5
  have b0 : strB s.data.toList = s := by unfold strB; rw [Array.toArray_toList]
  have b1 : strB t.data.toList = t := by unfold strB; rw [Array.toArray_toList]
  have k0 := hw s.data.toList.length (DataW.weights_mem_each (j := 0) (t := 9) (d := y0.1) rfl rfl _ (by rw [d0]; simp [DataW.weights]))
  have k1 := hw t.data.toList.length (DataW.weights_mem_each (j := 1) (t := 9) (d := y1.1) rfl rfl _ (by rw [d1]; simp [DataW.weights]))
  exact ⟨⟨s.data.toList, t.data.toList, a, b, c, z⟩, by rw [b0, b1], ⟨k0, k1⟩, wf_bounds_i64 ha, wf_bounds_i64 hb, wf_bounds_i64 hc⟩
end Go.Proofs.Ytfgpncbcelafoaa
