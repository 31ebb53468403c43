/- States that came in. -/
import Derived.Test.YtpfkgddcoancnaaChecked
import Derived.Test.YtpfkgddcoancnaaTMem
import Derived.Lib.SmallJoins
namespace Go.Proofs.Ytpfkgddcoancnaa
open Go.RowKit Go.ChangeShapes Go.WideShapes Go.Joins

theorem opens_State {H : Type} {enc : TypeId × Value → H} {W : World} {base b0 : Nat} {held : Bool} {r : Reach} {v : Value} {d : DataW H} {p : List MemPlace} (hv : Value.okWide Try.prog W r b0 27 v)
    (h : DataW.Trod enc Try.prog W base (fun _ => true) held 27 v d p) (hw : ∀ n ∈ d.weights Try.prog 27, n ≤ 140737488351232) : ∃ s, v = sv s ∧ SIn W s := by
  obtain ⟨v0, v1, v2, y0, y1, y2, n, rfl, rfl, _, h0, h1, h2⟩ := open_agg3 Try.underlying27 (by kernel_rfl) (by kernel_rfl) hv h
  rw [weights_struct Try.underlying27] at hw
  obtain ⟨g, e0, _, w0⟩ := DataW.trod_int Try.underlying3 h0
  obtain ⟨t, e1, _, w1⟩ := DataW.trod_int Try.underlying3 h1
  obtain rfl : v0 = .int .i64 g := by simpa using e0
  obtain rfl : v1 = .int .i64 t := by simpa using e1
  obtain ⟨a, len, cap, l, rfl, ht⟩ := table_of Try.underlying25 Try.underlying59 (by kernel_rfl) (by kernel_rfl) Try.underlying3 Try.underlying3 Try.underlying9 (by kernel_rfl)
    (fun k hk => hw k (DataW.weights_mem_each (j := 2) (t := 25) (d := y2.1) rfl rfl k hk)) h2
  exact ⟨⟨⟨g, t, l⟩, a, len, cap⟩, rfl, ht.1, ht.2.2.2.1, fun x hx => (ht.2.2.2.2 x hx).1, w0, w1⟩
end Go.Proofs.Ytpfkgddcoancnaa
