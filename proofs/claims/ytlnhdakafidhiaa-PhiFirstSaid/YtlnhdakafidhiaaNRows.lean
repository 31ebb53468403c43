/- Windows that came in. -/
import Derived.Test.YtlnhdakafidhiaaChecked
import Derived.Test.YtlnhdakafidhiaaNMem
import Derived.ChangeArms
import Derived.ChangeSlices
import Derived.Lib.SmallJoins
namespace Go.Proofs.Ytlnhdakafidhiaa
set_option linter.unusedVariables false
set_option linter.unusedSimpArgs false
open Go.RowKit Go.ChangeShapes Go.WideShapes Go.Joins
theorem introw_of {H : Type} {enc : TypeId × Value → H} {W : World} {base fuel : Nat} {spare : Nat → Bool} {held : Bool} {v : Value} {x : DataW H × List MemPlace} (hsp : ∀ b, spare b = true)
    (hf : DataW.trod enc Try.prog W base spare held fuel 22 [v] = some x) : ∃ a len cap zs, v = .slice a len cap ∧ Row .i64 W a len cap zs := by
  rcases open_ints Try.underlying22 Try.underlying3 (by kernel_rfl) hf with ⟨hcs, _⟩ | ⟨x, l, c, zs, hcs, _, hl, hm, hz, _, hcell, hwz⟩
  · obtain rfl : v = .slice none 0 0 := by simpa using hcs
    exact ⟨none, 0, 0, [], rfl, .inl ⟨rfl, rfl, rfl, rfl⟩⟩
  · obtain rfl : v = .slice (some x) l c := by simpa using hcs
    refine ⟨some x, l, c, zs, rfl, .inr ⟨x, rfl, hl, hm, ?_, hcell, hwz⟩⟩
    rw [hz, hsp]; rfl
theorem opens_Window {H : Type} {enc : TypeId × Value → H} {W : World} {base b0 : Nat} {held : Bool} {r : Reach} {v : Value} {d : DataW H} {p : List MemPlace} (hv : Value.okWide Try.prog W r b0 24 v)
    (h : DataW.Trod enc Try.prog W base (fun _ => true) held 24 v d p) : ∃ u, v = wval u ∧ WIn W u := by
  obtain ⟨v0, v1, y0, y1, n, rfl, _, _, h0, h1⟩ := open_agg2 Try.underlying24 (by kernel_rfl) (by kernel_rfl) hv h
  obtain ⟨k, e0, _, hk⟩ := DataW.trod_int Try.underlying3 h0
  obtain ⟨a, len, cap, zs, rfl, hrow⟩ := introw_of (fun _ => rfl) h1
  obtain rfl : v0 = .int .i64 k := by simpa using e0
  obtain ⟨l, hl, hr⟩ := hrow.ints
  exact ⟨⟨⟨k, l⟩, a, len, cap⟩, rfl, ⟨hr, hrow.cap_.1, hrow.cap_.2⟩, wf_bounds_i64 hk⟩
end Go.Proofs.Ytlnhdakafidhiaa
