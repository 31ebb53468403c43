/- What came in, where a frame came in. -/
import Derived.Test.YtbnbljkkfgieoaaFRight
import Derived.ChangeArms
import Derived.ChangeSlices
import Derived.Lib.SmallJoins
namespace Go.Proofs.Ytbnbljkkfgieoaa
set_option linter.unusedVariables false
set_option linter.unusedSimpArgs false
open Go.RowKit Go.ChangeShapes Go.WideShapes Go.Joins

/-- a frame that came in -/
def FrameIn (W : World) (f : Fr) (A : Option Addr) (n c : Nat) : Prop :=
  Rd W W.heap.size 1 A n (U f.pay) ∧ n ≤ c ∧ c ≤ 9223372036854775807 ∧ f.clu.length ≤ 9223372036854775807

theorem row_of {H : Type} {enc : TypeId × Value → H} {W : World} {base fuel : Nat} {spare : Nat → Bool} {held : Bool} {v : Value} {x : DataW H × List MemPlace} (hsp : ∀ b, spare b = true)
    (hf : DataW.trod enc Try.prog W base spare held fuel 22 [v] = some x) : ∃ a len cap zs, v = .slice a len cap ∧ Row .u8 W a len cap zs := by
  rcases open_ints Try.underlying22 Try.underlying5 (by kernel_rfl) hf with ⟨hcs, _⟩ | ⟨x, l, c, zs, hcs, _, hl, hm, hz, _, hcell, hwz⟩
  · obtain rfl : v = .slice none 0 0 := by simpa using hcs
    exact ⟨none, 0, 0, [], rfl, .inl ⟨rfl, rfl, rfl, rfl⟩⟩
  · obtain rfl : v = .slice (some x) l c := by simpa using hcs
    refine ⟨some x, l, c, zs, rfl, .inr ⟨x, rfl, hl, hm, ?_, hcell, hwz⟩⟩
    rw [hz, hsp]; rfl

theorem opens_Frame {H : Type} {enc : TypeId × Value → H} {W : World} {base b0 : Nat} {held : Bool} {r : Reach} {v : Value} {d : DataW H} {p : List MemPlace} (hv : Value.okWide Try.prog W r b0 24 v)
    (h : DataW.Trod enc Try.prog W base (fun _ => true) held 24 v d p) : ∃ f A n c, v = fv f A n c ∧ FrameIn W f A n c := by
  obtain ⟨v0, v1, v2, v3, y0, y1, y2, y3, n, rfl, _, _, h0, h1, h2, h3⟩ := open_agg4 Try.underlying24 (by kernel_rfl) (by kernel_rfl) hv h
  obtain ⟨k, e0, _, _⟩ := DataW.trod_int Try.underlying3 h0
  obtain ⟨s, e1, _, hs⟩ := DataW.trod_string Try.underlying9 h1
  obtain ⟨m, e2, _, _⟩ := DataW.trod_int Try.underlying3 h2
  obtain ⟨a, len, cap, zs, rfl, hrow⟩ := row_of (fun _ => rfl) h3
  obtain rfl : v0 = .int .i64 k := by simpa using e0
  obtain rfl : v1 = .string s := by simpa using e1
  obtain rfl : v2 = .int .i64 m := by simpa using e2
  obtain ⟨l, hl, hr⟩ := hrow.bytes
  unfold maxLen at hs
  exact ⟨⟨k, s.data.toList, m, l⟩, a, len, cap, rfl, hr, hrow.cap_.1, hrow.cap_.2, hs⟩
end Go.Proofs.Ytbnbljkkfgieoaa
