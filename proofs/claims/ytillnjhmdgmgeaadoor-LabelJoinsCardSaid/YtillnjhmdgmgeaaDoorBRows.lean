/- Lists of texts that came in. -/
import Derived.Test.YtillnjhmdgmgeaaDoorChecked
import Derived.Test.YtillnjhmdgmgeaaDoorBMem
import Derived.Test.YtillnjhmdgmgeaaDoorKOpen
import Derived.ChangeSlices
import Derived.Lib.SmallJoins
import Derived.Deep.Strs
namespace Go.Proofs.YtillnjhmdgmgeaaDoor
set_option linter.unusedVariables false
set_option linter.unusedSimpArgs false
open Go.RowKit Go.ChangeShapes Go.WideShapes Go.Joins Go.Deep
abbrev Strs := List (List UInt8)
/-- texts that came in -/
def StrsIn (w : World) (A : Option Addr) (n c : Nat) (l : List (List UInt8)) : Prop := Rd w w.heap.size 1 A n (Tt l) ∧ n ≤ c ∧ c ≤ 9223372036854775807 ∧ ∀ x ∈ l, x.length ≤ 9223372036854775807
def Lt : Type := { s : List UInt8 // s.length ≤ 9223372036854775807 }
def ltc (t : Lt) : List Value := [.string (strB t.1)]
theorem ltc_len (t : Lt) : (ltc t).length = 1 := rfl
theorem ltc_all : ∀ l : List Lt, FC ltc l = Tt (l.map fun t => t.1)
  | [] => rfl
  | t :: r => by
    show ltc t ++ FC ltc r = tc t.1 :: Tt (r.map fun t => t.1)
    rw [ltc_all r]
    rfl
theorem opens_Strs {H : Type} {enc : TypeId × Value → H} {W : World} {base b0 : Nat} {held : Bool} {r : Reach} {v : Value} {d : DataW H} {p : List MemPlace} (hv : Value.okWide Tryd.prog W r b0 28 v)
    (h : DataW.Trod enc Tryd.prog W base (fun _ => true) held 28 v d p) : ∃ A n c l, v = .slice A n c ∧ StrsIn W A n c l := by
  obtain ⟨a, len, cap, rfl⟩ := okWide_slice Tryd.underlying28 hv
  obtain ⟨fuel, hf⟩ := h
  obtain ⟨a', len', cap', l, e, hr, h3, h4, _⟩ := rows_free (f := ltc) (k := 1) (by omega) ltc_len Tryd.underlying28 (by kernel_rfl)
    (fun cs y fl hl ht => by
      match cs, hl with
      | [c0], _ =>
        obtain ⟨s, es, _, hm⟩ := DataW.trod_string Tryd.underlying9 ht
        obtain rfl : c0 = .string s := by simpa using es
        have hb : strB s.data.toList = s := by unfold strB; rw [Array.toArray_toList]
        have hl : s.data.toList.length ≤ 9223372036854775807 := by
          have e : s.data.toList.length = s.size := by rw [Array.length_toList]; rfl
          rw [e]
          unfold maxLen at hm
          omega
        exact ⟨⟨s.data.toList, hl⟩, by show _ = [Value.string (strB s.data.toList)]; rw [hb]⟩) (v := .slice a len cap) hf
  obtain ⟨rfl, rfl, rfl⟩ : a = a' ∧ len = len' ∧ cap = cap' := by simpa using e
  rw [ltc_all] at hr
  refine ⟨a, len, cap, l.map fun t => t.1, rfl, hr, h3, h4, fun x hx => ?_⟩
  obtain ⟨t, _, rfl⟩ := List.mem_map.1 hx
  exact t.2
end Go.Proofs.YtillnjhmdgmgeaaDoor
