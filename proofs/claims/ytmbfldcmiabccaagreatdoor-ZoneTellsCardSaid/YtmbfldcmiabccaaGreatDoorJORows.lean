/- ORows (merged). -/
import Derived.Test.YtmbfldcmiabccaaGreatDoorChecked
import Derived.ChangeArms
import Derived.ChangeSlices
import Derived.Lib.SmallJoins
import Derived.Test.YtmbfldcmiabccaaGreatDoorJF09
import Derived.Test.YtmbfldcmiabccaaGreatDoorJF21
namespace Go.Proofs.YtmbfldcmiabccaaGreatDoor
set_option linter.unusedVariables false
set_option linter.unusedSimpArgs false
open Go.RowKit Go.ChangeShapes Go.WideShapes Go.Joins Go.Deep
set_option maxRecDepth 100000 in
theorem nameds_of {H : Type} {enc : TypeId × Value → H} {W : World} {base fuel : Nat} {spare : Nat → Bool} {held : Bool} {v : Value} {x : DataW H × List MemPlace} (hw : ∀ n ∈ x.1.weights Tryz.prog 22, n ≤ 140737488351232)
    (h : DataW.trod enc Tryz.prog W base spare held fuel 22 [v] = some x) : ∃ U : Vw, v = vval U ∧ VIn W U ∧ U.c ≤ 9223372036854775807 := by
  obtain ⟨a, len, cap, l, rfl, hr, h1, h2, h3, h4⟩ := rows_of (f := ncl) (k := 4) (by_ := 48) (R := fun x => SIn W x.v ∧ (Lit.int .i64 x.node).wf = true) (by omega) ncl_len Tryz.underlying22 (by kernel_rfl) (by kernel_rfl) (by omega)
    (fun cs y fl hl ht hwy => nv_of Tryz.underlying53 rfl (by kernel_rfl) rfl (by kernel_rfl) Tryz.underlying3 rfl
      (fun cs y fl hl hwy ht => state_of Tryz.underlying51 (by kernel_rfl) Tryz.underlying3 Tryz.underlying3 rfl Tryz.underlying49 Tryz.underlying48 (by kernel_rfl) (by kernel_rfl) Tryz.underlying3 Tryz.underlying3 Tryz.underlying9 (by kernel_rfl) hl hwy ht) hl hwy ht)
    hw h
  exact ⟨⟨l, a, len, cap⟩, rfl, ⟨⟨hr, fun x hx => (h4 x hx).1.1⟩, h1, h3, fun x hx => ⟨⟨(h4 x hx).1.2.1, (h4 x hx).1.2.2.1⟩, (h4 x hx).2⟩⟩, h2⟩
set_option maxRecDepth 100000 in
theorem introw_ofO {H : Type} {enc : TypeId × Value → H} {W : World} {base fuel : Nat} {spare : Nat → Bool} {held : Bool} {v : Value} {x : DataW H × List MemPlace} (hsp : ∀ b, spare b = true)
    (hf : DataW.trod enc Tryz.prog W base spare held fuel 23 [v] = some x) : ∃ a len cap zs, v = .slice a len cap ∧ Row .i64 W a len cap zs := by
  rcases open_ints Tryz.underlying23 Tryz.underlying3 (by kernel_rfl) hf with ⟨hcs, _⟩ | ⟨x, l, c, zs, hcs, _, hl, hm, hz, _, hcell, hwz⟩
  · obtain rfl : v = .slice none 0 0 := by simpa using hcs
    exact ⟨none, 0, 0, [], rfl, .inl ⟨rfl, rfl, rfl, rfl⟩⟩
  · obtain rfl : v = .slice (some x) l c := by simpa using hcs
    refine ⟨some x, l, c, zs, rfl, .inr ⟨x, rfl, hl, hm, ?_, hcell, hwz⟩⟩
    rw [hz, hsp]; rfl
/-- a scene that came in -/
structure SnIn (W : World) (s : Sn) : Prop where
  view : VIn W s.v
  al : Rd W W.heap.size 1 s.B s.m (I s.al)
  cap1 : s.v.n ≤ s.v.c ∧ s.v.c ≤ 9223372036854775807
  cap2 : s.m ≤ s.d ∧ s.d ≤ 9223372036854775807
  dom : s.dom.length ≤ 140737488351232
set_option maxRecDepth 100000 in
theorem opens_Scene {H : Type} {enc : TypeId × Value → H} {W : World} {base b0 : Nat} {held : Bool} {r : Reach} {v : Value} {d : DataW H} {p : List MemPlace} (hv : Value.okWide Tryz.prog W r b0 25 v)
    (h : DataW.Trod enc Tryz.prog W base (fun _ => true) held 25 v d p) (hw : ∀ n ∈ d.weights Tryz.prog 25, n ≤ 140737488351232) : ∃ s : Sn, v = snval s ∧ SnIn W s := by
  obtain ⟨v0, v1, v2, y0, y1, y2, n, rfl, rfl, _, h0, h1, h2⟩ := open_agg3 Tryz.underlying25 (by kernel_rfl) (by kernel_rfl) hv h
  rw [weights_struct Tryz.underlying25] at hw
  obtain ⟨U, rfl, hU, hc⟩ := nameds_of (fun k hk => hw k (DataW.weights_mem_each (j := 0) (t := 22) (d := y0.1) rfl rfl k hk)) h0
  obtain ⟨a, len, cap, zs, rfl, hrow⟩ := introw_ofO (fun _ => rfl) h1
  obtain ⟨s, e2, d2, _⟩ := DataW.trod_string Tryz.underlying9 h2
  obtain rfl : v2 = .string s := by simpa using e2
  obtain ⟨l, hl, hr⟩ := hrow.ints
  have k2 := hw s.data.toList.length (DataW.weights_mem_each (j := 2) (t := 9) (d := y2.1) rfl rfl _ (by rw [d2]; simp [DataW.weights]))
  exact ⟨⟨U, l, a, len, cap, s.data.toList⟩, by rw [snval, show strB s.data.toList = s from rfl]; rfl, hU, hr, ⟨hU.2.1, hc⟩, hrow.cap_, k2⟩
end Go.Proofs.YtmbfldcmiabccaaGreatDoor

