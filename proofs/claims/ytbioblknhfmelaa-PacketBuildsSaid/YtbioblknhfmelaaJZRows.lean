/- ZRows (merged). -/
import Derived.Test.YtbioblknhfmelaaChecked
import Derived.Test.YtbioblknhfmelaaJZOpen
namespace Go.Proofs.Ytbioblknhfmelaa
set_option linter.unusedVariables false
set_option linter.unusedSimpArgs false
set_option maxRecDepth 20000
open Go.RowKit Go.ChangeShapes Go.WideShapes Go.Joins Go.Deep
theorem qsts_of {H : Type} {enc : TypeId × Value → H} {W : World} {base fuel : Nat} {spare : Nat → Bool} {held : Bool} {v : Value} {x : DataW H × List MemPlace} (hw : ∀ n ∈ x.1.weights Try.prog 22, n ≤ 140737488351232)
    (h : DataW.trod enc Try.prog W base spare held fuel 22 [v] = some x) : ∃ a len cap l, v = .slice a len cap ∧ Rd W W.heap.size 3 a len (QC l) ∧ len ≤ cap ∧ cap ≤ 9223372036854775807 ∧ len * 32 ≤ 140737488351232 ∧ ∀ q ∈ l, QIn q :=
  rows_of (f := qc) (k := 3) (by_ := 32) (R := QIn) (by omega) qc_len Try.underlying22 (by kernel_rfl) (by kernel_rfl) (by omega)
    (fun cs y fl hl ht hwy => qst_of Try.underlying48 (by kernel_rfl) Try.underlying9 Try.underlying3 Try.underlying3 hl ht hwy) hw h
theorem rrcs_of {H : Type} {enc : TypeId × Value → H} {W : World} {base fuel : Nat} {spare : Nat → Bool} {held : Bool} {v : Value} {x : DataW H × List MemPlace} (hw : ∀ n ∈ x.1.weights Try.prog 23, n ≤ 140737488351232)
    (h : DataW.trod enc Try.prog W base spare held fuel 23 [v] = some x) : ∃ a len cap l, v = .slice a len cap ∧ Rd W W.heap.size 5 a len (RC l) ∧ len ≤ cap ∧ cap ≤ 9223372036854775807 ∧ len * 56 ≤ 140737488351232 ∧ ∀ r ∈ l, RIn r :=
  rows_of (f := rc) (k := 5) (by_ := 56) (R := RIn) (by omega) rc_len Try.underlying23 (by kernel_rfl) (by kernel_rfl) (by omega)
    (fun cs y fl hl ht hwy => rrc_of Try.underlying50 (by kernel_rfl) Try.underlying9 Try.underlying3 Try.underlying3 Try.underlying3 Try.underlying9 hl ht hwy) hw h
/-- a packet that came in -/
def PkIn (W : World) (u : Pv) : Prop := PRd W u ∧ PSz u ∧ I64 u.x.id ∧ I64 u.x.flags ∧ (∀ q ∈ u.x.qs, QIn q) ∧ ∀ r ∈ Pk.all u.x, RIn r
theorem opens_Packet {H : Type} {enc : TypeId × Value → H} {W : World} {base b0 : Nat} {held : Bool} {r : Reach} {v : Value} {d : DataW H} {p : List MemPlace} (hv : Value.okWide Try.prog W r b0 25 v)
    (h : DataW.Trod enc Try.prog W base (fun _ => true) held 25 v d p) (hw : ∀ n ∈ d.weights Try.prog 25, n ≤ 140737488351232) : ∃ u : Pv, v = pval u ∧ PkIn W u := by
  obtain ⟨v0, v1, v2, v3, v4, v5, y0, y1, y2, y3, y4, y5, n, rfl, rfl, h0, h1, h2, h3, h4, h5⟩ := open_agg6 Try.underlying25 (by kernel_rfl) (by kernel_rfl) hv h
  rw [weights_struct Try.underlying25] at hw
  obtain ⟨a, e0, _, ha⟩ := DataW.trod_int Try.underlying3 h0
  obtain ⟨b, e1, _, hb⟩ := DataW.trod_int Try.underlying3 h1
  obtain rfl : v0 = .int .i64 a := by simpa using e0
  obtain rfl : v1 = .int .i64 b := by simpa using e1
  obtain ⟨A1, n1, c1, l1, rfl, r1, s1, s2, s3, s4⟩ := qsts_of (fun k hk => hw k (DataW.weights_mem_each (j := 2) (t := 22) (d := y2.1) rfl rfl k hk)) h2
  obtain ⟨A2, n2, c2, l2, rfl, r2, t1, t2, t3, t4⟩ := rrcs_of (fun k hk => hw k (DataW.weights_mem_each (j := 3) (t := 23) (d := y3.1) rfl rfl k hk)) h3
  obtain ⟨A3, n3, c3, l3, rfl, r3, p1, p2, p3, p4⟩ := rrcs_of (fun k hk => hw k (DataW.weights_mem_each (j := 4) (t := 23) (d := y4.1) rfl rfl k hk)) h4
  obtain ⟨A4, n4, c4, l4, rfl, r4, q1, q2, q3, q4⟩ := rrcs_of (fun k hk => hw k (DataW.weights_mem_each (j := 5) (t := 23) (d := y5.1) rfl rfl k hk)) h5
  have hall : ∀ x ∈ Pk.all ⟨a, b, l1, l2, l3, l4⟩, RIn x := fun x hx => by
    have hx : x ∈ l2 ++ (l3 ++ l4) := hx
    rcases List.mem_append.1 hx with hx | hx
    · exact t4 x hx
    · rcases List.mem_append.1 hx with hx | hx
      · exact p4 x hx
      · exact q4 x hx
  exact ⟨⟨⟨a, b, l1, l2, l3, l4⟩, A1, n1, c1, A2, n2, c2, A3, n3, c3, A4, n4, c4⟩, rfl, ⟨r1, r2, r3, r4⟩, ⟨s3, t3, p3, q3, s1, s2, t1, t2, p1, p2, q1, q2, fun x hx => (s4 x hx).1, fun x hx => ⟨(hall x hx).1, (hall x hx).2.1⟩⟩, wf_bounds_i64 ha, wf_bounds_i64 hb, s4, hall⟩
end Go.Proofs.Ytbioblknhfmelaa

