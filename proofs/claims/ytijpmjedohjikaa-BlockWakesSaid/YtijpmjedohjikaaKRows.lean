/- Disks, sectors and pairs of numbers that came in. -/
import Derived.Test.YtijpmjedohjikaaChecked
import Derived.Test.YtijpmjedohjikaaKOpen
namespace Go.Proofs.Ytijpmjedohjikaa
set_option linter.unusedVariables false
set_option linter.unusedSimpArgs false
open Go.RowKit Go.ChangeShapes Go.WideShapes Go.Joins
theorem opens_Disk {H : Type} {enc : TypeId × Value → H} {W : World} {base b0 : Nat} {held : Bool} {r : Reach} {v : Value} {d : DataW H} {p : List MemPlace} (hv : Value.okWide Try.prog W r b0 24 v)
    (h : DataW.Trod enc Try.prog W base (fun _ => true) held 24 v d p) (hw : ∀ n ∈ d.weights Try.prog 24, n ≤ 140737488351232) : ∃ u, v = kval u ∧ KIn W u := by
  obtain ⟨v0, v1, v2, y0, y1, y2, n, rfl, rfl, _, h0, h1, h2⟩ := open_agg3 Try.underlying24 (by kernel_rfl) (by kernel_rfl) hv h
  rw [weights_struct Try.underlying24] at hw
  obtain ⟨k, e1, _, hk⟩ := DataW.trod_int Try.underlying3 h1
  obtain ⟨b, e2, _⟩ := DataW.trod_bool Try.underlying4 h2
  obtain rfl : v1 = .int .i64 k := by simpa using e1
  obtain rfl : v2 = .bool b := by simpa using e2
  obtain ⟨a, len, cap, l, rfl, hr, h3, h4, h5⟩ := rows_free (f := secU) (k := 64) (by omega) secU_len Try.underlying22 (by kernel_rfl)
    (fun cs y fl hl ht => by obtain ⟨s, h6, h7⟩ := bytes_cells Try.underlying26 Try.underlying5 (by kernel_rfl) hl ht; exact ⟨⟨s, h6⟩, h7⟩) h0
  have hz := rows_size Try.underlying22 (by kernel_rfl : Try.prog.bytesOf 26 = 64) (fun k hk => hw k (DataW.weights_mem_each (j := 0) (t := 22) (d := y0.1) rfl rfl k hk)) h0
  rw [FC_secU] at hr
  refine ⟨⟨⟨l.map fun s => s.1, k, b⟩, a, len, cap⟩, rfl, ⟨hr, ?_, h3, h4⟩, (wf_bounds_i64 hk).1, (wf_bounds_i64 hk).2, hz⟩
  intro s hs
  obtain ⟨t, _, rfl⟩ := List.mem_map.1 hs
  exact t.2
theorem opens_Sector {H : Type} {enc : TypeId × Value → H} {W : World} {base b0 : Nat} {held : Bool} {r : Reach} {v : Value} {d : DataW H} {p : List MemPlace} (hv : Value.okWide Try.prog W r b0 26 v)
    (h : DataW.Trod enc Try.prog W base (fun _ => true) held 26 v d p) : ∃ s, v = .agg (U s).toArray ∧ s.length = 64 := by
  obtain ⟨cs, rfl, hsz⟩ := okWide_array Try.underlying26 hv
  obtain ⟨fuel, hf⟩ := h
  have hC : Try.prog.cellsOf 26 = 64 := by kernel_rfl
  obtain ⟨s, h1, h2⟩ := bytes_cells Try.underlying26 Try.underlying5 (by kernel_rfl) (cs := cs.toList) (by simpa [hC] using hsz) hf
  exact ⟨s, by rw [← h2], h1⟩
def I64b (p : Int) : Prop := -9223372036854775808 ≤ p ∧ p ≤ 9223372036854775807
def PairI (p q : Int) : Prop := I64b p ∧ I64b q
theorem opens_PairI {H : Type} {enc : TypeId × Value → H} {W : World} {base b0 : Nat} {held : Bool} {r : Reach} {v : Value} {d : DataW H} {p : List MemPlace} (hv : Value.okWide Try.prog W r b0 25 v)
    (h : DataW.Trod enc Try.prog W base (fun _ => true) held 25 v d p) : ∃ p q, v = .agg #[.int .i64 p, .int .i64 q] ∧ PairI p q := by
  obtain ⟨zs, rfl, hl, hw⟩ := array_ints Try.underlying25 Try.underlying3 (by kernel_rfl) (by kernel_rfl) hv h
  match zs, hl, hw with
  | [a, b], _, hw => exact ⟨a, b, rfl, wf_bounds_i64 (hw a (by simp)), wf_bounds_i64 (hw b (by simp))⟩
end Go.Proofs.Ytijpmjedohjikaa
