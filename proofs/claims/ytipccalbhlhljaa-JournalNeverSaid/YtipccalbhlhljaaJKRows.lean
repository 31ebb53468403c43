/- KRows (merged). -/
import Derived.Test.YtipccalbhlhljaaChecked
import Derived.Test.YtipccalbhlhljaaJKMem
namespace Go.Proofs.Ytipccalbhlhljaa
set_option linter.unusedVariables false
set_option linter.unusedSimpArgs false
open Go.RowKit Go.ChangeShapes Go.WideShapes Go.Joins
theorem opens_Disk {H : Type} {enc : TypeId × Value → H} {W : World} {base b0 : Nat} {held : Bool} {r : Reach} {v : Value} {d : DataW H} {p : List MemPlace} (hv : Value.okWide Try.prog W r b0 34 v)
    (h : DataW.Trod enc Try.prog W base (fun _ => true) held 34 v d p) (hw : ∀ n ∈ d.weights Try.prog 34, n ≤ 140737488351232) : ∃ u, v = kval u ∧ KIn W u := by
  obtain ⟨v0, v1, v2, y0, y1, y2, n, rfl, rfl, _, h0, h1, h2⟩ := open_agg3 Try.underlying34 (by kernel_rfl) (by kernel_rfl) hv h
  rw [weights_struct Try.underlying34] at hw
  obtain ⟨k, e1, _, hk⟩ := DataW.trod_int Try.underlying3 h1
  obtain ⟨b, e2, _⟩ := DataW.trod_bool Try.underlying4 h2
  obtain rfl : v1 = .int .i64 k := by simpa using e1
  obtain rfl : v2 = .bool b := by simpa using e2
  obtain ⟨a, len, cap, l, rfl, hr, h3, h4, h5⟩ := rows_free (f := secU) (k := 64) (by omega) secU_len Try.underlying32 (by kernel_rfl)
    (fun cs y fl hl ht => by obtain ⟨s, h6, h7⟩ := bytes_cells Try.underlying24 Try.underlying5 (by kernel_rfl) hl ht; exact ⟨⟨s, h6⟩, h7⟩) h0
  have hz := rows_size Try.underlying32 (by kernel_rfl : Try.prog.bytesOf 24 = 64) (fun k hk => hw k (DataW.weights_mem_each (j := 0) (t := 32) (d := y0.1) rfl rfl k hk)) h0
  rw [FC_secU] at hr
  refine ⟨⟨⟨l.map fun s => s.1, k, b⟩, a, len, cap⟩, rfl, ⟨hr, ?_, h3, h4⟩, (wf_bounds_i64 hk).1, (wf_bounds_i64 hk).2, hz⟩
  intro s hs
  obtain ⟨t, _, rfl⟩ := List.mem_map.1 hs
  exact t.2
theorem opens_Sector {H : Type} {enc : TypeId × Value → H} {W : World} {base b0 : Nat} {held : Bool} {r : Reach} {v : Value} {d : DataW H} {p : List MemPlace} (hv : Value.okWide Try.prog W r b0 24 v)
    (h : DataW.Trod enc Try.prog W base (fun _ => true) held 24 v d p) : ∃ s, v = .agg (U s).toArray ∧ s.length = 64 := by
  obtain ⟨cs, rfl, hsz⟩ := okWide_array Try.underlying24 hv
  obtain ⟨fuel, hf⟩ := h
  have hC : Try.prog.cellsOf 24 = 64 := by kernel_rfl
  obtain ⟨s, h1, h2⟩ := bytes_cells Try.underlying24 Try.underlying5 (by kernel_rfl) (cs := cs.toList) (by simpa [hC] using hsz) hf
  exact ⟨s, by rw [← h2], h1⟩
end Go.Proofs.Ytipccalbhlhljaa

