/- States, endpoints' states, views as they come in (no program). -/
import Derived.Test.YtoemefoppkgfaaaVMem
namespace Go.Proofs.Ytoemefoppkgfaaa
set_option linter.unusedVariables false
open Go.RowKit Go.ChangeShapes Go.WideShapes Go.Joins Go.Deep

section
variable {H : Type} {enc : TypeId × Value → H} {P : Program} {W : World} {base fuel : Nat} {spare : Nat → Bool} {held : Bool}
theorem state_of {t ts te : TypeId} {f0 f1 f2 g0 g1 g2 : Field} {cs : List Value} {x : DataW H × List MemPlace} (hs : P.underlying t = some (.struct #[f0, f1, f2])) (hone : oneCellFields P #[f0, f1, f2] = true)
    (h0 : P.underlying f0.type = some (.int .i64)) (h1 : P.underlying f1.type = some (.int .i64)) (ht2 : f2.type = ts)
    (ht : P.underlying ts = some (.slice te)) (hse : P.underlying te = some (.struct #[g0, g1, g2])) (honee : oneCellFields P #[g0, g1, g2] = true) (hCe : P.cellsOf te = 3)
    (k0 : P.underlying g0.type = some (.int .i64)) (k1 : P.underlying g1.type = some (.int .i64)) (k2 : P.underlying g2.type = some .string) (hbe : P.bytesOf te = 32)
    (hl : cs.length = 3) (hw : ∀ n ∈ x.1.weights P t, n ≤ 140737488351232) (h : DataW.trod enc P W base spare held fuel t cs = some x) : ∃ v : Sv, cs = scl v ∧ SIn W v := by
  obtain ⟨y0, y1, y2, n, hx, _, q0, q1, q2⟩ := trod_struct3 hs h
  obtain ⟨o0, c0⟩ := hone_of hone 0 f0 rfl
  obtain ⟨o1, c1⟩ := hone_of hone 1 f1 rfl
  obtain ⟨o2, c2⟩ := hone_of hone 2 f2 rfl
  match cs, hl with
  | [u0, u1, u2], _ =>
    rw [o0, c0] at q0
    rw [o1, c1] at q1
    rw [o2, c2, ht2] at q2
    obtain ⟨g, e0, _, w0⟩ := DataW.trod_int h0 q0
    obtain ⟨b, e1, _, w1⟩ := DataW.trod_int h1 q1
    obtain rfl : u0 = .int .i64 g := by simpa using e0
    obtain rfl : u1 = .int .i64 b := by simpa using e1
    rw [hx] at hw
    have hw2 : ∀ n ∈ (DataW.agg [y0.1, y1.1, y2.1]).weights P t, n ≤ 140737488351232 := hw
    rw [weights_struct hs] at hw2
    have q2' : DataW.trod enc P W base spare held n ts [u2] = some y2 := q2
    obtain ⟨a, len, cap, l, rfl, hti⟩ := table_of ht hse honee hCe k0 k1 k2 hbe (fun m hm => hw2 m (DataW.weights_mem_each (j := 2) (t := ts) (d := y2.1) (by simp [ht2]) rfl m hm)) q2'
    exact ⟨⟨⟨g, b, l⟩, a, len, cap⟩, rfl, hti.1, hti.2.2.2.1, fun x hx => (hti.2.2.2.2 x hx).1, w0, w1⟩
theorem nv_of {t tn : TypeId} {f0 f1 : Field} {cs : List Value} {x : DataW H × List MemPlace} (hs : P.underlying t = some (.struct #[f0, f1])) (o0 : f0.offset = 0) (c0 : P.cellsOf f0.type = 1) (o1 : f1.offset = 1) (c1 : P.cellsOf f1.type = 3)
    (h0 : P.underlying f0.type = some (.int .i64)) (ht1 : f1.type = tn)
    (hst : ∀ (cs : List Value) (y : DataW H × List MemPlace) (fl : Nat), cs.length = 3 → (∀ n ∈ y.1.weights P tn, n ≤ 140737488351232) → DataW.trod enc P W base spare held fl tn cs = some y → ∃ v : Sv, cs = scl v ∧ SIn W v)
    (hl : cs.length = 4) (hw : ∀ n ∈ x.1.weights P t, n ≤ 140737488351232) (h : DataW.trod enc P W base spare held fuel t cs = some x) : ∃ v : Nv, cs = ncl v ∧ SIn W v.v ∧ (Lit.int .i64 v.node).wf = true := by
  obtain ⟨y0, y1, n, hx, _, q0, q1⟩ := trod_struct2 hs h
  match cs, hl with
  | [u0, u1, u2, u3], _ =>
    rw [o0, c0] at q0
    rw [o1, c1, ht1] at q1
    obtain ⟨g, e0, _, w0⟩ := DataW.trod_int h0 q0
    obtain rfl : u0 = .int .i64 g := by simpa using e0
    rw [hx] at hw
    have hw2 : ∀ n ∈ (DataW.agg [y0.1, y1.1]).weights P t, n ≤ 140737488351232 := hw
    rw [weights_struct hs] at hw2
    obtain ⟨v, hv, hvi⟩ := hst [u1, u2, u3] y1 n rfl (fun m hm => hw2 m (DataW.weights_mem_each (j := 1) (t := tn) (d := y1.1) (by simp [ht1]) rfl m hm)) q1
    refine ⟨⟨g, v⟩, ?_, hvi, w0⟩
    unfold ncl
    unfold scl at hv
    simp only [List.cons.injEq, and_true] at hv
    obtain ⟨rfl, rfl, rfl⟩ := hv
    rfl
end
end Go.Proofs.Ytoemefoppkgfaaa
