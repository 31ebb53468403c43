/- ZOpen (merged). -/
import Derived.Test.YtbioblknhfmelaaJZMem
import Derived.Test.YtbioblknhfmelaaJRowsOf
import Derived.Test.YtbioblknhfmelaaJKOpenY
namespace Go.Proofs.Ytbioblknhfmelaa
set_option linter.unusedVariables false
set_option linter.unusedSimpArgs false
open Go.RowKit Go.ChangeShapes Go.WideShapes Go.Joins Go.Deep
theorem str_back (s : ByteArray) : strB s.data.toList = s := by unfold strB; rw [Array.toArray_toList]
def I64 (z : Int) : Prop := -9223372036854775808 ≤ z ∧ z ≤ 9223372036854775807
def QIn (q : Qst) : Prop := q.name.length ≤ 140737488351232 ∧ I64 q.typ ∧ I64 q.cls
def RIn (r : Rrc) : Prop := r.name.length ≤ 140737488351232 ∧ r.data.length ≤ 140737488351232 ∧ I64 r.typ ∧ I64 r.cls ∧ I64 r.ttl
theorem qst_of {H : Type} {enc : TypeId × Value → H} {P : Program} {W : World} {base fuel : Nat} {spare : Nat → Bool} {held : Bool} {t : TypeId} {f0 f1 f2 : Field} {cs : List Value} {x : DataW H × List MemPlace} (hs : P.underlying t = some (.struct #[f0, f1, f2])) (hone : oneCellFields P #[f0, f1, f2] = true)
    (h0 : P.underlying f0.type = some .string) (h1 : P.underlying f1.type = some (.int .i64)) (h2 : P.underlying f2.type = some (.int .i64)) (hl : cs.length = 3)
    (h : DataW.trod enc P W base spare held fuel t cs = some x) (hw : ∀ n ∈ x.1.weights P t, n ≤ 140737488351232) : ∃ q : Qst, cs = qc q ∧ QIn q := by
  obtain ⟨y0, y1, y2, n, hx, _, g0, g1, g2⟩ := trod_struct3 hs h
  obtain ⟨o0, k0⟩ := hone_of hone 0 f0 rfl
  obtain ⟨o1, k1⟩ := hone_of hone 1 f1 rfl
  obtain ⟨o2, k2⟩ := hone_of hone 2 f2 rfl
  match cs, hl with
  | [c0, c1, c2], _ =>
    rw [o0, k0] at g0
    rw [o1, k1] at g1
    rw [o2, k2] at g2
    obtain ⟨s, e0, d0, _⟩ := DataW.trod_string h0 g0
    obtain ⟨a, e1, _, w1⟩ := DataW.trod_int h1 g1
    obtain ⟨b, e2, _, w2⟩ := DataW.trod_int h2 g2
    obtain rfl : c0 = .string s := by simpa using e0
    obtain rfl : c1 = .int .i64 a := by simpa using e1
    obtain rfl : c2 = .int .i64 b := by simpa using e2
    rw [hx] at hw
    have hw : ∀ n ∈ (DataW.agg [y0.1, y1.1, y2.1]).weights P t, n ≤ 140737488351232 := hw
    rw [weights_struct hs] at hw
    have k0 := hw s.data.toList.length (DataW.weights_mem_each (j := 0) (t := f0.type) (d := y0.1) rfl rfl _ (by rw [d0]; simp [DataW.weights]))
    exact ⟨⟨s.data.toList, a, b⟩, by show _ = [Value.string (strB s.data.toList), _, _]; rw [str_back], k0, wf_bounds_i64 w1, wf_bounds_i64 w2⟩
theorem rrc_of {H : Type} {enc : TypeId × Value → H} {P : Program} {W : World} {base fuel : Nat} {spare : Nat → Bool} {held : Bool} {t : TypeId} {f0 f1 f2 f3 f4 : Field} {cs : List Value} {x : DataW H × List MemPlace} (hs : P.underlying t = some (.struct #[f0, f1, f2, f3, f4])) (hone : oneCellFields P #[f0, f1, f2, f3, f4] = true)
    (h0 : P.underlying f0.type = some .string) (h1 : P.underlying f1.type = some (.int .i64)) (h2 : P.underlying f2.type = some (.int .i64)) (h3 : P.underlying f3.type = some (.int .i64)) (h4 : P.underlying f4.type = some .string) (hl : cs.length = 5)
    (h : DataW.trod enc P W base spare held fuel t cs = some x) (hw : ∀ n ∈ x.1.weights P t, n ≤ 140737488351232) : ∃ r : Rrc, cs = rc r ∧ RIn r := by
  obtain ⟨xs, n, _, hx, _, hlen, hg⟩ := DataW.trod_struct hs h
  match xs, hlen with
  | [y0, y1, y2, y3, y4], _ =>
  obtain ⟨o0, k0⟩ := hone_of hone 0 f0 rfl
  obtain ⟨o1, k1⟩ := hone_of hone 1 f1 rfl
  obtain ⟨o2, k2⟩ := hone_of hone 2 f2 rfl
  obtain ⟨o3, k3⟩ := hone_of hone 3 f3 rfl
  obtain ⟨o4, k4⟩ := hone_of hone 4 f4 rfl
  have g0 := hg 0 f0 rfl
  have g1 := hg 1 f1 rfl
  have g2 := hg 2 f2 rfl
  have g3 := hg 3 f3 rfl
  have g4 := hg 4 f4 rfl
  match cs, hl with
  | [c0, c1, c2, c3, c4], _ =>
    rw [o0, k0] at g0
    rw [o1, k1] at g1
    rw [o2, k2] at g2
    rw [o3, k3] at g3
    rw [o4, k4] at g4
    obtain ⟨s, e0, d0, _⟩ := DataW.trod_string h0 g0
    obtain ⟨a, e1, _, w1⟩ := DataW.trod_int h1 g1
    obtain ⟨b, e2, _, w2⟩ := DataW.trod_int h2 g2
    obtain ⟨c, e3, _, w3⟩ := DataW.trod_int h3 g3
    obtain ⟨u, e4, d4, _⟩ := DataW.trod_string h4 g4
    obtain rfl : c0 = .string s := by simpa using e0
    obtain rfl : c1 = .int .i64 a := by simpa using e1
    obtain rfl : c2 = .int .i64 b := by simpa using e2
    obtain rfl : c3 = .int .i64 c := by simpa using e3
    obtain rfl : c4 = .string u := by simpa using e4
    rw [hx] at hw
    have hw : ∀ n ∈ (DataW.agg [y0.1, y1.1, y2.1, y3.1, y4.1]).weights P t, n ≤ 140737488351232 := hw
    rw [weights_struct hs] at hw
    have k0 := hw s.data.toList.length (DataW.weights_mem_each (j := 0) (t := f0.type) (d := y0.1) rfl rfl _ (by rw [d0]; simp [DataW.weights]))
    have k4 := hw u.data.toList.length (DataW.weights_mem_each (j := 4) (t := f4.type) (d := y4.1) rfl rfl _ (by rw [d4]; simp [DataW.weights]))
    exact ⟨⟨s.data.toList, a, b, c, u.data.toList⟩, by show _ = [Value.string (strB s.data.toList), _, _, _, Value.string (strB u.data.toList)]; rw [str_back, str_back], k0, k4, wf_bounds_i64 w1, wf_bounds_i64 w2, wf_bounds_i64 w3⟩
end Go.Proofs.Ytbioblknhfmelaa

