/- OpenA (merged). -/
import Derived.OpenShut
import Derived.WideShapes
import Derived.ChangeArms
import Derived.DataReads
namespace Go.Proofs.Ytbioblknhfmelaa
open Go.ChangeShapes Go.WideShapes

theorem okWide_array {P : Program} {w : World} {r : Reach} {base n : Nat} {t e : TypeId} {v : Value} (ht : P.underlying t = some (.array n e)) (h : Value.okWide P w r base t v) : ∃ cs, v = .agg cs ∧ cs.size = P.cellsOf t := by
  simp only [Value.okWide, ht] at h
  obtain ⟨cs, h1, h2, _⟩ := h
  exact ⟨cs, h1, h2⟩
/-- an array of n integers of one kind -/
def IntsIn (k : IntKind) (n : Nat) (zs : List Int) : Prop := zs.length = n ∧ ∀ z ∈ zs, (Lit.int k z).wf = true
theorem array_ints {H : Type} {enc : TypeId × Value → H} {P : Program} {W : World} {base b0 n : Nat} {held : Bool} {r : Reach} {t e : TypeId} {k : IntKind} {v : Value} {d : DataW H} {p : List MemPlace} (ht : P.underlying t = some (.array n e)) (he : P.underlying e = some (.int k)) (hc : P.cellsOf e = 1) (hct : P.cellsOf t = n)
    (hv : Value.okWide P W r b0 t v) (h : DataW.Trod enc P W base (fun _ => true) held t v d p) : ∃ zs : List Int, v = .agg (zs.map fun z => Value.int k z).toArray ∧ IntsIn k n zs := by
  obtain ⟨cs, rfl, hsz⟩ := okWide_array ht hv
  obtain ⟨fuel, hf⟩ := h
  obtain ⟨xs, m, _, _, hl, hxs, hall⟩ := DataW.trod_array ht hf
  have hlen : cs.toList.length = n := by simpa [Value.cells, hct] using hl
  have each : ∀ i, i < n → ∃ z : Int, cs.toList[i]? = some (.int k z) ∧ (Lit.int k z).wf = true := by
    intro i hi
    have h1 := hall i hi
    rw [hc, Nat.mul_one] at h1
    have hx : xs[i]? = some (xs[i]'(by omega)) := List.getElem?_eq_getElem _
    rw [hx] at h1
    obtain ⟨z, e1, _, hw⟩ := DataW.trod_int he h1
    refine ⟨z, ?_, hw⟩
    have h2 : ((Value.agg cs).cells.toList.drop i).take 1 = [cs.toList[i]'(by omega)] := by
      show (cs.toList.drop i).take 1 = _
      rw [List.drop_eq_getElem_cons (by omega)]; rfl
    rw [h2] at e1
    rw [List.getElem?_eq_getElem (by omega)]
    simpa using e1
  clear hall hf
  have all : ∀ j, j ≤ n → ∃ zs : List Int, zs.length = j ∧ (∀ z ∈ zs, (Lit.int k z).wf = true) ∧ cs.toList.take j = zs.map fun z => Value.int k z := by
    intro j
    induction j with
    | zero => exact fun _ => ⟨[], rfl, by simp, by simp⟩
    | succ j ih =>
      intro hj
      obtain ⟨zs, h1, h2, h3⟩ := ih (by omega)
      obtain ⟨z, h4, h5⟩ := each j (by omega)
      refine ⟨zs ++ [z], by simp [h1], ?_, ?_⟩
      · intro y hy
        rcases List.mem_append.1 hy with hy | hy
        · exact h2 y hy
        · obtain rfl : y = z := by simpa using hy
          exact h5
      · rw [List.take_add_one, h4, h3]; simp
  obtain ⟨zs, h1, h2, h3⟩ := all n (Nat.le_refl _)
  refine ⟨zs, ?_, h1, h2⟩
  rw [List.take_of_length_le (by omega)] at h3
  rw [← h3]
end Go.Proofs.Ytbioblknhfmelaa

