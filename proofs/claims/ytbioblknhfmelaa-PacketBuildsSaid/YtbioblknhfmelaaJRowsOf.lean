/- RowsOf (merged). -/
import Derived.Test.YtbioblknhfmelaaJGen
import Derived.Test.YtbioblknhfmelaaJEMem
namespace Go.Proofs.Ytbioblknhfmelaa
set_option linter.unusedVariables false
open Go.RowKit Go.ChangeShapes Go.WideShapes Go.Joins Go.Deep

theorem rows_of {H : Type} {enc : TypeId × Value → H} {P : Program} {W : World} {base fuel : Nat} {spare : Nat → Bool} {held : Bool} {α : Type} {f : α → List Value} {k by_ : Nat} {R : α → Prop} {t e : TypeId} {v : Value} {x : DataW H × List MemPlace}
    (hk : 0 < k) (hf : ∀ x, (f x).length = k) (ht : P.underlying t = some (.slice e)) (hC : P.cellsOf e = k) (hB : P.bytesOf e = by_) (hb0 : 1 ≤ by_)
    (hel : ∀ (cs : List Value) (y : DataW H × List MemPlace) (fl : Nat), cs.length = k → DataW.trod enc P W base spare held fl e cs = some y → (∀ n ∈ y.1.weights P e, n ≤ 140737488351232) → ∃ a : α, cs = f a ∧ R a)
    (hw : ∀ n ∈ x.1.weights P t, n ≤ 140737488351232) (h : DataW.trod enc P W base spare held fuel t [v] = some x) :
    ∃ a len cap l, v = .slice a len cap ∧ Rd W W.heap.size k a len (FC f l) ∧ len ≤ cap ∧ cap ≤ 9223372036854775807 ∧ len * by_ ≤ 140737488351232 ∧ ∀ y ∈ l, R y := by
  rcases open_slice ht h with ⟨hcs, _⟩ | ⟨a, len, cap, m, n, D, Pl, hcs, hb, hl, hm, hmm, hx0, hi⟩
  · obtain rfl : v = .slice none 0 0 := by simpa using hcs
    exact ⟨none, 0, 0, [], rfl, Rd.zero _ _ _ _, Nat.le_refl _, by omega, by omega, by simp⟩
  · obtain rfl : v = .slice (some a) len cap := by simpa using hcs
    have hlm : len ≤ m := by rw [hmm]; split <;> omega
    rw [hC] at hi
    rw [hx0] at hw
    have hw : ∀ n ∈ (DataW.slice ((List.range len).map D) ((List.range (m - len)).map fun j => D (len + j))).weights P t, n ≤ 140737488351232 := hw
    rw [weights_slice ht, hB] at hw
    have hlen := hw _ (List.mem_cons_self ..)
    simp only [List.length_map, List.length_range] at hlen
    have hlen2 : len * by_ ≤ 140737488351232 := by
      have h1 : len ≤ len + (m - len) := Nat.le_add_right _ _
      exact Nat.le_trans (Nat.mul_le_mul_right _ h1) hlen
    have each : ∀ i, i < len → ∃ u : α, (∀ j, j < k → W.cell? ((a.add (i * k)).add j) = (f u)[j]?) ∧ R u := by
      intro i hi2
      obtain ⟨cs, hcs, htr⟩ := hi i (by omega)
      obtain ⟨_, hcl, hat⟩ := World.cells?_some hcs
      obtain ⟨u, rfl, g1⟩ := hel _ _ _ hcl htr (fun n hn => hw _ (List.mem_cons_of_mem _ (List.mem_append_left _ (weights_all (d := D i) (List.mem_map.2 ⟨i, by simpa using hi2, rfl⟩) _ hn))))
      exact ⟨u, hat, g1⟩
    clear hi
    have all : ∀ q, q ≤ len → ∃ l : List α, l.length = q ∧ (∀ y ∈ l, R y) ∧
        ∀ i u, l[i]? = some u → ∀ j, j < k → W.cell? ((a.add (i * k)).add j) = (f u)[j]? := by
      intro q
      induction q with
      | zero => exact fun _ => ⟨[], rfl, by simp, by simp⟩
      | succ q ih =>
        intro hq
        obtain ⟨l, h3, h4, h5⟩ := ih (by omega)
        obtain ⟨u, h6, h7⟩ := each q (by omega)
        refine ⟨l ++ [u], by simp [h3], ?_, ?_⟩
        · intro y hy
          rcases List.mem_append.1 hy with hy | hy
          · exact h4 y hy
          · obtain rfl : y = u := by simpa using hy
            exact h7
        · intro i u' hiu
          by_cases hik : i < q
          · rw [List.getElem?_append_left (by omega)] at hiu
            exact h5 i u' hiu
          · rw [List.getElem?_append_right (by omega), h3] at hiu
            have hi0 : i = q := by
              have := (List.getElem?_eq_some_iff.1 hiu).1
              simp at this
              omega
            subst hi0
            obtain rfl : u = u' := by simpa using hiu
            exact h6
    obtain ⟨l, h3, h4, h5⟩ := all len (Nat.le_refl _)
    unfold maxLen at hm
    refine ⟨some a, len, cap, l, rfl, ⟨by rw [FC_length hf, h3], fun hn => ?_⟩, hl, hm, hlen2, h4⟩
    obtain ⟨b, o, spot⟩ := a
    have e0 : l[0]? = some (l[0]'(by omega)) := List.getElem?_eq_getElem _
    have c0 := h5 0 _ e0 0 hk
    have hv0 : (f (l[0]'(by omega)))[0]? = some ((f (l[0]'(by omega)))[0]'(by rw [hf]; exact hk)) := List.getElem?_eq_getElem _
    rw [hv0] at c0
    have hspot : spot = none := by
      have : W.cell? (((⟨b, o, spot⟩ : Addr).add (0 * k)).add 0) = some ((f (l[0]'(by omega)))[0]'(by rw [hf]; exact hk)) := c0
      simpa [Addr.add] using World.cell?_spot this
    subst hspot
    have hadd : ∀ j, (⟨b, o, none⟩ : Addr).add j = ⟨b, o + j, none⟩ := fun j => by unfold Addr.add; split <;> simp_all
    have hadd2 : ∀ o' j, (⟨b, o', none⟩ : Addr).add j = ⟨b, o' + j, none⟩ := fun o' j => by unfold Addr.add; split <;> simp_all
    refine ⟨b, o, rfl, ?_, fun j hj => ?_⟩
    · rw [hadd, hadd2] at c0
      exact lt_of_cell c0
    · rw [FC_length hf, h3] at hj
      have hq : j / k < l.length := by rw [h3]; exact (Nat.div_lt_iff_lt_mul hk).2 hj
      have hx : l[j / k]? = some (l[j / k]'hq) := List.getElem?_eq_getElem hq
      have hdm : j / k * k + j % k = j := by rw [Nat.mul_comm]; exact Nat.div_add_mod j k
      have := h5 (j / k) _ hx (j % k) (Nat.mod_lt _ hk)
      rw [hadd, hadd2, ← FC_at hf hx (j % k) (Nat.mod_lt _ hk), Nat.add_assoc, hdm] at this
      exact this
end Go.Proofs.Ytbioblknhfmelaa

