/- Arrays of bytes, and slices of them, that came in (no program). -/
import Derived.Test.YtillnjhmdgmgeaaDoorGen
import Derived.Test.YtillnjhmdgmgeaaDoorOpenA
import Derived.Test.YtillnjhmdgmgeaaDoorKMem
import Derived.ChangeSlices
import Derived.Lib.SmallJoins
import Derived.Deep.Strs
namespace Go.Proofs.YtillnjhmdgmgeaaDoor
set_option linter.unusedVariables false
set_option linter.unusedSimpArgs false
open Go.RowKit Go.ChangeShapes Go.WideShapes Go.Joins Go.Deep

theorem u8_of {z : Int} (h : (Lit.int .u8 z).wf = true) : ∃ x : UInt8, Value.int .u8 z = Value.int .u8 (x.toNat : Int) := by
  have hb := wf_bounds_u8 h
  refine ⟨UInt8.ofNat z.toNat, ?_⟩
  congr 1
  have h1 : (UInt8.ofNat z.toNat).toNat = z.toNat % 256 := by simp
  rw [h1]
  omega
/-- the cells of an array of bytes -/
theorem bytes_cells {H : Type} {enc : TypeId × Value → H} {P : Program} {W : World} {base fuel n : Nat} {spare : Nat → Bool} {held : Bool} {t e : TypeId} {cs : List Value} {y : DataW H × List MemPlace} (ht : P.underlying t = some (.array n e)) (he : P.underlying e = some (.int .u8)) (hc : P.cellsOf e = 1)
    (hl : cs.length = n) (hf : DataW.trod enc P W base spare held fuel t cs = some y) : ∃ s : List UInt8, s.length = n ∧ cs = U s := by
  obtain ⟨xs, m, _, _, _, hxs, hall⟩ := DataW.trod_array ht hf
  have each : ∀ i, i < n → ∃ z : UInt8, cs[i]? = some (.int .u8 (z.toNat : Int)) := by
    intro i hi
    have h1 := hall i hi
    rw [hc, Nat.mul_one] at h1
    have hx : xs[i]? = some (xs[i]'(by omega)) := List.getElem?_eq_getElem _
    rw [hx] at h1
    obtain ⟨z, e1, _, hw⟩ := DataW.trod_int he h1
    obtain ⟨x, hx⟩ := u8_of hw
    refine ⟨x, ?_⟩
    have h2 : (cs.drop i).take 1 = [cs[i]'(by omega)] := by
      rw [List.drop_eq_getElem_cons (by omega)]; rfl
    rw [h2] at e1
    rw [List.getElem?_eq_getElem (by omega), ← hx]
    simpa using e1
  clear hall hf
  have all : ∀ j, j ≤ n → ∃ s : List UInt8, s.length = j ∧ cs.take j = U s := by
    intro j
    induction j with
    | zero => exact fun _ => ⟨[], rfl, by simp [U]⟩
    | succ j ih =>
      intro hj
      obtain ⟨s, h1, h3⟩ := ih (by omega)
      obtain ⟨z, h4⟩ := each j (by omega)
      refine ⟨s ++ [z], by simp [h1], ?_⟩
      rw [List.take_add_one, h4, h3, U_append]; rfl
  obtain ⟨s, h1, h3⟩ := all n (Nat.le_refl _)
  refine ⟨s, h1, ?_⟩
  rwa [List.take_of_length_le (by omega)] at h3
/-- a slice that came in, of elements of several cells each, whatever the element -/
theorem rows_free {H : Type} {enc : TypeId × Value → H} {P : Program} {W : World} {base fuel : Nat} {spare : Nat → Bool} {held : Bool} {α : Type} {f : α → List Value} {k : Nat} {t e : TypeId} {v : Value} {x : DataW H × List MemPlace}
    (hk : 0 < k) (hf : ∀ x, (f x).length = k) (ht : P.underlying t = some (.slice e)) (hC : P.cellsOf e = k)
    (hel : ∀ (cs : List Value) (y : DataW H × List MemPlace) (fl : Nat), cs.length = k → DataW.trod enc P W base spare held fl e cs = some y → ∃ a : α, cs = f a)
    (h : DataW.trod enc P W base spare held fuel t [v] = some x) :
    ∃ a len cap l, v = .slice a len cap ∧ Rd W W.heap.size k a len (FC f l) ∧ len ≤ cap ∧ cap ≤ 9223372036854775807 ∧ l.length = len := by
  rcases open_slice ht h with ⟨hcs, _⟩ | ⟨a, len, cap, m, n, D, Pl, hcs, hb, hl, hm, hmm, hx0, hi⟩
  · obtain rfl : v = .slice none 0 0 := by simpa using hcs
    exact ⟨none, 0, 0, [], rfl, Rd.zero _ _ _ _, Nat.le_refl _, by omega, rfl⟩
  · obtain rfl : v = .slice (some a) len cap := by simpa using hcs
    have hlm : len ≤ m := by rw [hmm]; split <;> omega
    rw [hC] at hi
    have each : ∀ i, i < len → ∃ u : α, ∀ j, j < k → W.cell? ((a.add (i * k)).add j) = (f u)[j]? := by
      intro i hi2
      obtain ⟨cs, hcs, htr⟩ := hi i (by omega)
      obtain ⟨_, hcl, hat⟩ := World.cells?_some hcs
      obtain ⟨u, rfl⟩ := hel _ _ _ hcl htr
      exact ⟨u, hat⟩
    clear hi
    have all : ∀ q, q ≤ len → ∃ l : List α, l.length = q ∧ ∀ i u, l[i]? = some u → ∀ j, j < k → W.cell? ((a.add (i * k)).add j) = (f u)[j]? := by
      intro q
      induction q with
      | zero => exact fun _ => ⟨[], rfl, by simp⟩
      | succ q ih =>
        intro hq
        obtain ⟨l, h3, h5⟩ := ih (by omega)
        obtain ⟨u, h7⟩ := each q (by omega)
        refine ⟨l ++ [u], by simp [h3], ?_⟩
        intro i u' hiu
        by_cases hik : i < q
        · rw [List.getElem?_append_left (by omega)] at hiu
          exact h5 i u' hiu
        · rw [List.getElem?_append_right (by omega), h3] at hiu
          have hi0 : i = q := by
            have := (List.getElem?_eq_some_iff.1 hiu).1
            simp at this
            omega
          subst hi0
          obtain rfl : u = u' := by simpa using hiu
          exact h7
    obtain ⟨l, h3, h5⟩ := all len (Nat.le_refl _)
    unfold maxLen at hm
    refine ⟨some a, len, cap, l, rfl, ⟨by rw [FC_length hf, h3], fun hn => ?_⟩, hl, hm, h3⟩
    obtain ⟨b, o, spot⟩ := a
    have e0 : l[0]? = some (l[0]'(by omega)) := List.getElem?_eq_getElem _
    have c0 := h5 0 _ e0 0 hk
    have hv0 : (f (l[0]'(by omega)))[0]? = some ((f (l[0]'(by omega)))[0]'(by rw [hf]; exact hk)) := List.getElem?_eq_getElem _
    rw [hv0] at c0
    have hspot : spot = none := by
      have : W.cell? (((⟨b, o, spot⟩ : Addr).add (0 * k)).add 0) = some ((f (l[0]'(by omega)))[0]'(by rw [hf]; exact hk)) := c0
      simpa [Addr.add] using World.cell?_spot this
    subst hspot
    have hadd : ∀ j, (⟨b, o, none⟩ : Addr).add j = ⟨b, o + j, none⟩ := fun j => by unfold Addr.add; split <;> simp_all
    have hadd2 : ∀ o' j, (⟨b, o', none⟩ : Addr).add j = ⟨b, o' + j, none⟩ := fun o' j => by unfold Addr.add; split <;> simp_all
    refine ⟨b, o, rfl, ?_, fun j hj => ?_⟩
    · rw [hadd, hadd2] at c0
      exact lt_of_cell c0
    · rw [FC_length hf, h3] at hj
      have hq : j / k < l.length := by rw [h3]; exact (Nat.div_lt_iff_lt_mul hk).2 hj
      have hx : l[j / k]? = some (l[j / k]'hq) := List.getElem?_eq_getElem hq
      have hdm : j / k * k + j % k = j := by rw [Nat.mul_comm]; exact Nat.div_add_mod j k
      have := h5 (j / k) _ hx (j % k) (Nat.mod_lt _ hk)
      rw [hadd, hadd2, ← FC_at hf hx (j % k) (Nat.mod_lt _ hk), Nat.add_assoc, hdm] at this
      exact this
/-- what a slice that came in weighs -/
theorem rows_size {H : Type} {enc : TypeId × Value → H} {P : Program} {W : World} {base fuel : Nat} {spare : Nat → Bool} {held : Bool} {by_ : Nat} {t e : TypeId} {a : Option Addr} {len cap : Nat} {x : DataW H × List MemPlace}
    (ht : P.underlying t = some (.slice e)) (hB : P.bytesOf e = by_) (hw : ∀ n ∈ x.1.weights P t, n ≤ 140737488351232) (h : DataW.trod enc P W base spare held fuel t [.slice a len cap] = some x) : len * by_ ≤ 140737488351232 := by
  rcases open_slice ht h with ⟨hcs, _⟩ | ⟨a, len, cap, m, n, D, Pl, hcs, hb, hl, hm, hmm, hx0, hi⟩
  · obtain ⟨rfl, rfl, rfl⟩ : a = none ∧ len = 0 ∧ cap = 0 := by simpa using hcs
    omega
  · obtain ⟨rfl, rfl, rfl⟩ : _ ∧ _ ∧ _ := by simpa using hcs
    rw [hx0] at hw
    have hw : ∀ n ∈ (DataW.slice ((List.range _).map D) ((List.range (m - _)).map fun j => D (_ + j))).weights P t, n ≤ 140737488351232 := hw
    rw [weights_slice ht, hB] at hw
    have hlen := hw _ (List.mem_cons_self ..)
    simp only [List.length_map, List.length_range] at hlen
    exact Nat.le_trans (Nat.mul_le_mul_right _ (Nat.le_add_right _ _)) hlen
/-- a sector with its length -/
def Sec : Type := { s : List UInt8 // s.length = 64 }
def secU (s : Sec) : List Value := U s.1
theorem secU_len (s : Sec) : (secU s).length = 64 := by unfold secU; rw [U_length, s.2]
theorem FC_secU : ∀ l : List Sec, FC secU l = S (l.map fun s => s.1)
  | [] => rfl
  | s :: l => by rw [FC_cons, List.map_cons, S_cons, FC_secU l]; rfl
end Go.Proofs.YtillnjhmdgmgeaaDoor
