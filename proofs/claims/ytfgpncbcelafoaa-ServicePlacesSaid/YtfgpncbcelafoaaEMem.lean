/- Tables in memory: rows of entries, each three cells (no program). -/
import Derived.Test.YtfgpncbcelafoaaWords
import Derived.Test.YtfgpncbcelafoaaEMath
import Derived.Deep.Slices
import Derived.Deep.Strs
import Derived.Deep.Fields
import Derived.ChangeArms
import Derived.DataReads
import Derived.Lib.SmallJoins
namespace Go.Proofs.Ytfgpncbcelafoaa
open Go.RowKit Go.ChangeShapes Go.WideShapes Go.Joins Go.Deep

/-- an entry's cells -/
def ec (x : Ent) : List Value := [.int .i64 x.key, .int .i64 x.ver, .string (strB x.val)]
/-- a table's cells -/
def EC (l : List Ent) : List Value := l.flatMap ec
/-- an entry's value -/
def ev (x : Ent) : Value := .agg #[.int .i64 x.key, .int .i64 x.ver, .string (strB x.val)]
theorem EC_nil : EC [] = [] := rfl
theorem EC_cons (x : Ent) (l : List Ent) : EC (x :: l) = ec x ++ EC l := rfl
theorem EC_append (l m : List Ent) : EC (l ++ m) = EC l ++ EC m := List.flatMap_append
theorem EC_length (l : List Ent) : (EC l).length = l.length * 3 := by
  induction l with
  | nil => rfl
  | cons x r ih => rw [EC_cons, List.length_append, ih, List.length_cons]; show 3 + _ = _; omega
theorem EC_one (l : List Ent) : ∀ u ∈ EC l, u.oneCell' = true := by
  intro u hu
  obtain ⟨x, _, hx⟩ := List.mem_flatMap.1 hu
  simp [ec] at hx
  rcases hx with rfl | rfl | rfl <;> rfl
theorem EC_drop (l : List Ent) (k : Nat) : (EC l).drop (k * 3) = EC (l.drop k) := by
  induction k generalizing l with
  | zero => simp
  | succ k ih =>
    cases l with
    | nil => simp [EC_nil]
    | cons x r =>
      rw [EC_cons, List.drop_succ_cons, ← ih, show (k + 1) * 3 = 3 + k * 3 by omega, ← List.drop_drop]
      rfl
theorem EC_take (l : List Ent) (k : Nat) : (EC l).take (k * 3) = EC (l.take k) := by
  induction k generalizing l with
  | zero => simp [EC_nil]
  | succ k ih =>
    cases l with
    | nil => simp [EC_nil]
    | cons x r =>
      rw [List.take_succ_cons, EC_cons, EC_cons, ← ih, show (k + 1) * 3 = (ec x).length + k * 3 by show _ = 3 + k * 3; omega, List.take_length_add_append]
theorem EC_at {l : List Ent} {k : Nat} {x : Ent} (h : l[k]? = some x) (j : Nat) (hj : j < 3) : (EC l)[k * 3 + j]? = (ec x)[j]? := by
  have h1 : (EC l)[k * 3 + j]? = ((EC l).drop (k * 3))[j]? := by rw [List.getElem?_drop]
  rw [h1, EC_drop, drop_more h, EC_cons, List.getElem?_append_left (by show j < 3; exact hj)]
/-- an element that is read -/
theorem Rd.atE {w : World} {B n : Nat} {A : Option Addr} {l : List Ent} (h : Rd w B 3 A n (EC l)) {k : Nat} (hk : k < n) :
    ∃ b o x, A = some ⟨b, o, none⟩ ∧ b < B ∧ l[k]? = some x ∧ w.cell? ⟨b, o + k * 3, none⟩ = some (.int .i64 x.key) ∧ w.cell? ⟨b, o + k * 3 + 1, none⟩ = some (.int .i64 x.ver) ∧
      w.cell? ⟨b, o + k * 3 + 2, none⟩ = some (.string (strB x.val)) := by
  obtain ⟨b, o, e, hb, hc⟩ := h.2 (by omega)
  have hn : l.length = n := by have := h.1; rw [EC_length] at this; omega
  have hl : k < l.length := by omega
  have hx : l[k]? = some l[k] := List.getElem?_eq_getElem hl
  have key : ∀ j, j < 3 → w.cell? ⟨b, o + (k * 3 + j), none⟩ = (ec l[k])[j]? := fun j hj => by rw [hc _ (by rw [EC_length]; omega), EC_at hx j hj]
  refine ⟨b, o, l[k], e, hb, hx, ?_, ?_, ?_⟩
  · have := key 0 (by omega); rw [Nat.add_zero] at this; rw [this]; rfl
  · have := key 1 (by omega); rw [← Nat.add_assoc] at this; rw [this]; rfl
  · have := key 2 (by omega); rw [← Nat.add_assoc] at this; rw [this]; rfl
theorem Rd.lenE {w : World} {B n : Nat} {A : Option Addr} {l : List Ent} (h : Rd w B 3 A n (EC l)) : l.length = n := by
  have := h.1; rw [EC_length] at this; omega

section
variable {H : Type} {enc : TypeId × Value → H} {P : Program} {W : World} {base fuel : Nat} {spare : Nat → Bool} {held : Bool}
/-- cells that are an entry -/
theorem ent_of {t : TypeId} {f0 f1 f2 : Field} {cs : List Value} {x : DataW H × List MemPlace} (hs : P.underlying t = some (.struct #[f0, f1, f2])) (hone : oneCellFields P #[f0, f1, f2] = true) (_hC : P.cellsOf t = 3)
    (h0 : P.underlying f0.type = some (.int .i64)) (h1 : P.underlying f1.type = some (.int .i64)) (h2 : P.underlying f2.type = some .string) (hl : cs.length = 3)
    (h : DataW.trod enc P W base spare held fuel t cs = some x) : ∃ e : Ent, cs = ec e ∧ e.val.length ∈ x.1.weights P t ∧ (Lit.int .i64 e.key).wf = true ∧ (Lit.int .i64 e.ver).wf = true := by
  obtain ⟨y0, y1, y2, n, hx, _, g0, g1, g2⟩ := trod_struct3 hs h
  obtain ⟨o0, k0⟩ := hone_of hone 0 f0 rfl
  obtain ⟨o1, k1⟩ := hone_of hone 1 f1 rfl
  obtain ⟨o2, k2⟩ := hone_of hone 2 f2 rfl
  match cs, hl with
  | [c0, c1, c2], _ =>
    rw [o0, k0] at g0
    rw [o1, k1] at g1
    rw [o2, k2] at g2
    obtain ⟨k, e0, _, w0⟩ := DataW.trod_int h0 g0
    obtain ⟨v, e1, _, w1⟩ := DataW.trod_int h1 g1
    obtain ⟨s, e2, hy, hm⟩ := DataW.trod_string h2 g2
    obtain rfl : c0 = .int .i64 k := by simpa using e0
    obtain rfl : c1 = .int .i64 v := by simpa using e1
    obtain rfl : c2 = .string s := by simpa using e2
    refine ⟨⟨k, v, s.data.toList⟩, rfl, ?_, w0, w1⟩
    rw [hx]
    show _ ∈ (DataW.agg [y0.1, y1.1, y2.1]).weights P t
    rw [weights_struct hs]
    refine DataW.weights_mem_each (j := 2) (t := f2.type) (d := y2.1) rfl rfl _ ?_
    rw [hy]
    simp [DataW.weights]
/-- a slice of entries that came in -/
def TableIn (W : World) (a : Option Addr) (len cap : Nat) (l : List Ent) : Prop :=
  Rd W W.heap.size 3 a len (EC l) ∧ len ≤ cap ∧ cap ≤ 9223372036854775807 ∧ len * 32 ≤ 140737488351232 ∧ ∀ x ∈ l, x.val.length ≤ 140737488351232 ∧ (Lit.int .i64 x.key).wf = true ∧ (Lit.int .i64 x.ver).wf = true
theorem table_of {t e : TypeId} {f0 f1 f2 : Field} {v : Value} {x : DataW H × List MemPlace} (ht : P.underlying t = some (.slice e)) (hs : P.underlying e = some (.struct #[f0, f1, f2])) (hone : oneCellFields P #[f0, f1, f2] = true)
    (hC : P.cellsOf e = 3) (h0 : P.underlying f0.type = some (.int .i64)) (h1 : P.underlying f1.type = some (.int .i64)) (h2 : P.underlying f2.type = some .string) (h3b : P.bytesOf e = 32) (hw : ∀ n ∈ x.1.weights P t, n ≤ 140737488351232)
    (h : DataW.trod enc P W base spare held fuel t [v] = some x) : ∃ a len cap l, v = .slice a len cap ∧ TableIn W a len cap l := by
  rcases open_slice ht h with ⟨hcs, _⟩ | ⟨a, len, cap, m, n, D, Pl, hcs, hb, hl, hm, hmm, hx0, hi⟩
  · obtain rfl : v = .slice none 0 0 := by simpa using hcs
    exact ⟨none, 0, 0, [], rfl, Rd.zero _ _ _ _, Nat.le_refl _, by omega, by omega, by simp⟩
  · obtain rfl : v = .slice (some a) len cap := by simpa using hcs
    have hlm : len ≤ m := by rw [hmm]; split <;> omega
    rw [hC] at hi
    rw [hx0] at hw
    have hw : ∀ n ∈ (DataW.slice ((List.range len).map D) ((List.range (m - len)).map fun j => D (len + j))).weights P t, n ≤ 140737488351232 := hw
    rw [weights_slice ht, h3b] at hw
    have hlen := hw _ (List.mem_cons_self ..)
    simp only [List.length_map, List.length_range] at hlen
    have each : ∀ i, i < len → ∃ e : Ent, (∀ j, j < 3 → W.cell? ((a.add (i * 3)).add j) = (ec e)[j]?) ∧ e.val.length ≤ 140737488351232 ∧ (Lit.int .i64 e.key).wf = true ∧ (Lit.int .i64 e.ver).wf = true := by
      intro i hi2
      obtain ⟨cs, hcs, htr⟩ := hi i (by omega)
      obtain ⟨_, hcl, hat⟩ := World.cells?_some hcs
      obtain ⟨e, rfl, g1, g2, g3⟩ := ent_of hs hone hC h0 h1 h2 hcl htr
      refine ⟨e, hat, hw _ (List.mem_cons_of_mem _ (List.mem_append_left _ (weights_all (d := D i) ?_ _ g1))), g2, g3⟩
      exact List.mem_map.2 ⟨i, by simpa using hi2, rfl⟩
    clear hi
    have all : ∀ k, k ≤ len → ∃ l : List Ent, l.length = k ∧ (∀ x ∈ l, x.val.length ≤ 140737488351232 ∧ (Lit.int .i64 x.key).wf = true ∧ (Lit.int .i64 x.ver).wf = true) ∧
        ∀ i e, l[i]? = some e → ∀ j, j < 3 → W.cell? ((a.add (i * 3)).add j) = (ec e)[j]? := by
      intro k
      induction k with
      | zero => exact fun _ => ⟨[], rfl, by simp, by simp⟩
      | succ k ih =>
        intro hk
        obtain ⟨l, h3, h4, h5⟩ := ih (by omega)
        obtain ⟨e, h6, h7⟩ := each k (by omega)
        refine ⟨l ++ [e], by simp [h3], ?_, ?_⟩
        · intro x hx
          rcases List.mem_append.1 hx with hx | hx
          · exact h4 x hx
          · obtain rfl : x = e := by simpa using hx
            exact h7
        · intro i e' hie
          by_cases hik : i < k
          · rw [List.getElem?_append_left (by omega)] at hie
            exact h5 i e' hie
          · rw [List.getElem?_append_right (by omega), h3] at hie
            have hi0 : i = k := by
              have := (List.getElem?_eq_some_iff.1 hie).1
              simp at this
              omega
            subst hi0
            obtain rfl : e = e' := by simpa using hie
            exact h6
    obtain ⟨l, h3, h4, h5⟩ := all len (Nat.le_refl _)
    unfold maxLen at hm
    refine ⟨some a, len, cap, l, rfl, ⟨by rw [EC_length, h3], fun hn => ?_⟩, hl, hm, by omega, h4⟩
    obtain ⟨b, o, spot⟩ := a
    have e0 : l[0]? = some (l[0]'(by omega)) := List.getElem?_eq_getElem _
    have c0 := h5 0 _ e0 0 (by omega)
    have hspot : spot = none := by
      have : W.cell? (((⟨b, o, spot⟩ : Addr).add (0 * 3)).add 0) = some (.int .i64 (l[0]'(by omega)).key) := c0
      simpa [Addr.add] using World.cell?_spot this
    subst hspot
    have hadd : ∀ j, (⟨b, o, none⟩ : Addr).add j = ⟨b, o + j, none⟩ := fun j => by unfold Addr.add; split <;> simp_all
    have hadd2 : ∀ o' j, (⟨b, o', none⟩ : Addr).add j = ⟨b, o' + j, none⟩ := fun o' j => by unfold Addr.add; split <;> simp_all
    refine ⟨b, o, rfl, ?_, fun j hj => ?_⟩
    · rw [hadd, hadd2] at c0
      exact lt_of_cell c0
    · rw [EC_length, h3] at hj
      have hq : j / 3 < l.length := by omega
      have hx : l[j / 3]? = some (l[j / 3]'hq) := List.getElem?_eq_getElem hq
      have := h5 (j / 3) _ hx (j % 3) (Nat.mod_lt _ (by omega))
      rw [hadd, hadd2, ← EC_at hx (j % 3) (Nat.mod_lt _ (by omega)), Nat.add_assoc, show j / 3 * 3 + j % 3 = j by omega] at this
      exact this
end
end Go.Proofs.Ytfgpncbcelafoaa
