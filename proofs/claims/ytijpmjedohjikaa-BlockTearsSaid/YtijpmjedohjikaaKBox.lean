/- A disk's row and a box of three cells. -/
import Derived.Test.YtijpmjedohjikaaKMem
import Derived.Test.YtijpmjedohjikaaBase
namespace Go.Proofs.Ytijpmjedohjikaa
set_option linter.unusedVariables false
set_option linter.unusedSimpArgs false
open Go.RowKit
theorem KRd.other {w : World} {u : Kv} (h : KRd w u) {b o : Nat} (hb : ∀ bk ok, u.A = some ⟨bk, ok, none⟩ → bk ≠ b) (v : Value) : KRd (w.setCell ⟨b, o, none⟩ v) u := ⟨(h.1.other hb v).more (by simp), h.2⟩
theorem Box.past {w : World} {b : Nat} {T : TypeId} {cs : Array Value} (h : Box w b T cs) (o : Nat) (ho : cs.size ≤ o) : w.cell? ⟨b, o, none⟩ = none := by
  rw [cell_of_row w b o cs T (0, 0) h]
  exact Array.getElem?_eq_none ho
/-- sectors don't lie in a box of three cells -/
theorem KRd.apart {w : World} {u : Kv} (h : KRd w u) {b : Nat} {T : TypeId} {v0 v1 v2 : Value} (hB : Box w b T #[v0, v1, v2]) (hn : 0 < u.n) : ∀ bk ok, u.A = some ⟨bk, ok, none⟩ → bk ≠ b := fun bk ok hA e => by
  subst e
  obtain ⟨b', o', s, e, _, _, h64, hc⟩ := h.1.atS h.2.1 h.len hn
  rw [hA] at e
  obtain ⟨rfl, rfl⟩ : bk = b' ∧ ok = o' := by simpa using e
  have h3 : (U s)[3]? = some ((U s)[3]'(by rw [U_length]; omega)) := List.getElem?_eq_getElem _
  have := hc 3 _ h3
  rw [hB.past _ (by show 3 ≤ _; omega)] at this
  cases this
theorem KRd.empty {w : World} {u : Kv} (h : KRd w u) (hn : u.n = 0) (w' : World) (hb : w.heap.size ≤ w'.heap.size) : KRd w' u := by
  refine ⟨⟨h.1.1, fun h0 => absurd h0 (by omega)⟩, h.2⟩
theorem KRd.box {w : World} {u : Kv} (h : KRd w u) {b o : Nat} {T : TypeId} {v0 v1 v2 : Value} (hB : Box w b T #[v0, v1, v2]) (v : Value) : KRd (w.setCell ⟨b, o, none⟩ v) u := by
  rcases Nat.eq_zero_or_pos u.n with h0 | h0
  · exact h.empty h0 _ (by simp)
  · exact h.other (h.apart hB h0) v
theorem Box.three {w : World} {b : Nat} {T : TypeId} {v0 v1 v2 : Value} (h : Box w b T #[v0, v1, v2]) (u0 u1 u2 : Value) : Box (((w.setCell ⟨b, 0, none⟩ u0).setCell ⟨b, 1, none⟩ u1).setCell ⟨b, 2, none⟩ u2) b T #[u0, u1, u2] := ((h.set 0 u0).set 1 u1).set 2 u2
theorem KRd.box3 {w : World} {u : Kv} (h : KRd w u) {b : Nat} {T : TypeId} {v0 v1 v2 : Value} (hB : Box w b T #[v0, v1, v2]) (u0 u1 u2 : Value) : KRd (((w.setCell ⟨b, 0, none⟩ u0).setCell ⟨b, 1, none⟩ u1).setCell ⟨b, 2, none⟩ u2) u :=
  ((h.box hB u0).box (v0 := u0) (hB.set 0 u0) u1).box (v0 := u0) (v1 := u1) ((hB.set 0 u0).set 1 u1) u2
end Go.Proofs.Ytijpmjedohjikaa
