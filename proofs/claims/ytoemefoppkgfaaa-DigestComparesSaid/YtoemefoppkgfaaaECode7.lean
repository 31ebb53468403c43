/- The code's Join and Over. -/
import Derived.Test.YtoemefoppkgfaaaECode6
namespace Go.Proofs.Ytoemefoppkgfaaa
set_option linter.unusedVariables false
set_option linter.unusedSimpArgs false
open Go.RowKit

/-- what Join asks of the first table is what it would ask of what it has so far -/
theorem get_sofar {l r : List Ent} (hl : E.rising l) (hr : E.rising r) {k : Nat} {y : Ent} (hy : r[k]? = some y) : E.get (E.join l (r.take k)) y.key = E.get l y.key := by
  rw [E.get_join hl (E.rising_take hr k)]
  have : E.get (r.take k) y.key = none := E.get_rising_none fun z hz => by
    obtain ⟨i, hi, rfl⟩ := List.mem_iff_getElem.1 hz
    have hi2 : i < k := by rw [List.length_take] at hi; omega
    have := E.rising_at hr hi2 (x := (r.take k)[i]) (by rw [List.getElem_take]; exact List.getElem?_eq_getElem _) hy
    omega
  rw [this, E.best_none]

end Go.Proofs.Ytoemefoppkgfaaa
