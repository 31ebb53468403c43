/- The code's Clone, Equal, Same, Put. -/
import Derived.Test.YtoemefoppkgfaaaECode5
import Derived.Lib.LazyBuf
namespace Go.Proofs.Ytoemefoppkgfaaa
set_option linter.unusedVariables false
set_option linter.unusedSimpArgs false
open Go.RowKit

theorem put_parts {l : List Ent} (h : E.rising l) (x : Ent) : E.put l x = l.filter (fun y => decide (y.key < x.key)) ++ [x] ++ l.filter (fun y => decide (x.key < y.key)) := by
  induction l with
  | nil => rfl
  | cons y r ih =>
    simp only [E.put, List.filter_cons]
    have none_lt : ∀ z : Ent, x.key ≤ z.key → (∀ y ∈ r, z.key < y.key) → r.filter (fun y => decide (y.key < x.key)) = [] := fun z hz hr => List.filter_eq_nil_iff.2 fun y hy => by have := hr y hy; simp; omega
    have all_gt : ∀ z : Ent, x.key ≤ z.key → (∀ y ∈ r, z.key < y.key) → r.filter (fun y => decide (x.key < y.key)) = r := fun z hz hr => List.filter_eq_self.2 fun y hy => by have := hr y hy; simp; omega
    by_cases h1 : y.key < x.key
    · have h2 : ¬ x.key < y.key := by omega
      simp [h1, h2, ih h.2]
    · by_cases h2 : y.key = x.key
      · have h3 : ¬ x.key < y.key := by omega
        rw [if_neg h1, if_pos h2]
        simp only [h1, h3, decide_false, Bool.false_eq_true, if_false]
        rw [none_lt y (by omega) h.1, all_gt y (by omega) h.1]; rfl
      · have h3 : x.key < y.key := by omega
        rw [if_neg h1, if_neg h2]
        simp only [h1, h3, decide_false, decide_true, Bool.false_eq_true, if_false, if_true]
        rw [none_lt y (by omega) h.1, all_gt y (by omega) h.1]; rfl

end Go.Proofs.Ytoemefoppkgfaaa
