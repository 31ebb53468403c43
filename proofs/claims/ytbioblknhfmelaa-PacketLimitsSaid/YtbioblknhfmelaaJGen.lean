/- Gen (merged). -/
import Derived.Test.YtbioblknhfmelaaJWords
namespace Go.Proofs.Ytbioblknhfmelaa
set_option linter.unusedVariables false
open Go.RowKit

section
variable {α : Type} {f : α → List Value} {k : Nat}
/-- a row's cells -/
def FC (f : α → List Value) (l : List α) : List Value := l.flatMap f
theorem FC_cons (x : α) (l : List α) : FC f (x :: l) = f x ++ FC f l := rfl
theorem FC_append (l m : List α) : FC f (l ++ m) = FC f l ++ FC f m := List.flatMap_append
theorem FC_one (x : α) : FC f [x] = f x := by simp [FC]
theorem FC_length (hf : ∀ x, (f x).length = k) (l : List α) : (FC f l).length = l.length * k := by
  induction l with
  | nil => simp [FC]
  | cons x r ih => rw [FC_cons, List.length_append, ih, hf, List.length_cons, Nat.add_mul]; omega
theorem FC_drop (hf : ∀ x, (f x).length = k) (l : List α) (i : Nat) : (FC f l).drop (i * k) = FC f (l.drop i) := by
  induction i generalizing l with
  | zero => simp
  | succ i ih =>
    cases l with
    | nil => simp [FC]
    | cons x r =>
      rw [FC_cons, List.drop_succ_cons, ← ih, Nat.add_mul, Nat.one_mul, Nat.add_comm (i * k) k, ← List.drop_drop, ← hf x, List.drop_left]
theorem FC_at (hf : ∀ x, (f x).length = k) {l : List α} {i : Nat} {x : α} (h : l[i]? = some x) (j : Nat) (hj : j < k) : (FC f l)[i * k + j]? = (f x)[j]? := by
  have h1 : (FC f l)[i * k + j]? = ((FC f l).drop (i * k))[j]? := by rw [List.getElem?_drop]
  rw [h1, FC_drop hf, drop_more h, FC_cons, List.getElem?_append_left (by rw [hf]; exact hj)]
end
end Go.Proofs.Ytbioblknhfmelaa

